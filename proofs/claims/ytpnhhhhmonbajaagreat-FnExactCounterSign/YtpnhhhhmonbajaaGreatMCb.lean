import Derived.Test.YtpnhhhhmonbajaaGreatMGa
import Derived.Test.YtpnhhhhmonbajaaGreatMRJ
import Derived.Deep.AppendLies
import Derived.Test.YtpnhhhhmonbajaaGreatMCa
import Derived.Test.YtpnhhhhmonbajaaGreatMGb
set_option linter.unusedVariables false
namespace Go.Proofs.YtpnhhhhmonbajaaGreat
open Go.RowKit

theorem OwnKidsX.put10 {d : Nat} {S Q : Nat → Prop} {w w1 : World} {g n c : Nat} {xs : List ItT} {y : ItT} {i : Nat} {ak : Option Addr} {nk ck : Nat} {aq : Option Addr} {nq cq g' c' : Nat} {us : List Value}
    (h : OwnKidsX (d + 2) S w (some ⟨g, 0, none⟩) n c xs) (hd : 1 ≤ d) (hi : i < n) (hq : OwnBX Q w aq nq cq y.sg) (ho : y.over = []) (hu : U64 y.ky) (dQ : ∀ b, Q b → ¬ S b) (bS : ∀ b, S b → b < w.heap.size) (bQ : ∀ b, Q b → b < w.heap.size)
    (hc : w.cell? ⟨g, i * 4 + 3, none⟩ = some (.slice ak nk ck)) (hk : w.ownsRow 0 47 4 (.slice ak nk ck) nk us)
    (hg : w.grownBy w1 (Value.slice ak nk ck).ownBlock) (hl : (Value.slice ak nk ck).ownBlock = some g' ∨ g' = w.heap.size) (hn : nk + 1 ≤ 9223372036854775807)
    (hv : w1.ownsRow 0 47 4 (.slice (some ⟨g', 0, none⟩) (nk + 1) c') (nk + 1) (us ++ [.int .u64 y.ky, .int .i64 y.at2, .slice aq nq cq, .slice none 0 0])) :
    OwnKidsX (d + 2) (fun b => S b ∨ Q b ∨ b = g') (w1.setCell ⟨g, i * 4 + 3, none⟩ (.slice (some ⟨g', 0, none⟩) (nk + 1) c')) (some ⟨g, 0, none⟩) n c (xs.set i (overT (xs.getD i default) y)) ∧ TouchX (fun b => b = g ∨ (Value.slice ak nk ck).ownBlock = some b) w (w1.setCell ⟨g, i * 4 + 3, none⟩ (.slice (some ⟨g', 0, none⟩) (nk + 1) c')) := by
  obtain ⟨vs, hr⟩ := h.2.2.1
  have hSg : S g := h.2.2.2.1 g rfl
  obtain ⟨ab, nb, cb, ak', nk', ck', U, V, c0, c1, c3, c4, bU, bV, ob, ok⟩ := h.at hi
  have e4 : (Value.slice ak' nk' ck') = .slice ak nk ck := by rw [c4] at hc; exact Option.some.inj hc
  simp only [Value.slice.injEq] at e4
  obtain ⟨rfl, rfl, rfl⟩ := e4
  have hVb : ∀ b, (Value.slice ak' nk' ck').ownBlock = some b → V b := ok.2.2.2.1
  have hlt := (hr.lt g rfl).2
  have hg' : g' ≠ g := fun e => by
    rcases hl with hl | hl
    · exact (bV g' (hVb g' hl)).2 e
    · omega
  have ht1 : TouchX (fun b => (Value.slice ak' nk' ck').ownBlock = some b) w w1 := touchX_g hg (fun k hk => hk)
  have hr1 := ownsRow_moveX (S := fun b => b = g) hr (fun k hk => by simp [Value.ownBlock] at hk; exact hk.symm) (fun k hk e => (bV k (hVb k e)).2 hk) ht1
  have hr2 := (hr1.stored (i * 4 + 3) (.slice (some ⟨g', 0, none⟩) (nk' + 1) c')).1
  have ht2 : TouchX (fun b => g ≤ b ∧ b < g + 1) w1 (w1.setCell ⟨g, i * 4 + 3, none⟩ (.slice (some ⟨g', 0, none⟩) (nk' + 1) c')) := (touch_setT _ _ _ _ (Nat.le_refl _) (Nat.lt_succ_self _)).toX
  have hk2 := ownsRow_moveX (S := fun b => b = g') hv (fun k hk => by simp [Value.ownBlock] at hk; exact hk.symm) (fun k hk e => hg' (by omega)) ht2
  have ht : TouchX (fun b => b = g ∨ (Value.slice ak' nk' ck').ownBlock = some b) w (w1.setCell ⟨g, i * 4 + 3, none⟩ (.slice (some ⟨g', 0, none⟩) (nk' + 1) c')) := (ht1.mono (fun _ h => .inr h)).trans (ht2.mono (fun b h => .inl (by omega)))
  exact ⟨OwnKidsX.putOver h hd hi hq ho hu dQ hr hc hk hr2 hk2 ht (hl.imp (fun h => h) (fun e => ⟨fun hs => by have := bS g' hs; omega, fun hs => by have := bQ g' hs; omega⟩)) hn (fun b hb => .inl hb) (fun b hb => .inr (.inl hb)) (.inr (.inr rfl)), ht⟩

theorem set4_last (us : List Value) (z0 z1 z2 z3 v0 v1 v2 v3 : Value) (m : Nat) (hm : us.length = m) : ((((us ++ [z0, z1, z2, z3]).set m v0).set (m + 1) v1).set (m + 2) v2).set (m + 3) v3 = us ++ [v0, v1, v2, v3] := by
  subst hm
  simp

theorem OwnKidsX.put89 {d : Nat} {S Q : Nat → Prop} {w w1 : World} {g n c : Nat} {xs : List ItT} {y : ItT} {i : Nat} {ak : Option Addr} {nk ck : Nat} {aq : Option Addr} {nq cq g' c' : Nat} {us : List Value}
    (h : OwnKidsX (d + 2) S w (some ⟨g, 0, none⟩) n c xs) (hd : 1 ≤ d) (hi : i < n) (hq : OwnBX Q w aq nq cq y.sg) (ho : y.over = []) (hu : U64 y.ky) (dQ : ∀ b, Q b → ¬ S b) (bS : ∀ b, S b → b < w.heap.size) (bQ : ∀ b, Q b → b < w.heap.size)
    (hc : w.cell? ⟨g, i * 4 + 3, none⟩ = some (.slice ak nk ck)) (hk : w.ownsRow 0 47 4 (.slice ak nk ck) nk us)
    (hg : w.grownBy w1 (Value.slice ak nk ck).ownBlock) (hl : (Value.slice ak nk ck).ownBlock = some g' ∨ g' = w.heap.size) (hn : nk + 1 ≤ 9223372036854775807)
    (hv : w1.ownsRow 0 47 4 (.slice (some ⟨g', 0, none⟩) (nk + 1) c') (nk + 1) (us ++ [.int .u64 0, .int .i64 0, .slice none 0 0, .slice none 0 0])) :
    OwnKidsX (d + 2) (fun b => S b ∨ Q b ∨ b = g') (((((w1.setCell ⟨g, i * 4 + 3, none⟩ (.slice (some ⟨g', 0, none⟩) (nk + 1) c')).setCell ⟨g', nk * 4, none⟩ (.int .u64 y.ky)).setCell ⟨g', nk * 4 + 1, none⟩ (.int .i64 y.at2)).setCell ⟨g', nk * 4 + 2, none⟩ (.slice aq nq cq)).setCell ⟨g', nk * 4 + 3, none⟩ (.slice none 0 0)) (some ⟨g, 0, none⟩) n c (xs.set i (overT (xs.getD i default) y)) ∧ TouchX (fun b => b = g ∨ (Value.slice ak nk ck).ownBlock = some b) w (((((w1.setCell ⟨g, i * 4 + 3, none⟩ (.slice (some ⟨g', 0, none⟩) (nk + 1) c')).setCell ⟨g', nk * 4, none⟩ (.int .u64 y.ky)).setCell ⟨g', nk * 4 + 1, none⟩ (.int .i64 y.at2)).setCell ⟨g', nk * 4 + 2, none⟩ (.slice aq nq cq)).setCell ⟨g', nk * 4 + 3, none⟩ (.slice none 0 0)) := by
  obtain ⟨vs, hr⟩ := h.2.2.1
  have hSg : S g := h.2.2.2.1 g rfl
  obtain ⟨ab, nb, cb, ak', nk', ck', U, V, c0, c1, c3, c4, bU, bV, ob, ok⟩ := h.at hi
  have e4 : (Value.slice ak' nk' ck') = .slice ak nk ck := by rw [c4] at hc; exact Option.some.inj hc
  simp only [Value.slice.injEq] at e4
  obtain ⟨rfl, rfl, rfl⟩ := e4
  have hVb : ∀ b, (Value.slice ak' nk' ck').ownBlock = some b → V b := ok.2.2.2.1
  have hlt := (hr.lt g rfl).2
  have hg' : g' ≠ g := fun e => by
    rcases hl with hl | hl
    · exact (bV g' (hVb g' hl)).2 e
    · omega
  have ht1 : TouchX (fun b => (Value.slice ak' nk' ck').ownBlock = some b) w w1 := touchX_g hg (fun k hk => hk)
  have hr1 := ownsRow_moveX (S := fun b => b = g) hr (fun k hk => by simp [Value.ownBlock] at hk; exact hk.symm) (fun k hk e => (bV k (hVb k e)).2 hk) ht1
  have hr2 := (hr1.stored (i * 4 + 3) (.slice (some ⟨g', 0, none⟩) (nk' + 1) c')).1
  have ht2 : TouchX (fun b => g ≤ b ∧ b < g + 1) w1 (w1.setCell ⟨g, i * 4 + 3, none⟩ (.slice (some ⟨g', 0, none⟩) (nk' + 1) c')) := (touch_setT _ _ _ _ (Nat.le_refl _) (Nat.lt_succ_self _)).toX
  have hk2 := ownsRow_moveX (S := fun b => b = g') hv (fun k hk => by simp [Value.ownBlock] at hk; exact hk.symm) (fun k hk e => hg' (by omega)) ht2
  have hk3 := ((((hk2.stored (nk' * 4) (.int .u64 y.ky)).1.stored (nk' * 4 + 1) (.int .i64 y.at2)).1.stored (nk' * 4 + 2) (.slice aq nq cq)).1.stored (nk' * 4 + 3) (.slice none 0 0)).1
  rw [set4_last us _ _ _ _ _ _ _ _ (nk' * 4) hk.1] at hk3
  have tg : ∀ W j u, TouchX (fun b => g' ≤ b ∧ b < g' + 1) W (W.setCell ⟨g', j, none⟩ u) := fun W j u => (touch_setT _ _ _ _ (Nat.le_refl _) (Nat.lt_succ_self _)).toX
  have ht3 := (((tg (w1.setCell ⟨g, i * 4 + 3, none⟩ (.slice (some ⟨g', 0, none⟩) (nk' + 1) c')) (nk' * 4) (.int .u64 y.ky)).trans (tg _ (nk' * 4 + 1) (.int .i64 y.at2))).trans (tg _ (nk' * 4 + 2) (.slice aq nq cq))).trans (tg _ (nk' * 4 + 3) (.slice none 0 0))
  have hr3 := ownsRow_moveX (S := fun b => b = g) hr2 (fun k hk => by simp [Value.ownBlock] at hk; exact hk.symm) (fun k hk e => hg' (by omega)) ht3
  have ht12 : TouchX (fun b => b = g ∨ (Value.slice ak' nk' ck').ownBlock = some b) w (w1.setCell ⟨g, i * 4 + 3, none⟩ (.slice (some ⟨g', 0, none⟩) (nk' + 1) c')) := (ht1.mono (fun _ h => .inr h)).trans (ht2.mono (fun b h => .inl (by omega)))
  have ht : TouchX (fun b => b = g ∨ (Value.slice ak' nk' ck').ownBlock = some b) w (((((w1.setCell ⟨g, i * 4 + 3, none⟩ (.slice (some ⟨g', 0, none⟩) (nk' + 1) c')).setCell ⟨g', nk' * 4, none⟩ (.int .u64 y.ky)).setCell ⟨g', nk' * 4 + 1, none⟩ (.int .i64 y.at2)).setCell ⟨g', nk' * 4 + 2, none⟩ (.slice aq nq cq)).setCell ⟨g', nk' * 4 + 3, none⟩ (.slice none 0 0)) := by
    refine ⟨ht3.os.trans ht12.os, ht3.tape.trans ht12.tape, ht3.output.trans ht12.output, Nat.le_trans ht12.size ht3.size, fun k hk hne => ?_⟩
    refine (ht3.block k (Nat.lt_of_lt_of_le hk ht12.size) (fun e => ?_)).trans (ht12.block k hk hne)
    rcases hl with hl | hl
    · exact hne (.inr (by rw [hl]; congr 1; omega))
    · omega
  exact ⟨OwnKidsX.putOver h hd hi hq ho hu dQ hr hc hk hr3 hk3 ht (hl.imp (fun h => h) (fun e => ⟨fun hs => by have := bS g' hs; omega, fun hs => by have := bQ g' hs; omega⟩)) hn (fun b hb => .inl hb) (fun b hb => .inr (.inl hb)) (.inr (.inr rfl)), ht⟩

end Go.Proofs.YtpnhhhhmonbajaaGreat

set_option linter.unusedVariables false
namespace Go.Proofs.YtpnhhhhmonbajaaGreat
open Go.RowKit

theorem opw_storeV {P : Program} {Q : Exit → Act → World → Prop} {o : Oper} {a : Act} {w : World} {K : Act → World → Prop} (ty : TypeId) (x : Nat) (y : Operand) (ho : o.op = .store ty (.tmp x) y) (ad : Addr) (v : Value) (hx : aT a x = .pointer (some ad)) (hy : a.eval y = v) (w' : World)
    (hr : (Instr.storeAt ty (.pointer (some ad)) v).run P w = .ok () w') (h : K (a.put o.dst undef) w') : o.wp P a w K Q := by
  have hx' : a.eval (.tmp x) = .pointer (some ad) := hx
  unfold Oper.wp execOp
  simp only [ho, hx', hy, Sem.run_bind, hr, Result.andThen_ok, Sem.run_pure]
  exact h

/-- What the append has left. -/
structure AppX (W0 : World) (cs : Array Value) (ov : Value) (nk : Nat) (us : List Value) (g' c' : Nat) (W : World) : Prop where
  row : W.ownsRow 0 47 4 (.slice (some ⟨g', 0, none⟩) (nk + 1) c') (nk + 1) (us ++ cs.toList)
  grew : (W0.alloc (.cells cs 47)).grownBy W ov.ownBlock
  lies : ov.ownBlock = some g' ∨ g' = (W0.alloc (.cells cs 47)).heap.size
/-- The world turns three times: a row of one is made, it is appended, the field is stored. -/
structure Wd (W0 : World) (cs : Array Value) (ov : Value) (nk : Nat) (us : List Value) (pg pj : Nat) (lb la ls : Bool) (v : Value) (W : World) : Prop where
  s0 : lb = false → W = W0
  s1 : lb = true → la = false → W = W0.alloc (.cells cs 47)
  s2 : la = true → ls = false → ∃ g' c', v = .slice (some ⟨g', 0, none⟩) (nk + 1) c' ∧ AppX W0 cs ov nk us g' c' W
  s3 : ls = true → ∃ g' c' W1, v = .slice (some ⟨g', 0, none⟩) (nk + 1) c' ∧ AppX W0 cs ov nk us g' c' W1 ∧ W = W1.setCell ⟨pg, pj, none⟩ (.slice (some ⟨g', 0, none⟩) (nk + 1) c')
  eb : la = true → lb = true
  es : ls = true → la = true
theorem alloc_at (W : World) (o : Obj) {k : Nat} (hk : k < W.heap.size) : (W.alloc o).heap[k]? = W.heap[k]? := ((Below.refl W.heap.size W).alloc (Nat.le_refl _) o).block k hk
section
variable {W0 W : World} {cs : Array Value} {ov : Value} {nk : Nat} {us : List Value} {pg pj : Nat}
theorem AppX.blk {g' c' : Nat} (h : AppX W0 cs ov nk us g' c' W) {k : Nat} (hk : k < W0.heap.size) (hne : ov.ownBlock ≠ some k) : W.heap[k]? = W0.heap[k]? :=
  (h.grew.block k (by rw [show (W0.alloc (.cells cs 47)).heap.size = W0.heap.size + 1 by simp]; omega) (fun e => hne e.symm)).trans (alloc_at W0 _ hk)
theorem Wd.early {lb la ls : Bool} {v : Value} (h : Wd W0 cs ov nk us pg pj lb la ls v W) (ha : la = false) {k : Nat} (hk : k < W0.heap.size) : W.heap[k]? = W0.heap[k]? := by
  cases lb with
  | false => rw [h.s0 rfl]
  | true => rw [h.s1 rfl ha]; exact alloc_at W0 _ hk
theorem Wd.blk2 {lb la ls : Bool} {v : Value} (h : Wd W0 cs ov nk us pg pj lb la ls v W) (hs : ls = false) {k : Nat} (hk : k < W0.heap.size) (hne : ov.ownBlock ≠ some k) : W.heap[k]? = W0.heap[k]? := by
  cases la with
  | false => exact h.early rfl hk
  | true =>
    obtain ⟨g', c', _, hx⟩ := h.s2 rfl hs
    exact hx.blk hk hne
theorem Wd.blk {lb la ls : Bool} {v : Value} (h : Wd W0 cs ov nk us pg pj lb la ls v W) {k : Nat} (hk : k < W0.heap.size) (hne : ov.ownBlock ≠ some k) (hp : k ≠ pg) : W.heap[k]? = W0.heap[k]? := by
  cases ls with
  | false => exact h.blk2 rfl hk hne
  | true =>
    obtain ⟨g', c', W1, _, hx, rfl⟩ := h.s3 rfl
    exact ((touch_setT W1 pg pj _ (Nat.le_refl _) (Nat.lt_succ_self _)).block k (Nat.lt_of_lt_of_le hk (Nat.le_trans (by rw [show (W0.alloc (.cells cs 47)).heap.size = W0.heap.size + 1 by simp]; omega) hx.grew.size)) (by omega)).trans (hx.blk hk hne)
theorem AppX.bel {g' c' : Nat} (h : AppX W0 cs ov nk us g' c' W) : Below 0 W0 W := ⟨h.grew.os, h.grew.tape, h.grew.output, Nat.le_trans (by simp) h.grew.size, fun k hk => absurd hk (Nat.not_lt_zero _)⟩
theorem Wd.bel {lb la ls : Bool} {v : Value} (h : Wd W0 cs ov nk us pg pj lb la ls v W) : Below 0 W0 W := by
  cases lb with
  | false => rw [h.s0 rfl]; exact Below.refl _ _
  | true =>
  cases la with
  | false => rw [h.s1 rfl rfl]; exact (Below.refl _ _).alloc (Nat.zero_le _) _
  | true =>
  cases ls with
  | false =>
    obtain ⟨g', c', _, hx⟩ := h.s2 rfl rfl
    exact hx.bel
  | true =>
    obtain ⟨g', c', W1, _, hx, rfl⟩ := h.s3 rfl
    have ht := touch_setT W1 pg pj (.slice (some ⟨g', 0, none⟩) (nk + 1) c') (Nat.le_refl _) (Nat.lt_succ_self _)
    exact hx.bel.trans ⟨ht.os, ht.tape, ht.output, ht.size, fun k hk => absurd hk (Nat.not_lt_zero _)⟩
theorem Wd.start (v : Value) : Wd W0 cs ov nk us pg pj false false false v W0 := ⟨fun _ => rfl, fun h => (by cases h), fun h => (by cases h), fun h => (by cases h), fun h => (by cases h), fun h => (by cases h)⟩
variable {l : Nat → Bool} {a : Act} {kb ka ks sa : Nat}
theorem Wd.put (h : Wd W0 cs ov nk us pg pj (l kb) (l ka) (l ks) (aT a sa) W) (k d : Nat) (v : Value) (hk : kb ≠ k ∧ ka ≠ k ∧ ks ≠ k) (hd : d ≠ sa) : Wd W0 cs ov nk us pg pj (upd l k kb) (upd l k ka) (upd l k ks) (aT (a.put (some d) v) sa) W := by
  rw [upd_ne hk.1, upd_ne hk.2.1, upd_ne hk.2.2, aT_put_ne hd]
  exact h
theorem Wd.build (h : Wd W0 cs ov nk us pg pj (l kb) (l ka) (l ks) (aT a sa) W) (hb : l kb = false) (hne : ka ≠ kb ∧ ks ≠ kb) (v : Value) : Wd W0 cs ov nk us pg pj (upd l kb kb) (upd l kb ka) (upd l kb ks) v (W.alloc (.cells cs 47)) := by
  have ha : l ka = false := unX (fun e => by have := h.eb e; rw [hb] at this; cases this)
  have hs : l ks = false := unX (fun e => by have := h.es e; rw [ha] at this; cases this)
  rw [upd_same, upd_ne hne.1, upd_ne hne.2, ha, hs, h.s0 hb]
  exact ⟨fun h => (by cases h), fun _ _ => rfl, fun h => (by cases h), fun h => (by cases h), fun h => (by cases h), fun h => (by cases h)⟩
theorem Wd.app (h : Wd W0 cs ov nk us pg pj (l kb) (l ka) (l ks) (aT a sa) W) (hb : l kb = true) (ha : l ka = false) (hne : kb ≠ ka ∧ ks ≠ ka) {g' c' : Nat} {W' : World} (hx : AppX W0 cs ov nk us g' c' W') : Wd W0 cs ov nk us pg pj (upd l ka kb) (upd l ka ka) (upd l ka ks) (.slice (some ⟨g', 0, none⟩) (nk + 1) c') W' := by
  have hs : l ks = false := unX (fun e => by have := h.es e; rw [ha] at this; cases this)
  rw [upd_same, upd_ne hne.1, upd_ne hne.2, hb, hs]
  exact ⟨fun h => (by cases h), fun _ h => (by cases h), fun _ _ => ⟨g', c', rfl, hx⟩, fun h => (by cases h), fun _ => rfl, fun h => (by cases h)⟩
theorem Wd.stored (h : Wd W0 cs ov nk us pg pj (l kb) (l ka) (l ks) (aT a sa) W) (ha : l ka = true) (hs : l ks = false) (hne : kb ≠ ks ∧ ka ≠ ks) : Wd W0 cs ov nk us pg pj (upd l ks kb) (upd l ks ka) (upd l ks ks) (aT a sa) (W.setCell ⟨pg, pj, none⟩ (aT a sa)) := by
  rw [upd_same, upd_ne hne.1, upd_ne hne.2, h.eb ha, ha]
  obtain ⟨g', c', e, hx⟩ := h.s2 ha hs
  rw [e]
  exact ⟨fun h => (by cases h), fun _ h => (by cases h), fun _ h => (by cases h), fun _ => ⟨g', c', W, rfl, hx, rfl⟩, fun _ => rfl, fun _ => rfl⟩
end

/-- What lies there at the end: the message, the secret, the boxes of the results. -/
structure Tz (D G gm gt nn n : Nat) (b1 : Option Addr) (d1 g d2 : Nat) (V1 : NsV) (ws : List Int) (xs : List ItT) (U S : Nat → Prop) (w : World) : Prop where
  box : w.heap[gm]? = some (.cells #[.slice b1 nn d1, .slice (some ⟨g, 0, none⟩) n d2] 32 (0, 0))
  sec : w.heap[gt]? = some (.cells #[.int .i64 V1.t.1, .int .u64 V1.t.2.1, .int .i64 V1.t.2.2.1, .int .i64 V1.t.2.2.2] 33 (0, 0))
  rm : w.heap[G + 1 + 1]? = some (.cells #[.slice none 0 0, .slice none 0 0] 32 (0, 0))
  rs : w.heap[G + 1 + 1 + 1]? = some (.cells #[.int .i64 0, .int .u64 0, .int .i64 0, .int .i64 0] 33 (0, 0))
  msg : MsgX (D + 3) U S w b1 nn d1 ws (some ⟨g, 0, none⟩) n d2 xs
  lt : ∀ b, U b ∨ S b → G + 4 ≤ b ∧ b < w.heap.size
structure Tl (D G gm gq gt nn n : Nat) (b1 : Option Addr) (d1 g d2 : Nat) (a2 : Option Addr) (c2 : Nat) (V1 : NsV) (ws : List Int) (xs : List ItT) (U S Q : Nat → Prop) (w : World) : Prop where
  z : Tz D G gm gt nn n b1 d1 g d2 V1 ws xs U S w
  sg : w.heap[gq]? = some (.cells #[.int .u64 V1.k, .int .i64 V1.at2, .slice a2 V1.sg.length c2, .slice none 0 0] 47 (0, 0))
  sig : OwnBX Q w a2 V1.sg.length c2 V1.sg
  dq : ∀ b, Q b → ¬ S b ∧ ¬ U b
  ap : ¬ S gm ∧ ¬ S gq ∧ ¬ S gt
  lq : ∀ b, Q b → G + 4 ≤ b ∧ b < w.heap.size
theorem Tz.kept {D G gm gt nn n : Nat} {b1 : Option Addr} {d1 g d2 : Nat} {V1 : NsV} {ws : List Int} {xs : List ItT} {U S : Nat → Prop} {w w' : World} (h : Tz D G gm gt nn n b1 d1 g d2 V1 ws xs U S w) (hb : Below w.heap.size w w') : Tz D G gm gt nn n b1 d1 g d2 V1 ws xs U S w' :=
  ⟨below_kept h.box hb, below_kept h.sec hb, below_kept h.rm hb, below_kept h.rs hb, h.msg.kept hb, fun b hb' => ⟨(h.lt b hb').1, Nat.lt_of_lt_of_le (h.lt b hb').2 hb.size⟩⟩
theorem Tl.kept {D G gm gq gt nn n : Nat} {b1 : Option Addr} {d1 g d2 : Nat} {a2 : Option Addr} {c2 : Nat} {V1 : NsV} {ws : List Int} {xs : List ItT} {U S Q : Nat → Prop} {w w' : World} (h : Tl D G gm gq gt nn n b1 d1 g d2 a2 c2 V1 ws xs U S Q w) (hb : Below w.heap.size w w') : Tl D G gm gq gt nn n b1 d1 g d2 a2 c2 V1 ws xs U S Q w' :=
  ⟨h.z.kept hb, below_kept h.sg hb, h.sig.touch (P := fun _ => False) (fun _ _ h => h) (TouchX.of_below hb), h.dq, h.ap, fun b hb' => ⟨(h.lq b hb').1, Nat.lt_of_lt_of_le (h.lq b hb').2 hb.size⟩⟩
/-- The tree has grown, whatever lay outside of it is as it was. -/
theorem Tl.grown {D G gm gq gt nn n : Nat} {b1 : Option Addr} {d1 g d2 : Nat} {a2 : Option Addr} {c2 : Nat} {V1 : NsV} {ws : List Int} {xs ys : List ItT} {U S Q S' : Nat → Prop} {w w' : World} (h : Tl D G gm gq gt nn n b1 d1 g d2 a2 c2 V1 ws xs U S Q w)
    (hk : OwnKidsX (D + 3) S' w' (some ⟨g, 0, none⟩) n d2 ys) (ht : TouchX S w w') (hS : ∀ b, S' b → S b ∨ Q b ∨ (w.heap.size ≤ b ∧ b < w'.heap.size)) : Tz D G gm gt nn n b1 d1 g d2 V1 ws ys U S' w' := by
  have sz := ht.size
  have hU := fun b hb => h.z.lt b (.inl hb)
  refine ⟨(ht.block _ (Array.getElem?_eq_some_iff.1 h.z.box).1 h.ap.1).trans h.z.box, (ht.block _ (Array.getElem?_eq_some_iff.1 h.z.sec).1 h.ap.2.2).trans h.z.sec, (ht.block _ (Array.getElem?_eq_some_iff.1 h.z.rm).1 (fun e => by have := (h.z.lt _ (.inr e)).1; omega)).trans h.z.rm, (ht.block _ (Array.getElem?_eq_some_iff.1 h.z.rs).1 (fun e => by have := (h.z.lt _ (.inr e)).1; omega)).trans h.z.rs, ⟨h.z.msg.ct.touch h.z.msg.ap ht, hk, fun b hb hs => ?_⟩, fun b hb => ?_⟩
  · rcases hS b hs with e | e | e
    · exact h.z.msg.ap b hb e
    · exact (h.dq b e).2 hb
    · have := (hU b hb).2
      omega
  · rcases hb with hb | hb
    · have := hU b hb
      omega
    · have hG : G + 1 + 1 + 1 < w.heap.size := (Array.getElem?_eq_some_iff.1 h.z.rs).1
      rcases hS b hb with e | e | e
      · have := h.z.lt b (.inr e)
        omega
      · have := h.lq b e
        omega
      · omega


theorem opw_buildSlice {P : Program} {Q : Exit → Act → World → Prop} {o : Oper} {a : Act} {w : World} {K : Act → World → Prop} (t : TypeId) (n : Nat) (parts : Array (Nat × Operand)) (ho : o.op = .buildSlice t n parts) (vs : Array (Nat × Value)) (hvs : (parts.map fun p => (p.1, a.eval p.2)) = vs) (v : Value) (w' : World)
    (hr : (Instr.buildSlice t n vs).run P w = .ok v w') (h : K (a.put o.dst v) w') : o.wp P a w K Q := by
  refine opw_value v ?_ h
  have hvs' : (parts.map fun x : Nat × Operand => match x with | (i, x) => (i, a.eval x)) = vs := hvs
  unfold execOp
  simp only [ho]
  rw [hvs']
  simp [hr]
theorem opw_len {P : Program} {Q : Exit → Act → World → Prop} {o : Oper} {a : Act} {w : World} {K : Act → World → Prop} (x : Nat) (t e : TypeId) (ht : P.underlying t = some (.slice e)) (ho : o.op = .call { callee := .builtin .len, args := #[.tmp x], argTypes := #[t] }) (ad : Option Addr) (n c : Nat) (hx : aT a x = .slice ad n c) (h : K (a.put o.dst (.int .i64 (n : Int))) w) : o.wp P a w K Q := by
  have hx' : a.eval (.tmp x) = .slice ad n c := hx
  have hr : (Builtin.len_ #[t] o.type #[.slice ad n c]).run P w = .ok (.int .i64 (n : Int)) w := by simp [Builtin.len_, run_underlying ht]; rfl
  unfold Oper.wp execOp
  simp only [ho, resolve, invoke, builtin, Sem.run_bind, Sem.run_pure, Result.andThen_ok, List.map_toArray, List.map_cons, List.map_nil, hx', hr]
  exact h
/-- The one that is signed over, in the copy. -/
theorem Tl.over {D G gm gq gt nn n : Nat} {b1 : Option Addr} {d1 g d2 : Nat} {a2 : Option Addr} {c2 : Nat} {V1 : NsV} {ws : List Int} {xs : List ItT} {U S Q : Nat → Prop} {w : World} (h : Tl D G gm gq gt nn n b1 d1 g d2 a2 c2 V1 ws xs U S Q w) {kq : Nat} (hi : kq < n) :
    ∃ ak nk ck us, w.cell? ⟨g, kq * 4 + 3, none⟩ = some (.slice ak nk ck) ∧ w.ownsRow 0 47 4 (.slice ak nk ck) nk us ∧ (∀ k, (Value.slice ak nk ck).ownBlock = some k → S k ∧ k ≠ g) ∧ (xs.getD kq default).over.length = nk ∧ (∀ j, w.frozen? ⟨g, j, none⟩ = false) ∧ S g ∧ g < w.heap.size := by
  obtain ⟨ab, nb, cb, ak, nk, ck, U', V', c0, c1, c3, c4, bU, bV, ob, ok⟩ := h.z.msg.sg.at hi
  obtain ⟨us, hus⟩ := ok.2.2.1
  obtain ⟨vs, hvs⟩ := h.z.msg.sg.2.2.1
  exact ⟨ak, nk, ck, us, c4, hus, fun k hk => bV k (ok.2.2.2.1 k hk), ok.1, fun j => hvs.frozenAt j, h.z.msg.sg.2.2.2.1 g rfl, (hvs.lt g rfl).2⟩
theorem Tl.put10 {D G gm gq gt nn n : Nat} {b1 : Option Addr} {d1 g d2 : Nat} {a2 : Option Addr} {c2 : Nat} {V1 : NsV} {ws : List Int} {xs : List ItT} {U S Q : Nat → Prop} {w W1 : World} (h : Tl D G gm gq gt nn n b1 d1 g d2 a2 c2 V1 ws xs U S Q w) {kq : Nat} (hi : kq < n) (hu : U64 V1.k) {ak : Option Addr} {nk ck : Nat} {us : List Value} {g' c' : Nat} (hn : nk ≤ 6)
    (hc : w.cell? ⟨g, kq * 4 + 3, none⟩ = some (.slice ak nk ck)) (hk : w.ownsRow 0 47 4 (.slice ak nk ck) nk us) (ho : ∀ k, (Value.slice ak nk ck).ownBlock = some k → S k ∧ k ≠ g) (hSg : S g) (hx : AppX w #[.int .u64 V1.k, .int .i64 V1.at2, .slice a2 V1.sg.length c2, .slice none 0 0] (.slice ak nk ck) nk us g' c' W1) :
    ∃ S', Tz D G gm gt nn n b1 d1 g d2 V1 ws (xs.set kq (overT (xs.getD kq default) (sgTr V1))) U S' (W1.setCell ⟨g, kq * 4 + 3, none⟩ (.slice (some ⟨g', 0, none⟩) (nk + 1) c')) ∧ TouchX S w (W1.setCell ⟨g, kq * 4 + 3, none⟩ (.slice (some ⟨g', 0, none⟩) (nk + 1) c')) := by
  have hB : Below w.heap.size w (w.alloc (.cells #[.int .u64 V1.k, .int .i64 V1.at2, .slice a2 V1.sg.length c2, .slice none 0 0] 47)) := (Below.refl _ _).alloc (Nat.le_refl _) _
  have hz : (w.alloc (.cells #[.int .u64 V1.k, .int .i64 V1.at2, .slice a2 V1.sg.length c2, .slice none 0 0] 47)).heap.size = w.heap.size + 1 := by simp
  have hA := h.kept hB
  have hcA : (w.alloc (.cells #[.int .u64 V1.k, .int .i64 V1.at2, .slice a2 V1.sg.length c2, .slice none 0 0] 47)).cell? ⟨g, kq * 4 + 3, none⟩ = some (.slice ak nk ck) := (hB.cell (p := ⟨g, kq * 4 + 3, none⟩) (h.z.lt g (.inr hSg)).2).trans hc
  have hkA : (w.alloc (.cells #[.int .u64 V1.k, .int .i64 V1.at2, .slice a2 V1.sg.length c2, .slice none 0 0] 47)).ownsRow 0 47 4 (.slice ak nk ck) nk us := ownsRow_moveX (P := fun _ => False) (S := fun _ => True) hk (fun _ _ => trivial) (fun _ _ h => h) (TouchX.of_below hB)
  obtain ⟨q1, q2⟩ := OwnKidsX.put10 (d := D + 1) (y := sgTr V1) hA.z.msg.sg (by omega) hi hA.sig rfl hu (fun b hb => (hA.dq b hb).1) (fun b hb => (hA.z.lt b (.inr hb)).2) (fun b hb => (hA.lq b hb).2) hcA hkA hx.grew hx.lies (by omega) hx.row
  have ht : TouchX S w (W1.setCell ⟨g, kq * 4 + 3, none⟩ (.slice (some ⟨g', 0, none⟩) (nk + 1) c')) := (TouchX.of_below hB).trans (q2.mono (fun b hb => hb.elim (fun e => by rw [e]; exact hSg) (fun e => (ho b e).1)))
  refine ⟨_, h.grown q1 ht (fun b hb => ?_), ht⟩
  rcases hb with hb | hb | rfl
  · exact .inl hb
  · exact .inr (.inl hb)
  · rcases hx.lies with e | e
    · exact .inl (ho _ e).1
    · refine .inr (.inr ⟨by omega, ?_⟩)
      have h1 := (hx.row.lt b rfl).2
      have h2 := (touch_setT W1 g (kq * 4 + 3) (.slice (some ⟨b, 0, none⟩) (nk + 1) c') (Nat.le_refl _) (Nat.lt_succ_self _)).size
      exact Nat.lt_of_lt_of_le h1 h2
theorem Tl.put89 {D G gm gq gt nn n : Nat} {b1 : Option Addr} {d1 g d2 : Nat} {a2 : Option Addr} {c2 : Nat} {V1 : NsV} {ws : List Int} {xs : List ItT} {U S Q : Nat → Prop} {w W1 : World} (h : Tl D G gm gq gt nn n b1 d1 g d2 a2 c2 V1 ws xs U S Q w) {kq : Nat} (hi : kq < n) (hu : U64 V1.k) {ak : Option Addr} {nk ck : Nat} {us : List Value} {g' c' : Nat} (hn : nk ≤ 6)
    (hc : w.cell? ⟨g, kq * 4 + 3, none⟩ = some (.slice ak nk ck)) (hk : w.ownsRow 0 47 4 (.slice ak nk ck) nk us) (ho : ∀ k, (Value.slice ak nk ck).ownBlock = some k → S k ∧ k ≠ g) (hSg : S g) (hx : AppX w #[.int .u64 0, .int .i64 0, .slice none 0 0, .slice none 0 0] (.slice ak nk ck) nk us g' c' W1) {W2 : World}
    (hW2 : W2 = ((((W1.setCell ⟨g, kq * 4 + 3, none⟩ (.slice (some ⟨g', 0, none⟩) (nk + 1) c')).setCell ⟨g', nk * 4, none⟩ (.int .u64 V1.k)).setCell ⟨g', nk * 4 + 1, none⟩ (.int .i64 V1.at2)).setCell ⟨g', nk * 4 + 2, none⟩ (.slice a2 V1.sg.length c2)).setCell ⟨g', nk * 4 + 3, none⟩ (.slice none 0 0)) :
    ∃ S', Tz D G gm gt nn n b1 d1 g d2 V1 ws (xs.set kq (overT (xs.getD kq default) (sgTr V1))) U S' W2 ∧ TouchX S w W2 := by
  have hB : Below w.heap.size w (w.alloc (.cells #[.int .u64 0, .int .i64 0, .slice none 0 0, .slice none 0 0] 47)) := (Below.refl _ _).alloc (Nat.le_refl _) _
  have hz : (w.alloc (.cells #[.int .u64 0, .int .i64 0, .slice none 0 0, .slice none 0 0] 47)).heap.size = w.heap.size + 1 := by simp
  have hA := h.kept hB
  have hcA : (w.alloc (.cells #[.int .u64 0, .int .i64 0, .slice none 0 0, .slice none 0 0] 47)).cell? ⟨g, kq * 4 + 3, none⟩ = some (.slice ak nk ck) := (hB.cell (p := ⟨g, kq * 4 + 3, none⟩) (h.z.lt g (.inr hSg)).2).trans hc
  have hkA : (w.alloc (.cells #[.int .u64 0, .int .i64 0, .slice none 0 0, .slice none 0 0] 47)).ownsRow 0 47 4 (.slice ak nk ck) nk us := ownsRow_moveX (P := fun _ => False) (S := fun _ => True) hk (fun _ _ => trivial) (fun _ _ h => h) (TouchX.of_below hB)
  obtain ⟨q1, q2⟩ := OwnKidsX.put89 (d := D + 1) (y := sgTr V1) hA.z.msg.sg (by omega) hi hA.sig rfl hu (fun b hb => (hA.dq b hb).1) (fun b hb => (hA.z.lt b (.inr hb)).2) (fun b hb => (hA.lq b hb).2) hcA hkA hx.grew hx.lies (by omega) hx.row
  have q1' : OwnKidsX (D + 1 + 2) (fun b => S b ∨ Q b ∨ b = g') W2 (some ⟨g, 0, none⟩) n d2 (xs.set kq (overT (xs.getD kq default) (sgTr V1))) := by rw [hW2]; exact q1
  have q2' : TouchX (fun b => b = g ∨ (Value.slice ak nk ck).ownBlock = some b) (w.alloc (.cells #[.int .u64 0, .int .i64 0, .slice none 0 0, .slice none 0 0] 47)) W2 := by rw [hW2]; exact q2
  have ht : TouchX S w W2 := (TouchX.of_below hB).trans (q2'.mono (fun b hb => hb.elim (fun e => by rw [e]; exact hSg) (fun e => (ho b e).1)))
  refine ⟨_, h.grown q1' ht (fun b hb => ?_), ht⟩
  rcases hb with hb | hb | rfl
  · exact .inl hb
  · exact .inr (.inl hb)
  · rcases hx.lies with e | e
    · exact .inl (ho _ e).1
    · refine .inr (.inr ⟨by omega, ?_⟩)
      have h1 := (hx.row.lt b rfl).2
      have h2 : W1.heap.size ≤ W2.heap.size := by
        rw [hW2]
        have t : ∀ (W : World) k j v, W.heap.size ≤ (W.setCell ⟨k, j, none⟩ v).heap.size := fun W k j v => (touch_setT W k j v (Nat.le_refl _) (Nat.lt_succ_self _)).size
        exact Nat.le_trans (Nat.le_trans (Nat.le_trans (Nat.le_trans (t _ _ _ _) (t _ _ _ _)) (t _ _ _ _)) (t _ _ _ _)) (t _ _ _ _)
      exact Nat.lt_of_lt_of_le h1 h2
/-- The four cells of the zero that was appended. -/
theorem AppX.last {w W1 : World} {ov : Value} {nk : Nat} {us : List Value} {g' c' g j : Nat} {u : Value} (hl : us.length = nk * 4) (hx : AppX w #[.int .u64 0, .int .i64 0, .slice none 0 0, .slice none 0 0] ov nk us g' c' W1) (hg : g' ≠ g) {W : World} (hW : W = W1.setCell ⟨g, j, none⟩ u) :
    (W.cell? ⟨g', nk * 4, none⟩ = some (.int .u64 0) ∧ W.cell? ⟨g', nk * 4 + 1, none⟩ = some (.int .i64 0) ∧ W.cell? ⟨g', nk * 4 + 2, none⟩ = some (.slice none 0 0) ∧ W.cell? ⟨g', nk * 4 + 3, none⟩ = some (.slice none 0 0)) ∧ ∀ i, W.frozen? ⟨g', i, none⟩ = false := by
  have ht : Touch g (g + 1) W1 W := by rw [hW]; exact touch_setT W1 g j u (Nat.le_refl _) (Nat.lt_succ_self _)
  have hr := ownsRow_moveX (S := fun b => b = g') hx.row (fun k hk => by simp [Value.ownBlock] at hk; exact hk.symm) (fun k hk e => by omega) ht.toX
  have cn : ∀ i, i < 4 → W.cell? ⟨g', nk * 4 + i, none⟩ = [Value.int .u64 0, .int .i64 0, .slice none 0 0, .slice none 0 0][i]? := fun i hi => by
    rw [hr.cellAt _ (by omega), List.getElem?_append_right (by omega)]
    congr 1; omega
  exact ⟨⟨cn 0 (by omega), cn 1 (by omega), cn 2 (by omega), cn 3 (by omega)⟩, fun i => hr.frozenAt i⟩
/-- The message at the end, whatever is done to the boxes of the results. -/
def MsgQ (D G : Nat) (U S : Nat → Prop) (b1 : Option Addr) (nn d1 : Nat) (ws : List Int) (b2 : Option Addr) (n d2 : Nat) (zs : List ItT) (w : World) : Prop := MsgX (D + 3) U S w b1 nn d1 ws b2 n d2 zs ∧ ∀ b, U b ∨ S b → G + 4 ≤ b ∧ b < w.heap.size
theorem MsgQ.kept {D G : Nat} {U S : Nat → Prop} {b1 : Option Addr} {nn d1 : Nat} {ws : List Int} {b2 : Option Addr} {n d2 : Nat} {zs : List ItT} {w w' : World} (h : MsgQ D G U S b1 nn d1 ws b2 n d2 zs w) (hb : Below w.heap.size w w') : MsgQ D G U S b1 nn d1 ws b2 n d2 zs w' := ⟨h.1.kept hb, fun b hb' => ⟨(h.2 b hb').1, Nat.lt_of_lt_of_le (h.2 b hb').2 hb.size⟩⟩
theorem MsgQ.touched {D G : Nat} {U S : Nat → Prop} {b1 : Option Addr} {nn d1 : Nat} {ws : List Int} {b2 : Option Addr} {n d2 : Nat} {zs : List ItT} {w w' : World} {k : Nat} (h : MsgQ D G U S b1 nn d1 ws b2 n d2 zs w) (ht : Touch k (k + 1) w w') (hk : k < G + 4) : MsgQ D G U S b1 nn d1 ws b2 n d2 zs w' :=
  ⟨h.1.move (fun b hb e => by have := (h.2 b (.inl hb)).1; omega) (fun b hb e => by have := (h.2 b (.inr hb)).1; omega) ht.toX, fun b hb' => ⟨(h.2 b hb').1, Nat.lt_of_lt_of_le (h.2 b hb').2 ht.size⟩⟩
theorem indexSg0 (g n c kq : Nat) (W : World) (h : kq < n) : (Instr.indexAt 30 (.slice (some ⟨g, 0, none⟩) n c) (.int .i64 (kq : Int))).run Tryz.prog W = .ok (.pointer (some ⟨g, kq * 4, none⟩)) W := by
  have := indexSg g 0 n c kq W h
  rwa [Nat.zero_add] at this

end Go.Proofs.YtpnhhhhmonbajaaGreat

set_option linter.unusedVariables false
namespace Go.Proofs.YtpnhhhhmonbajaaGreat
open Go.RowKit Go.Sort

/-- What the regions 8 and 10 read. -/
structure Wx (gm gq g no kq : Nat) (S : Nat → Prop) (us : List Value) (ov m1 m2 : Value) (vg : Array Value) (w : World) : Prop where
  bx : w.heap[gm]? = some (.cells #[m1, m2] 32 (0, 0))
  l1 : gm < w.heap.size
  m1 : ov.ownBlock ≠ some gm
  m2 : gm ≠ g
  sg : w.heap[gq]? = some (.cells vg 47 (0, 0))
  l2 : gq < w.heap.size
  q1 : ov.ownBlock ≠ some gq
  q2 : gq ≠ g
  lg : g < w.heap.size
  cl : w.cell? ⟨g, kq * 4 + 3, none⟩ = some ov
  og : ov.ownBlock ≠ some g
  fz : ∀ j, w.frozen? ⟨g, j, none⟩ = false
  rw : w.ownsRow 0 47 4 ov no us
  n6 : no ≤ 6
  ow : ∀ k, ov.ownBlock = some k → S k ∧ k ≠ g
  sG : S g
/-- What is known of a region (RJ). -/
def cg3 (am : Option Addr) (nn cm : Nat) (bq oq n c kq : Nat) (ab : Option Addr) (nb cb : Nat) (at2 sc x h nx : Int) (V1 : NsV) (G B : Nat) : RSpec where
  m := 18
  n := 20
  slots := [46, 47, 48, 49, 50, 51, 52, 53, 54, 45, 55, 56, 57, 11, 12, 11, 12, 13, 100018, 100019]
  kills := [[], [], [], [], [], [], [], [], [], [], [], [], [], [15], [16], [], [], [], [], []]
  pres := [[], [], [], [], [], [], [], [], [], [], [], [], [], [], [], [13], [14], [], [], []]
  fact := fun k v w => match k with
    | 0 => v = .pointer (some ⟨G, 1, none⟩)
    | 1 => v = .slice (some ⟨bq, oq, none⟩) n c
    | 2 => v = .int .i64 (kq : Int)
    | 3 => v = .pointer (some ⟨bq, oq + kq * 4, none⟩)
    | 4 => v = .pointer (some ⟨bq, oq + kq * 4 + 2, none⟩)
    | 5 => v = .slice ab nb cb
    | 6 => v = .int .i64 at2
    | 7 => v = .agg #[.int .i64 sc, .int .u64 x, .int .i64 h, .int .i64 nx]
    | 8 => ∃ a2 c2, v = .tuple #[.agg #[.int .u64 V1.k, .int .i64 V1.at2, .slice a2 V1.sg.length c2, .slice none 0 0], .agg #[.int .i64 V1.t.1, .int .u64 V1.t.2.1, .int .i64 V1.t.2.2.1, .int .i64 V1.t.2.2.2], .int .i64 V1.cd] ∧ Own B w a2 V1.sg.length c2 V1.sg
    | 9 => ∃ a2 c2, v = .tuple #[.agg #[.int .u64 V1.k, .int .i64 V1.at2, .slice a2 V1.sg.length c2, .slice none 0 0], .agg #[.int .i64 V1.t.1, .int .u64 V1.t.2.1, .int .i64 V1.t.2.2.1, .int .i64 V1.t.2.2.2], .int .i64 V1.cd] ∧ Own B w a2 V1.sg.length c2 V1.sg
    | 10 => ∃ a2 c2, v = .agg #[.int .u64 V1.k, .int .i64 V1.at2, .slice a2 V1.sg.length c2, .slice none 0 0] ∧ Own B w a2 V1.sg.length c2 V1.sg
    | 11 => v = .agg #[.int .i64 V1.t.1, .int .u64 V1.t.2.1, .int .i64 V1.t.2.2.1, .int .i64 V1.t.2.2.2]
    | 12 => v = .int .i64 V1.cd
    | 13 => ∃ gb13, v = .pointer (some ⟨gb13, 0, none⟩) ∧ w.heap[gb13]? = some (.cells #[.int .u64 0, .int .i64 0, .slice none 0 0, .slice none 0 0] 47 (0, 0)) ∧ B ≤ gb13
    | 14 => ∃ gb14, v = .pointer (some ⟨gb14, 0, none⟩) ∧ w.heap[gb14]? = some (.cells #[.int .i64 0, .int .u64 0, .int .i64 0, .int .i64 0] 33 (0, 0)) ∧ B ≤ gb14
    | 15 => ∃ gs15 a2 c2, v = .pointer (some ⟨gs15, 0, none⟩) ∧ w.heap[gs15]? = some (.cells #[.int .u64 V1.k, .int .i64 V1.at2, .slice a2 V1.sg.length c2, .slice none 0 0] 47 (0, 0)) ∧ B ≤ gs15 ∧ Own B w a2 V1.sg.length c2 V1.sg
    | 16 => ∃ gs16, v = .pointer (some ⟨gs16, 0, none⟩) ∧ w.heap[gs16]? = some (.cells #[.int .i64 V1.t.1, .int .u64 V1.t.2.1, .int .i64 V1.t.2.2.1, .int .i64 V1.t.2.2.2] 33 (0, 0)) ∧ B ≤ gs16
    | 17 => v = .int .i64 V1.cd
    | 18 => w.heap[G]? = some (.cells #[.slice am nn cm, .slice (some ⟨bq, oq, none⟩) n c] 32 (0, 0)) ∧ G < B
    | _ => w.heap[(G + 1)]? = some (.cells #[.int .i64 sc, .int .u64 x, .int .i64 h, .int .i64 nx] 33 (0, 0)) ∧ G + 1 < B
set_option linter.unusedVariables false in
theorem cg3_stb (am : Option Addr) (nn cm : Nat) (bq oq n c kq : Nat) (ab : Option Addr) (nb cb : Nat) (at2 sc x h nx : Int) (V1 : NsV) (G B : Nat) (k : Nat) (hk : k < 20) : StB ((cg3 am nn cm bq oq n c kq ab nb cb at2 sc x h nx V1 G (B)).fact k) := by
  match k, hk with
  | 0, _ => exact fun _ _ _ h _ => h
  | 1, _ => exact fun _ _ _ h _ => h
  | 2, _ => exact fun _ _ _ h _ => h
  | 3, _ => exact fun _ _ _ h _ => h
  | 4, _ => exact fun _ _ _ h _ => h
  | 5, _ => exact fun _ _ _ h _ => h
  | 6, _ => exact fun _ _ _ h _ => h
  | 7, _ => exact fun _ _ _ h _ => h
  | 8, _ => exact fun _ _ _ ⟨a2, c2, hv, q_0⟩ hb => ⟨a2, c2, hv, q_0.kept hb⟩
  | 9, _ => exact fun _ _ _ ⟨a2, c2, hv, q_0⟩ hb => ⟨a2, c2, hv, q_0.kept hb⟩
  | 10, _ => exact fun _ _ _ ⟨a2, c2, hv, q_0⟩ hb => ⟨a2, c2, hv, q_0.kept hb⟩
  | 11, _ => exact fun _ _ _ h _ => h
  | 12, _ => exact fun _ _ _ h _ => h
  | 13, _ => exact fun _ _ _ ⟨gb13, hv, q_0, q_1⟩ hb => ⟨gb13, hv, below_kept q_0 hb, q_1⟩
  | 14, _ => exact fun _ _ _ ⟨gb14, hv, q_0, q_1⟩ hb => ⟨gb14, hv, below_kept q_0 hb, q_1⟩
  | 15, _ => exact fun _ _ _ ⟨gs15, a2, c2, hv, q_0, q_1, q_2⟩ hb => ⟨gs15, a2, c2, hv, below_kept q_0 hb, q_1, q_2.kept hb⟩
  | 16, _ => exact fun _ _ _ ⟨gs16, hv, q_0, q_1⟩ hb => ⟨gs16, hv, below_kept q_0 hb, q_1⟩
  | 17, _ => exact fun _ _ _ h _ => h
  | 18, _ => exact fun _ _ _ ⟨q_0, q_1⟩ hb => ⟨below_kept q_0 hb, q_1⟩
  | 19, _ => exact fun _ _ _ ⟨q_0, q_1⟩ hb => ⟨below_kept q_0 hb, q_1⟩
  | k + 20, hk => omega
set_option linter.unusedVariables false in
theorem cg3_st15 (am : Option Addr) (nn cm : Nat) (bq oq n c kq : Nat) (ab : Option Addr) (nb cb : Nat) (at2 sc x h nx : Int) (V1 : NsV) (G B : Nat) {W W2 : World} {g : Nat} {cs : Array Value} {fr : Nat × Nat} (hg : W.heap[g]? = some (.cells cs 47 fr)) (ht : Touch (g) (g + 1) W W2) (hge : B ≤ g) (k : Nat) (hk : k < 20) (hne : k ≠ 15) (hkill : 15 ∉ (cg3 am nn cm bq oq n c kq ab nb cb at2 sc x h nx V1 G (B)).kill k) (v : Value) (hfact : (cg3 am nn cm bq oq n c kq ab nb cb at2 sc x h nx V1 G (B)).fact k v W) : (cg3 am nn cm bq oq n c kq ab nb cb at2 sc x h nx V1 G (B)).fact k v W2 := by
  match k, hk, hne, hkill, hfact with
  | 0, _, _, _, hq => exact hq
  | 1, _, _, _, hq => exact hq
  | 2, _, _, _, hq => exact hq
  | 3, _, _, _, hq => exact hq
  | 4, _, _, _, hq => exact hq
  | 5, _, _, _, hq => exact hq
  | 6, _, _, _, hq => exact hq
  | 7, _, _, _, hq => exact hq
  | 8, _, _, _, ⟨a2, c2, hv, q_0⟩ => exact ⟨a2, c2, hv, ⟨ownsRow_box q_0.row hg (by decide) ht, q_0.byte⟩⟩
  | 9, _, _, _, ⟨a2, c2, hv, q_0⟩ => exact ⟨a2, c2, hv, ⟨ownsRow_box q_0.row hg (by decide) ht, q_0.byte⟩⟩
  | 10, _, _, _, ⟨a2, c2, hv, q_0⟩ => exact ⟨a2, c2, hv, ⟨ownsRow_box q_0.row hg (by decide) ht, q_0.byte⟩⟩
  | 11, _, _, _, hq => exact hq
  | 12, _, _, _, hq => exact hq
  | 13, _, _, hkill, _ => exact absurd (List.Mem.head _) hkill
  | 14, _, _, _, ⟨gb14, hv, q_0, q_1⟩ => exact ⟨gb14, hv, box_box q_0 hg (by decide) ht, q_1⟩
  | 15, _, hne, _, _ => exact absurd rfl hne
  | 16, _, _, _, ⟨gs16, hv, q_0, q_1⟩ => exact ⟨gs16, hv, box_box q_0 hg (by decide) ht, q_1⟩
  | 17, _, _, _, hq => exact hq
  | 18, _, _, _, ⟨q_0, q_1⟩ => exact ⟨box_box q_0 hg (by decide) ht, q_1⟩
  | 19, _, _, _, ⟨q_0, q_1⟩ => exact ⟨box_box q_0 hg (by decide) ht, q_1⟩
  | k + 20, hk, _, _, _ => omega
set_option linter.unusedVariables false in
theorem cg3_st16 (am : Option Addr) (nn cm : Nat) (bq oq n c kq : Nat) (ab : Option Addr) (nb cb : Nat) (at2 sc x h nx : Int) (V1 : NsV) (G B : Nat) {W W2 : World} {g : Nat} {cs : Array Value} {fr : Nat × Nat} (hg : W.heap[g]? = some (.cells cs 33 fr)) (ht : Touch (g) (g + 1) W W2) (hge : B ≤ g) (k : Nat) (hk : k < 20) (hne : k ≠ 16) (hkill : 16 ∉ (cg3 am nn cm bq oq n c kq ab nb cb at2 sc x h nx V1 G (B)).kill k) (v : Value) (hfact : (cg3 am nn cm bq oq n c kq ab nb cb at2 sc x h nx V1 G (B)).fact k v W) : (cg3 am nn cm bq oq n c kq ab nb cb at2 sc x h nx V1 G (B)).fact k v W2 := by
  match k, hk, hne, hkill, hfact with
  | 0, _, _, _, hq => exact hq
  | 1, _, _, _, hq => exact hq
  | 2, _, _, _, hq => exact hq
  | 3, _, _, _, hq => exact hq
  | 4, _, _, _, hq => exact hq
  | 5, _, _, _, hq => exact hq
  | 6, _, _, _, hq => exact hq
  | 7, _, _, _, hq => exact hq
  | 8, _, _, _, ⟨a2, c2, hv, q_0⟩ => exact ⟨a2, c2, hv, ⟨ownsRow_box q_0.row hg (by decide) ht, q_0.byte⟩⟩
  | 9, _, _, _, ⟨a2, c2, hv, q_0⟩ => exact ⟨a2, c2, hv, ⟨ownsRow_box q_0.row hg (by decide) ht, q_0.byte⟩⟩
  | 10, _, _, _, ⟨a2, c2, hv, q_0⟩ => exact ⟨a2, c2, hv, ⟨ownsRow_box q_0.row hg (by decide) ht, q_0.byte⟩⟩
  | 11, _, _, _, hq => exact hq
  | 12, _, _, _, hq => exact hq
  | 13, _, _, _, ⟨gb13, hv, q_0, q_1⟩ => exact ⟨gb13, hv, box_box q_0 hg (by decide) ht, q_1⟩
  | 14, _, _, hkill, _ => exact absurd (List.Mem.head _) hkill
  | 15, _, _, _, ⟨gs15, a2, c2, hv, q_0, q_1, q_2⟩ => exact ⟨gs15, a2, c2, hv, box_box q_0 hg (by decide) ht, q_1, ⟨ownsRow_box q_2.row hg (by decide) ht, q_2.byte⟩⟩
  | 16, _, hne, _, _ => exact absurd rfl hne
  | 17, _, _, _, hq => exact hq
  | 18, _, _, _, ⟨q_0, q_1⟩ => exact ⟨box_box q_0 hg (by decide) ht, q_1⟩
  | 19, _, _, _, ⟨q_0, q_1⟩ => exact ⟨(ht.block _ (Array.getElem?_eq_some_iff.1 q_0).1 (by omega)).trans q_0, q_1⟩
  | k + 20, hk, _, _, _ => omega
/-- What is known of a region (RJ). -/
def cg11 (D nn n : Nat) (b1 : Option Addr) (d1 : Nat) (b2 : Option Addr) (d2 : Nat) (ws : List Int) (zs : List ItT) (U S : Nat → Prop) (V1 : NsV) (gm gt G B : Nat) : RSpec where
  m := 5
  n := 10
  slots := [94, 95, 100002, 100003, 10, 100005, 100006, 100007, 100008, 100009]
  kills := [[], [], [], [], [], [], [], [2], [3], []]
  pres := [[], [], [], [], [], [], [], [], [], []]
  fact := fun k v w => match k with
    | 0 => v = .agg #[.slice b1 nn d1, .slice b2 n d2]
    | 1 => v = .agg #[.int .i64 V1.t.1, .int .u64 V1.t.2.1, .int .i64 V1.t.2.2.1, .int .i64 V1.t.2.2.2]
    | 2 => w.heap[(G + 1 + 1)]? = some (.cells #[.slice b1 nn d1, .slice b2 n d2] 32 (0, 0))
    | 3 => w.heap[(G + 1 + 1 + 1)]? = some (.cells #[.int .i64 V1.t.1, .int .u64 V1.t.2.1, .int .i64 V1.t.2.2.1, .int .i64 V1.t.2.2.2] 33 (0, 0))
    | 4 => v = .int .i64 0
    | 5 => w.heap[gm]? = some (.cells #[.slice b1 nn d1, .slice b2 n d2] 32 (0, 0)) ∧ gm ≠ G + 1 + 1
    | 6 => w.heap[gt]? = some (.cells #[.int .i64 V1.t.1, .int .u64 V1.t.2.1, .int .i64 V1.t.2.2.1, .int .i64 V1.t.2.2.2] 33 (0, 0)) ∧ gt ≠ G + 1 + 1 + 1
    | 7 => w.heap[(G + 1 + 1)]? = some (.cells #[.slice none 0 0, .slice none 0 0] 32 (0, 0))
    | 8 => w.heap[(G + 1 + 1 + 1)]? = some (.cells #[.int .i64 0, .int .u64 0, .int .i64 0, .int .i64 0] 33 (0, 0))
    | _ => MsgQ D G U S b1 nn d1 ws b2 n d2 zs w
set_option linter.unusedVariables false in
theorem cg11_stb (D nn n : Nat) (b1 : Option Addr) (d1 : Nat) (b2 : Option Addr) (d2 : Nat) (ws : List Int) (zs : List ItT) (U S : Nat → Prop) (V1 : NsV) (gm gt G B : Nat) (k : Nat) (hk : k < 10) : StB ((cg11 D nn n b1 d1 b2 d2 ws zs U S V1 gm gt G (B)).fact k) := by
  match k, hk with
  | 0, _ => exact fun _ _ _ h _ => h
  | 1, _ => exact fun _ _ _ h _ => h
  | 2, _ => exact fun _ _ _ q_0 hb => below_kept q_0 hb
  | 3, _ => exact fun _ _ _ q_0 hb => below_kept q_0 hb
  | 4, _ => exact fun _ _ _ h _ => h
  | 5, _ => exact fun _ _ _ ⟨q_0, q_1⟩ hb => ⟨below_kept q_0 hb, q_1⟩
  | 6, _ => exact fun _ _ _ ⟨q_0, q_1⟩ hb => ⟨below_kept q_0 hb, q_1⟩
  | 7, _ => exact fun _ _ _ q_0 hb => below_kept q_0 hb
  | 8, _ => exact fun _ _ _ q_0 hb => below_kept q_0 hb
  | 9, _ => exact fun _ _ _ q_0 hb => q_0.kept hb
  | k + 10, hk => omega
set_option linter.unusedVariables false in
theorem cg11_st2 (D nn n : Nat) (b1 : Option Addr) (d1 : Nat) (b2 : Option Addr) (d2 : Nat) (ws : List Int) (zs : List ItT) (U S : Nat → Prop) (V1 : NsV) (gm gt G B : Nat) {W W2 : World} {cs : Array Value} {fr : Nat × Nat} (hg : W.heap[(G + 1 + 1)]? = some (.cells cs 32 fr)) (ht : Touch ((G + 1 + 1)) ((G + 1 + 1) + 1) W W2) (k : Nat) (hk : k < 10) (hne : k ≠ 2) (hkill : 2 ∉ (cg11 D nn n b1 d1 b2 d2 ws zs U S V1 gm gt G (B)).kill k) (v : Value) (hfact : (cg11 D nn n b1 d1 b2 d2 ws zs U S V1 gm gt G (B)).fact k v W) : (cg11 D nn n b1 d1 b2 d2 ws zs U S V1 gm gt G (B)).fact k v W2 := by
  match k, hk, hne, hkill, hfact with
  | 0, _, _, _, hq => exact hq
  | 1, _, _, _, hq => exact hq
  | 2, _, hne, _, _ => exact absurd rfl hne
  | 3, _, _, _, q_0 => exact box_box q_0 hg (by decide) ht
  | 4, _, _, _, hq => exact hq
  | 5, _, _, _, ⟨q_0, q_1⟩ => exact ⟨(ht.block _ (Array.getElem?_eq_some_iff.1 q_0).1 (by omega)).trans q_0, q_1⟩
  | 6, _, _, _, ⟨q_0, q_1⟩ => exact ⟨box_box q_0 hg (by decide) ht, q_1⟩
  | 7, _, _, hkill, _ => exact absurd (List.Mem.head _) hkill
  | 8, _, _, _, q_0 => exact box_box q_0 hg (by decide) ht
  | 9, _, _, _, q_0 => exact q_0.touched ht (by omega)
  | k + 10, hk, _, _, _ => omega
set_option linter.unusedVariables false in
theorem cg11_st3 (D nn n : Nat) (b1 : Option Addr) (d1 : Nat) (b2 : Option Addr) (d2 : Nat) (ws : List Int) (zs : List ItT) (U S : Nat → Prop) (V1 : NsV) (gm gt G B : Nat) {W W2 : World} {cs : Array Value} {fr : Nat × Nat} (hg : W.heap[(G + 1 + 1 + 1)]? = some (.cells cs 33 fr)) (ht : Touch ((G + 1 + 1 + 1)) ((G + 1 + 1 + 1) + 1) W W2) (k : Nat) (hk : k < 10) (hne : k ≠ 3) (hkill : 3 ∉ (cg11 D nn n b1 d1 b2 d2 ws zs U S V1 gm gt G (B)).kill k) (v : Value) (hfact : (cg11 D nn n b1 d1 b2 d2 ws zs U S V1 gm gt G (B)).fact k v W) : (cg11 D nn n b1 d1 b2 d2 ws zs U S V1 gm gt G (B)).fact k v W2 := by
  match k, hk, hne, hkill, hfact with
  | 0, _, _, _, hq => exact hq
  | 1, _, _, _, hq => exact hq
  | 2, _, _, _, q_0 => exact box_box q_0 hg (by decide) ht
  | 3, _, hne, _, _ => exact absurd rfl hne
  | 4, _, _, _, hq => exact hq
  | 5, _, _, _, ⟨q_0, q_1⟩ => exact ⟨box_box q_0 hg (by decide) ht, q_1⟩
  | 6, _, _, _, ⟨q_0, q_1⟩ => exact ⟨(ht.block _ (Array.getElem?_eq_some_iff.1 q_0).1 (by omega)).trans q_0, q_1⟩
  | 7, _, _, _, q_0 => exact box_box q_0 hg (by decide) ht
  | 8, _, _, hkill, _ => exact absurd (List.Mem.head _) hkill
  | 9, _, _, _, q_0 => exact q_0.touched ht (by omega)
  | k + 10, hk, _, _, _ => omega
/-- What is known of a region (RG). -/
def cgw8 (gm g n d2 kq : Nat) (a2 : Option Addr) (c2 : Nat) (V1 : NsV) (ao : Option Addr) (no co H : Nat) : RSpec where
  m := 13
  n := 13
  slots := [67, 68, 69, 70, 71, 72, 73, 74, 75, 76, 77, 78, 100012]
  kills := [[], [], [], [], [], [], [], [], [], [], [], [], []]
  pres := [[], [], [], [], [], [], [], [], [], [5], [], [], []]
  fact := fun k v w => match k with
    | 0 => v = .pointer (some ⟨gm, 1, none⟩)
    | 1 => v = .slice (some ⟨g, 0, none⟩) n d2
    | 2 => v = .int .i64 (kq : Int)
    | 3 => v = .pointer (some ⟨g, kq * 4, none⟩)
    | 4 => v = .pointer (some ⟨g, kq * 4 + 3, none⟩)
    | 5 => v = .slice ao no co
    | 6 => v = .agg #[.int .u64 V1.k, .int .i64 V1.at2, .slice a2 V1.sg.length c2, .slice none 0 0]
    | 7 => v = .int .i64 (no : Int)
    | 8 => v = .slice (some ⟨H, 0, none⟩) 1 1
    | 9 => True
    | 10 => v = .pointer (some ⟨g, kq * 4, none⟩)
    | 11 => v = .pointer (some ⟨g, kq * 4 + 3, none⟩)
    | _ => True
theorem cgw8_still (gm g n d2 kq : Nat) (a2 : Option Addr) (c2 : Nat) (V1 : NsV) (ao : Option Addr) (no co H : Nat) : (cgw8 gm g n d2 kq a2 c2 V1 ao no co (H)).still := fun _ _ _ _ h => h
/-- What is known of a region (RG). -/
def cgw10 (gm g n d2 kq : Nat) (a2 : Option Addr) (c2 : Nat) (V1 : NsV) (ao : Option Addr) (no co H : Nat) : RSpec where
  m := 15
  n := 15
  slots := [80, 81, 82, 83, 84, 85, 86, 87, 88, 89, 90, 91, 92, 93, 100014]
  kills := [[], [], [], [], [], [], [], [], [], [], [], [], [], [], []]
  pres := [[], [], [], [], [], [], [], [], [], [], [], [8], [], [], []]
  fact := fun k v w => match k with
    | 0 => v = .pointer (some ⟨gm, 1, none⟩)
    | 1 => v = .slice (some ⟨g, 0, none⟩) n d2
    | 2 => v = .int .i64 (kq : Int)
    | 3 => v = .pointer (some ⟨gm, 1, none⟩)
    | 4 => v = .slice (some ⟨g, 0, none⟩) n d2
    | 5 => v = .int .i64 (kq : Int)
    | 6 => v = .pointer (some ⟨g, kq * 4, none⟩)
    | 7 => v = .pointer (some ⟨g, kq * 4 + 3, none⟩)
    | 8 => v = .slice ao no co
    | 9 => v = .agg #[.int .u64 V1.k, .int .i64 V1.at2, .slice a2 V1.sg.length c2, .slice none 0 0]
    | 10 => v = .slice (some ⟨H, 0, none⟩) 1 1
    | 11 => True
    | 12 => v = .pointer (some ⟨g, kq * 4, none⟩)
    | 13 => v = .pointer (some ⟨g, kq * 4 + 3, none⟩)
    | _ => True
theorem cgw10_still (gm g n d2 kq : Nat) (a2 : Option Addr) (c2 : Nat) (V1 : NsV) (ao : Option Addr) (no co H : Nat) : (cgw10 gm g n d2 kq a2 c2 V1 ao no co (H)).still := fun _ _ _ _ h => h

set_option maxRecDepth 10000 in
set_option maxHeartbeats 8000000 in
theorem specCounterSign_good (HSPEC : ∀ (seed h next : Int) (am : Option Addr) (n c : Nat) (bs : List Int) (w : World), U64 seed → Row w am n bs → n ≤ 1000000000000 → Calls Tryz.prog 50 #[tkv seed h next, .slice am n c] w fun e w' => ∃ v, e = .returned v ∧ SgR seed h next bs w.heap.size w' v ∧ Below w.heap.size w w') (D : Nat) (am : Option Addr) (nn cm : Nat) (ws : List Int) (a : Option Addr) (n c : Nat) (xs : List ItT) (i at2 sc x h nx : Int) (w : World) (hr : Row w am nn ws) (hcm : am = none → cm = 0) (hnn : nn ≤ 9223372036854775807) (hk : KidsT D w a n xs) (hx : U64 x) (hg : csG nn xs i at2) (V1 : NsV) (hV1 : V1 = nsV 9 (xs.getD i.toNat default).sg at2 sc x h nx) (hcd : V1.cd = 0) (hku : U64 V1.k) (hwt : wtST D xs ≤ 1048576) :
    Calls Tryz.prog 5 #[.agg #[.slice am nn cm, .slice a n c], .int .i64 i, .int .i64 at2, .agg #[.int .i64 sc, .int .u64 x, .int .i64 h, .int .i64 nx]] w fun e w' => ∃ a1 c1 a2 c2 U S, e = .returned (csOut (csGo ws xs i.toNat V1) a1 c1 a2 c2) ∧ MsgX (D + 2) U S w' a1 (csGo ws xs i.toNat V1).ct.length c1 (csGo ws xs i.toNat V1).ct a2 (csGo ws xs i.toNat V1).gs.length c2 (csGo ws xs i.toNat V1).gs ∧ (∀ b, U b ∨ S b → w.heap.size ≤ b ∧ b < w'.heap.size) ∧ Below w.heap.size w w' := by
  obtain ⟨w1, hw1⟩ : ∃ w1, w1 = (((w.alloc (.cells #[.slice am nn cm, .slice a n c] 32)).alloc (.cells #[.int .i64 sc, .int .u64 x, .int .i64 h, .int .i64 nx] 33)).alloc (.cells #[.slice none 0 0, .slice none 0 0] 32)).alloc (.cells #[.int .i64 0, .int .u64 0, .int .i64 0, .int .i64 0] 33) := ⟨_, rfl⟩
  have hn4 := bx4c_new w #[.slice am nn cm, .slice a n c] #[.int .i64 sc, .int .u64 x, .int .i64 h, .int .i64 nx] #[.slice none 0 0, .slice none 0 0] #[.int .i64 0, .int .u64 0, .int .i64 0, .int .i64 0]
  rw [← hw1] at hn4
  have hbb := hn4.2
  have HBX : Hid (Bx4c w.heap.size #[.slice am nn cm, .slice a n c] #[.int .i64 sc, .int .u64 x, .int .i64 h, .int .i64 nx] #[.slice none 0 0, .slice none 0 0] #[.int .i64 0, .int .u64 0, .int .i64 0, .int .i64 0] w1) := hn4.1
  have HLX : Hid (xs.length = n) := hk.len.1
  have hn := hk.len.2
  have HKW : Hid (∀ W, Below w1.heap.size w1 W → KidsT D W a n xs) := fun W hW => hk.kept (keepT hbb hW)
  have HRW : Hid (∀ W, Below w1.heap.size w1 W → Row W am nn ws) := fun W hW => hr.kept (keepT hbb hW)
  have HW : Hid (_ = _) := hw1
  have HM : Hid (msgP nn xs) := hg.1
  have hib : 0 ≤ i ∧ i ≤ (n : Int) - 1 := by have := hg.2.1; rw [HLX.out] at this; exact this
  have htm : timP at2 := hg.2.2.1
  have hov6 := hg.2.2.2
  clear hw1 hn4 hk hg hr
  have htd : decide (timP at2) = true := decide_eq_true htm
  obtain ⟨kq, rfl⟩ : ∃ k : Nat, i = (k : Int) := ⟨i.toNat, by omega⟩
  rw [Int.toNat_natCast] at hov6 hV1
  have HKN : kq < n := by omega
  obtain ⟨D, rfl⟩ : ∃ D', D = D' + 1 := by
    cases D with
    | zero => exact (HKW.out _ (Below.refl _ _)).elim
    | succ D => exact ⟨D, rfl⟩
  obtain ⟨bq, oq, hA, hlb1, ab, nb, cb, ak, nk, ck, e0, e1, e2, e3, hrow, hnil, hnb, hu, hov⟩ := (HKW.out _ (Below.refl _ _)).2.2 kq HKN
  subst hA
  obtain ⟨y, hy⟩ : ∃ y, y = xs.getD kq default := ⟨_, rfl⟩
  rw [← hy] at hrow hov6 hov hV1
  have HY : Hid (y = xs.getD kq default) := hy
  have hnk6 : nk ≠ 6 := by rw [hov.len.1] at hov6; exact hov6
  have hnk7 : nk ≤ 6 := by have := (HM.out.2.2 kq (by rw [HLX.out]; exact HKN)).2.2.1; rw [← hy, hov.len.1] at this; exact this
  have hnb4 : nb ≤ 4000 := by have := (HM.out.2.2 kq (by rw [HLX.out]; exact HKN)).2.1; rw [← hy, hrow.len] at this; omega
  have HCELL : Hid (∀ W, Below w1.heap.size w1 W → W.cell? ⟨bq, oq + kq * 4 + 2, none⟩ = some (.slice ab nb cb) ∧ W.cell? ⟨bq, oq + kq * 4 + 3, none⟩ = some (.slice ak nk ck)) := fun W hW => ⟨(hW.cell (p := ⟨bq, oq + kq * 4 + 2, none⟩) hlb1).trans e2, (hW.cell (p := ⟨bq, oq + kq * 4 + 3, none⟩) hlb1).trans e3⟩
  have hat : -9223372036854775808 ≤ at2 ∧ at2 ≤ 9223372036854775807 := by have h1 := htm.1; have h2 := htm.2; omega
  have HNS : Hid (∀ W, Below w1.heap.size w1 W → Calls Tryz.prog 17 #[.int .i64 9, .slice ab nb cb, .int .i64 at2, .agg #[.int .i64 sc, .int .u64 x, .int .i64 h, .int .i64 nx]] W fun e w' => ∃ a c', e = .returned (nsOut V1 a c') ∧ Own W.heap.size w' a V1.sg.length c' V1.sg ∧ Below W.heap.size W w') := fun W hW => by rw [hV1]; exact l17Sign_any HSPEC 9 ab nb cb y.sg at2 sc x h nx W (hrow.kept hW) hnil.1 hnb4 (by decide) (by decide) hat hx
  clear hy e0 e1 e2 e3 hrow hnil hnb hu hov hV1 hov6
  obtain ⟨x0, x1⟩ := cells2m HBX.out.m
  go_enter Tryz.func5, Tryz.ntmps5
  go_upto_region 1 with fail
  rw [← HW.out]
  clear HW
  go_wp2_with fail
  refine (l17Ok_any (D + 1) am nn cm _ n c xs _ hnn (HKW.out _ (Below.refl _ _))).mono ?_
  rintro e w2 ⟨ok, rfl, HOK, hb2⟩
  obtain rfl : ok = true := HOK.out.2 HM.out
  clear HOK x0 x1
  obtain ⟨x0, x1⟩ := cells2m (HBX.out.kept hb2).m
  obtain ⟨y2, y3⟩ := HCELL.out _ hb2
  have hlb : bq < w2.heap.size := Nat.lt_of_lt_of_le hlb1 hb2.size
  have hki : (kq : Int) < (n : Int) := by omega
  go_wp2_with fail
  refine (l10Tim_any at2 _).mono ?_
  rintro e w3 ⟨rfl, hw3⟩
  have hw3 := hw3.symm
  subst hw3
  rw [htd]
  clear htd
  have q6 : ((nk : Int) == 6) = false := by simp; omega
  go_upto_region 3 with fail
  have HBB : w2.heap.size ≤ w2.heap.size := Nat.le_refl _
  refine wp_region_ri (cg3 am nn cm bq oq n c kq ab nb cb at2 sc x h nx V1 w.heap.size (w2.heap.size)) [11, 12, 13, 45, 46, 47, 48, 49, 50, 51, 52, 53, 54, 55, 56, 57] (w2.heap.size) (fun a0 => a0.tmps.size = 96 ∧ aT a0 1 = .int .i64 (kq : Int) ∧ aT a0 2 = .int .i64 at2 ∧ aT a0 4 = .pointer (some ⟨w.heap.size, 0, none⟩) ∧ aT a0 7 = .pointer (some ⟨(w.heap.size + 1), 0, none⟩)) (by kernel_rfl) rfl (by kernel_rfl) rfl ⟨rfl, rfl, rfl, rfl, rfl⟩ (cg3_stb am nn cm bq oq n c kq ab nb cb at2 sc x h nx V1 w.heap.size (w2.heap.size)) ?_ ?_ ?_
  · intro k hk hk2
    match k, hk, hk2 with
    | 18, _, _ => exact ⟨(HBX.out.kept hb2).m, by have := (Array.getElem?_eq_some_iff.1 (HBX.out.kept hb2).m).1; omega⟩
    | 19, _, _ => exact ⟨(HBX.out.kept hb2).s, by have := (Array.getElem?_eq_some_iff.1 (HBX.out.kept hb2).s).1; omega⟩
    | 0, hk, _ => exact absurd hk (by show ¬ (18 ≤ 0); omega)
    | 1, hk, _ => exact absurd hk (by show ¬ (18 ≤ 1); omega)
    | 2, hk, _ => exact absurd hk (by show ¬ (18 ≤ 2); omega)
    | 3, hk, _ => exact absurd hk (by show ¬ (18 ≤ 3); omega)
    | 4, hk, _ => exact absurd hk (by show ¬ (18 ≤ 4); omega)
    | 5, hk, _ => exact absurd hk (by show ¬ (18 ≤ 5); omega)
    | 6, hk, _ => exact absurd hk (by show ¬ (18 ≤ 6); omega)
    | 7, hk, _ => exact absurd hk (by show ¬ (18 ≤ 7); omega)
    | 8, hk, _ => exact absurd hk (by show ¬ (18 ≤ 8); omega)
    | 9, hk, _ => exact absurd hk (by show ¬ (18 ≤ 9); omega)
    | 10, hk, _ => exact absurd hk (by show ¬ (18 ≤ 10); omega)
    | 11, hk, _ => exact absurd hk (by show ¬ (18 ≤ 11); omega)
    | 12, hk, _ => exact absurd hk (by show ¬ (18 ≤ 12); omega)
    | 13, hk, _ => exact absurd hk (by show ¬ (18 ≤ 13); omega)
    | 14, hk, _ => exact absurd hk (by show ¬ (18 ≤ 14); omega)
    | 15, hk, _ => exact absurd hk (by show ¬ (18 ≤ 15); omega)
    | 16, hk, _ => exact absurd hk (by show ¬ (18 ≤ 16); omega)
    | 17, hk, _ => exact absurd hk (by show ¬ (18 ≤ 17); omega)
    | k + 20, _, hk2 => exact absurd hk2 (by show ¬ (k + 20 < 20); omega)
  · rintro a0 ⟨hz, g1, g2, g4, g7⟩
    refine StepsRI.cons ?_ (StepsRI.cons ?_ (StepsRI.cons ?_ (StepsRI.cons ?_ (StepsRI.cons ?_ (StepsRI.cons ?_ (StepsRI.cons ?_ (StepsRI.cons ?_ (StepsRI.cons ?_ (StepsRI.cons ?_ (StepsRI.cons ?_ (StepsRI.cons ?_ (StepsRI.cons ?_ (StepsRI.cons ?_ (StepsRI.cons ?_ (StepsRI.cons ?_ (StepsRI.cons ?_ (StepsRI.cons ?_ (StepsRI.nil))))))))))))))))))
    · intro lQ b W hI hUN hED KQ hKQ
      exact opw_field 32 4 1 rfl _ ((hI.fr.same 4 (by decide)).trans g4) _ (by kernel_rfl) (hKQ.out _ _ (hI.put 0 46 rfl rfl (by rw [hz]; decide) rfl hUN rfl HBB (cg3_stb am nn cm bq oq n c kq ab nb cb at2 sc x h nx V1 w.heap.size (w2.heap.size)) (Below.refl _ _) rfl))
    · intro lQ b W hI hUN hED KQ hKQ
      have f := hI.got 0 (of_decide_eq_true rfl) (edge hED 0 (by kernel_rfl)) rfl
      have hg := (hI.vot 18 (of_decide_eq_true rfl) (of_decide_eq_true rfl) rfl).1
      have hc : W.cell? ⟨w.heap.size, 1, none⟩ = some (.slice (some ⟨bq, oq, none⟩) n c) := (cell_of_row _ _ 1 _ _ (0, 0) hg).trans rfl
      exact opw_load1 30 46 rfl _ f _ (by simp [Instr.loadAt, go_sem, hc]) (hKQ.out _ _ (hI.put 1 47 rfl rfl (by rw [hz]; decide) rfl hUN rfl HBB (cg3_stb am nn cm bq oq n c kq ab nb cb at2 sc x h nx V1 w.heap.size (w2.heap.size)) (Below.refl _ _) rfl))
    · intro lQ b W hI hUN hED KQ hKQ
      exact opw_move 1 rfl (hKQ.out _ _ (hI.put 2 48 rfl rfl (by rw [hz]; decide) rfl hUN rfl HBB (cg3_stb am nn cm bq oq n c kq ab nb cb at2 sc x h nx V1 w.heap.size (w2.heap.size)) (Below.refl _ _) ((hI.fr.same 1 (by decide)).trans g1)))
    · intro lQ b W hI hUN hED KQ hKQ
      have f0 : aT b 47 = .slice (some ⟨bq, oq, none⟩) n c := hI.got 1 (of_decide_eq_true rfl) (edge hED 1 (by kernel_rfl)) rfl
      have f1 : aT b 48 = .int .i64 (kq : Int) := hI.got 2 (of_decide_eq_true rfl) (edge hED 2 (by kernel_rfl)) rfl
      exact opw_indexX 30 47 48 rfl _ _ f0 f1 _ (indexSg bq oq n c kq W HKN) (hKQ.out _ _ (hI.put 3 49 rfl rfl (by rw [hz]; decide) rfl hUN rfl HBB (cg3_stb am nn cm bq oq n c kq ab nb cb at2 sc x h nx V1 w.heap.size (w2.heap.size)) (Below.refl _ _) rfl))
    · intro lQ b W hI hUN hED KQ hKQ
      have f : aT b 49 = .pointer (some ⟨bq, oq + kq * 4, none⟩) := hI.got 3 (of_decide_eq_true rfl) (edge hED 3 (by kernel_rfl)) rfl
      exact opw_field 47 49 2 rfl _ f _ (by kernel_rfl) (hKQ.out _ _ (hI.put 4 50 rfl rfl (by rw [hz]; decide) rfl hUN rfl HBB (cg3_stb am nn cm bq oq n c kq ab nb cb at2 sc x h nx V1 w.heap.size (w2.heap.size)) (Below.refl _ _) rfl))
    · intro lQ b W hI hUN hED KQ hKQ
      have f : aT b 50 = .pointer (some ⟨bq, oq + kq * 4 + 2, none⟩) := hI.got 4 (of_decide_eq_true rfl) (edge hED 4 (by kernel_rfl)) rfl
      have hc : W.cell? ⟨bq, oq + kq * 4 + 2, none⟩ = some (.slice ab nb cb) := (HCELL.out W (keepT hb2 hI.bel)).1
      exact opw_load1 22 50 rfl _ f _ (by simp [Instr.loadAt, go_sem, hc]) (hKQ.out _ _ (hI.put 5 51 rfl rfl (by rw [hz]; decide) rfl hUN rfl HBB (cg3_stb am nn cm bq oq n c kq ab nb cb at2 sc x h nx V1 w.heap.size (w2.heap.size)) (Below.refl _ _) rfl))
    · intro lQ b W hI hUN hED KQ hKQ
      exact opw_move 2 rfl (hKQ.out _ _ (hI.put 6 52 rfl rfl (by rw [hz]; decide) rfl hUN rfl HBB (cg3_stb am nn cm bq oq n c kq ab nb cb at2 sc x h nx V1 w.heap.size (w2.heap.size)) (Below.refl _ _) ((hI.fr.same 2 (by decide)).trans g2)))
    · intro lQ b W hI hUN hED KQ hKQ
      have hg := (hI.vot 19 (of_decide_eq_true rfl) (of_decide_eq_true rfl) rfl).1
      refine wp_load_row 33 _ rfl ((w.heap.size + 1)) ((hI.fr.same 7 (by decide)).trans g7) 33 #[.int .i64 sc, .int .u64 x, .int .i64 h, .int .i64 nx] (0, 0) _ hg Tryz.underlying33 rfl (by kernel_rfl) ?_
      exact hKQ.out _ _ (hI.put 7 53 rfl rfl (by rw [hz]; decide) rfl hUN rfl HBB (cg3_stb am nn cm bq oq n c kq ab nb cb at2 sc x h nx V1 w.heap.size (w2.heap.size)) (Below.refl _ _) rfl)
    · intro lQ b W hI hUN hED KQ hKQ
      have f1 := hI.got 5 (of_decide_eq_true rfl) (edge hED 5 (by kernel_rfl)) rfl
      replace f1 : aT b 51 = .slice ab nb cb := f1
      have f2 := hI.got 6 (of_decide_eq_true rfl) (edge hED 6 (by kernel_rfl)) rfl
      replace f2 : aT b 52 = .int .i64 at2 := f2
      have f3 := hI.got 7 (of_decide_eq_true rfl) (edge hED 7 (by kernel_rfl)) rfl
      replace f3 : aT b 53 = .agg #[.int .i64 sc, .int .u64 x, .int .i64 h, .int .i64 nx] := f3
      refine opw_call 17 #[.const (.int .i64 9), .tmp 51, .tmp 52, .tmp 53] _ _ _ rfl Tryz.func17 (by kernel_rfl) rfl #[.int .i64 9, .slice ab nb cb, .int .i64 at2, .agg #[.int .i64 sc, .int .u64 x, .int .i64 h, .int .i64 nx]] (by simp [ev, evc, f1, f2, f3]) ?_
      refine (HNS.out W (keepT hb2 hI.bel)).mono ?_
      rintro e W2 ⟨a2, c2, rfl, ho, hb⟩
      exact ⟨_, rfl, hKQ.out _ _ (hI.put 8 54 rfl rfl (by rw [hz]; decide) rfl hUN rfl HBB (cg3_stb am nn cm bq oq n c kq ab nb cb at2 sc x h nx V1 w.heap.size (w2.heap.size)) hb ⟨a2, c2, rfl, ho.mono (Nat.le_trans HBB hI.bel.size)⟩)⟩
    · intro lQ b W hI hUN hED KQ hKQ
      have f := hI.got 8 (of_decide_eq_true rfl) (edge hED 8 (by kernel_rfl)) rfl
      exact opw_move 54 rfl (hKQ.out _ _ (hI.put 9 45 rfl rfl (by rw [hz]; decide) rfl hUN rfl HBB (cg3_stb am nn cm bq oq n c kq ab nb cb at2 sc x h nx V1 w.heap.size (w2.heap.size)) (Below.refl _ _) f))
    · intro lQ b W hI hUN hED KQ hKQ
      have f := hI.got 9 (of_decide_eq_true rfl) (edge hED 9 (by kernel_rfl)) rfl
      obtain ⟨a2, c2, f, o_0⟩ := f
      exact opw_extract 45 0 rfl _ _ f rfl (hKQ.out _ _ (hI.put 10 55 rfl rfl (by rw [hz]; decide) rfl hUN rfl HBB (cg3_stb am nn cm bq oq n c kq ab nb cb at2 sc x h nx V1 w.heap.size (w2.heap.size)) (Below.refl _ _) ⟨a2, c2, rfl, o_0⟩))
    · intro lQ b W hI hUN hED KQ hKQ
      have f := hI.got 9 (of_decide_eq_true rfl) (edge hED 9 (by kernel_rfl)) rfl
      obtain ⟨a2, c2, f, o_0⟩ := f
      exact opw_extract 45 1 rfl _ _ f rfl (hKQ.out _ _ (hI.put 11 56 rfl rfl (by rw [hz]; decide) rfl hUN rfl HBB (cg3_stb am nn cm bq oq n c kq ab nb cb at2 sc x h nx V1 w.heap.size (w2.heap.size)) (Below.refl _ _) rfl))
    · intro lQ b W hI hUN hED KQ hKQ
      have f := hI.got 9 (of_decide_eq_true rfl) (edge hED 9 (by kernel_rfl)) rfl
      obtain ⟨a2, c2, f, o_0⟩ := f
      exact opw_extract 45 2 rfl _ _ f rfl (hKQ.out _ _ (hI.put 12 57 rfl rfl (by rw [hz]; decide) rfl hUN rfl HBB (cg3_stb am nn cm bq oq n c kq ab nb cb at2 sc x h nx V1 w.heap.size (w2.heap.size)) (Below.refl _ _) rfl))
    · intro lQ b W hI hUN hED KQ hKQ
      refine opw_value (w' := W.alloc (.cells #[.int .u64 0, .int .i64 0, .slice none 0 0, .slice none 0 0] 47)) (.pointer (some ⟨W.heap.size, 0, none⟩)) (by kernel_rfl) ?_
      exact hKQ.out _ _ (hI.put 13 11 rfl rfl (by rw [hz]; decide) rfl hUN rfl HBB (cg3_stb am nn cm bq oq n c kq ab nb cb at2 sc x h nx V1 w.heap.size (w2.heap.size)) ((Below.refl _ _).alloc (Nat.le_refl _) _) ⟨W.heap.size, rfl, heap_alloc_new W _, Nat.le_trans HBB hI.bel.size⟩)
    · intro lQ b W hI hUN hED KQ hKQ
      refine opw_value (w' := W.alloc (.cells #[.int .i64 0, .int .u64 0, .int .i64 0, .int .i64 0] 33)) (.pointer (some ⟨W.heap.size, 0, none⟩)) (by kernel_rfl) ?_
      exact hKQ.out _ _ (hI.put 14 12 rfl rfl (by rw [hz]; decide) rfl hUN rfl HBB (cg3_stb am nn cm bq oq n c kq ab nb cb at2 sc x h nx V1 w.heap.size (w2.heap.size)) ((Below.refl _ _).alloc (Nat.le_refl _) _) ⟨W.heap.size, rfl, heap_alloc_new W _, Nat.le_trans HBB hI.bel.size⟩)
    · intro lQ b W hI hUN hED KQ hKQ
      obtain ⟨g, fb, hgb, hge⟩ := hI.got1 13 15 (of_decide_eq_true rfl) (edge hED 13 (by kernel_rfl)) hUN rfl
      have f := hI.got 10 (of_decide_eq_true rfl) (edge hED 10 (by kernel_rfl)) rfl
      obtain ⟨a2, c2, f, o_0⟩ := f
      refine wp_store_row 47 _ _ rfl g #[.int .u64 V1.k, .int .i64 V1.at2, .slice a2 V1.sg.length c2, .slice none 0 0] fb f 47 _ hgb (by kernel_rfl) rfl (by simp [Value.oneCell']) ?_
      have ht := setRow_touch W g #[.int .u64 V1.k, .int .i64 V1.at2, .slice a2 V1.sg.length c2, .slice none 0 0]
      exact hKQ.out _ _ (hI.store 15 (fun j hj => by
          rcases List.mem_singleton.1 hj with rfl
          exact edge hED 13 (by kernel_rfl)) (hI.bel.trans (ht.below hge (Nat.le_trans HBB hI.bel.size))) (cg3_st15 am nn cm bq oq n c kq ab nb cb at2 sc x h nx V1 w.heap.size (w2.heap.size) hgb ht hge) ⟨g, a2, c2, fb, (setRow_heap W g _ _ _ _ hgb), hge, ⟨ownsRow_box o_0.row hgb (by decide) ht, o_0.byte⟩⟩)
    · intro lQ b W hI hUN hED KQ hKQ
      obtain ⟨g, fb, hgb, hge⟩ := hI.got1 14 16 (of_decide_eq_true rfl) (edge hED 14 (by kernel_rfl)) hUN rfl
      have f := hI.got 11 (of_decide_eq_true rfl) (edge hED 11 (by kernel_rfl)) rfl
      refine wp_store_row 33 _ _ rfl g #[.int .i64 V1.t.1, .int .u64 V1.t.2.1, .int .i64 V1.t.2.2.1, .int .i64 V1.t.2.2.2] fb f 33 _ hgb (by kernel_rfl) rfl (by simp [Value.oneCell']) ?_
      have ht := setRow_touch W g #[.int .i64 V1.t.1, .int .u64 V1.t.2.1, .int .i64 V1.t.2.2.1, .int .i64 V1.t.2.2.2]
      exact hKQ.out _ _ (hI.store 16 (fun j hj => by
          rcases List.mem_singleton.1 hj with rfl
          exact edge hED 14 (by kernel_rfl)) (hI.bel.trans (ht.below hge (Nat.le_trans HBB hI.bel.size))) (cg3_st16 am nn cm bq oq n c kq ab nb cb at2 sc x h nx V1 w.heap.size (w2.heap.size) hgb ht hge) ⟨g, fb, (setRow_heap W g _ _ _ _ hgb), hge⟩)
    · intro lQ b W hI hUN hED KQ hKQ
      have f := hI.got 12 (of_decide_eq_true rfl) (edge hED 12 (by kernel_rfl)) rfl
      exact opw_assign 57 rfl (hKQ.out _ _ (hI.put 17 13 rfl rfl (by rw [hz]; decide) rfl hUN rfl HBB (cg3_stb am nn cm bq oq n c kq ab nb cb at2 sc x h nx V1 w.heap.size (w2.heap.size)) (Below.refl _ _) f))
  · intro b W hf hb F
    have e13 := F 17 (of_decide_eq_true rfl) rfl
    have e11 := F 15 (of_decide_eq_true rfl) rfl
    have e12 := F 16 (of_decide_eq_true rfl) rfl
    obtain ⟨gq, a2, c2, e11, hgq, hgqe, ho⟩ := e11
    obtain ⟨gt, e12, hgt, hgte⟩ := e12
    replace e13 : aT b 13 = _ := e13
    replace e11 : aT b 11 = _ := e11
    replace e12 : aT b 12 = _ := e12
    rw [hf.eq]
    simp only [puts, Act.put, List.setIfInBounds_toArray, List.set_cons_zero, List.set_cons_succ, e11, e12, e13]
    clear hf F e11 e12 e13
    generalize aT b = AT
    clear b
    have hbW : Below w1.heap.size w1 W := keepT hb2 hb
    have z5 : (V1.cd != 0) = false := by simp [hcd]
    have HCD : Hid (V1.cd = 0) := hcd
    clear hcd
    have HBW : Hid (Bx4c w.heap.size #[.slice am nn cm, .slice (some ⟨bq, oq, none⟩) n c] #[.int .i64 sc, .int .u64 x, .int .i64 h, .int .i64 nx] #[.slice none 0 0, .slice none 0 0] #[.int .i64 0, .int .u64 0, .int .i64 0, .int .i64 0] W) := HBX.out.kept hbW
    have HGQ : Hid (W.heap[gq]? = some (.cells #[.int .u64 V1.k, .int .i64 V1.at2, .slice a2 V1.sg.length c2, .slice none 0 0] 47 (0, 0)) ∧ w2.heap.size ≤ gq ∧ W.heap[gt]? = some (.cells #[.int .i64 V1.t.1, .int .u64 V1.t.2.1, .int .i64 V1.t.2.2.1, .int .i64 V1.t.2.2.2] 33 (0, 0)) ∧ w2.heap.size ≤ gt ∧ Own w2.heap.size W a2 V1.sg.length c2 V1.sg) := ⟨hgq, hgqe, hgt, hgte, ho⟩
    clear x0 x1 y2 y3 hgq hgqe ho hgt hgte
    obtain ⟨x0, x1⟩ := cells2m HBW.out.m
    go_upto_region 6 with fail
    go_wp2_with fail
    refine (l17Copy_any (D + 1) am nn cm ws _ n c xs W (HRW.out _ hbW) hcm (by have := HM.out.1; omega) (HKW.out _ hbW) hwt).mono ?_
    rintro e w5 ⟨b1, d1, b2, d2, U, S, rfl, hMX, bU, bS, hb5⟩
    clear x0 x1
    have hm5 := below_kept HBW.out.m hb5
    obtain ⟨x0, x1⟩ := cells2m hm5
    have f0 := frozen_of_row w5 _ 0 _ _ hm5
    have f1 := frozen_of_row w5 _ 1 _ _ hm5
    obtain ⟨g, rfl⟩ : ∃ g, b2 = some ⟨g, 0, none⟩ := by
      rcases hMX.sg.2.2.2.2 with e | ⟨g, e, _⟩
      · omega
      · exact ⟨g, e⟩
    obtain ⟨w6, hw6'⟩ : ∃ w6, w6 = (w5.setCell ⟨w.heap.size, 0, none⟩ (.slice b1 nn d1)).setCell ⟨w.heap.size, 1, none⟩ (.slice (some ⟨g, 0, none⟩) n d2) := ⟨_, rfl⟩
    have ht6 : Touch w.heap.size (w.heap.size + 1) w5 w6 := by rw [hw6']; exact (touch_set1 _ _ _ _).trans (touch_set1 _ _ _ _)
    have hm6 : w6.heap[w.heap.size]? = some (.cells #[.slice b1 nn d1, .slice (some ⟨g, 0, none⟩) n d2] 32 (0, 0)) := by
      rw [hw6']
      exact heap_setCell_same _ _ 1 _ _ _ (heap_setCell_same w5 _ 0 _ _ _ hm5)
    have h1s := hbb.size
    have hs4 : w.heap.size + 1 + 1 + 1 < w1.heap.size := (Array.getElem?_eq_some_iff.1 HBX.out.rs).1
    have h2s := hb2.size
    have hWs : w2.heap.size ≤ W.heap.size := hb.size
    have h5s := hb5.size
    have h6s := ht6.size
    have kp : ∀ {k : Nat} {o : Obj}, W.heap[k]? = some o → w.heap.size < k → w6.heap[k]? = some o := fun h hk => touch_kept ht6 (below_kept h hb5) (by omega)
    have lGQ : gq < W.heap.size := (Array.getElem?_eq_some_iff.1 HGQ.out.1).1
    have lGT : gt < W.heap.size := (Array.getElem?_eq_some_iff.1 HGQ.out.2.2.1).1
    have eGQ := HGQ.out.2.1
    have eGT := HGQ.out.2.2.2.1
    obtain ⟨Q, hTl⟩ : ∃ Q : Nat → Prop, Tl D w.heap.size w.heap.size gq gt nn n b1 d1 g d2 a2 c2 V1 ws xs U S Q w6 := by
      refine ⟨fun b => w2.heap.size ≤ b ∧ b < W.heap.size, ⟨hm6, kp HGQ.out.2.2.1 (by omega), kp HBW.out.rm (by omega), kp HBW.out.rs (by omega), MsgX.move (P := fun b => w.heap.size ≤ b ∧ b < w.heap.size + 1) ⟨hMX.ct, hMX.sg.more.more, hMX.ap⟩ (fun b hb e => by have := (bU b hb).1; omega) (fun b hb e => by have := (bS b hb).1; omega) ht6.toX, fun b hb => ?_⟩, kp HGQ.out.1 (by omega), ?_, fun b hb => ⟨fun e => ?_, fun e => ?_⟩, ⟨fun e => ?_, fun e => ?_, fun e => ?_⟩, fun b hb => ?_⟩
      · rcases hb with hb | hb
        · have := bU b hb; omega
        · have := bS b hb; omega
      · have ho : OwnBX (fun b => w2.heap.size ≤ b ∧ b < W.heap.size) W a2 V1.sg.length c2 V1.sg := ⟨HGQ.out.2.2.2.2.mono (Nat.zero_le _), fun k hk => HGQ.out.2.2.2.2.row.lt k hk⟩
        exact (ho.touch (P := fun _ => False) (fun _ _ h => h) (TouchX.of_below hb5)).touch (fun b hb e => by have := hb.1; omega) ht6.toX
      · have := hb.2; have := (bS b e).1; omega
      · have := hb.2; have := (bU b e).1; omega
      · have := (bS _ e).1; omega
      · have := (bS _ e).1; omega
      · have := (bS _ e).1; omega
      · have := hb.1; have := hb.2; omega
    have HT : Hid (Tl D w.heap.size w.heap.size gq gt nn n b1 d1 g d2 a2 c2 V1 ws xs U S Q w6) := hTl
    have hw6 : Below w.heap.size w w6 := ((keepT hbb hbW).trans (hb5.mono (keepT hbb hbW).size)).trans (ht6.below (Nat.le_refl _) (by omega))
    have HAP : Hid (w.heap.size ≠ w.heap.size + 1 + 1 ∧ gt ≠ w.heap.size + 1 + 1 + 1) := ⟨by omega, by omega⟩
    have HN6 : Hid ((xs.getD kq default).over.length ≤ 6) := (HM.out.2.2 kq (by rw [HLX.out]; exact HKN)).2.2.1
    have HW6 : Hid (_ = _) := hw6'
    clear hTl hw6' hm6 hm5 ht6 kp hMX bU bS hb5 HGQ HBW lGQ lGT eGQ eGT h1s hs4 h2s hWs h5s h6s
    go_upto_region 7 with fail
    rw [← HW6.out]
    clear HW6 x0 x1 f0 f1
    refine wp_region_gj (fun a0 l a W => Fr [65, 66] a0 a ∧ Below w6.heap.size w6 W ∧ (l 0 = false → W.heap.size = w6.heap.size) ∧ (l 0 = true → aT a 65 = .pointer (some ⟨w6.heap.size, 0, none⟩) ∧ ∃ q, W.heap[w6.heap.size]? = some (.cells #[.bool q] 4 (0, 0))) ∧ (l 3 = true → ∃ q, aT a 66 = .bool q)) (fun a0 => a0.tmps.size = 96) (by kernel_rfl) (by kernel_rfl) rfl ?_ ?_ ?_
    · intro a0 _ l hl0 hl1
      have h0 := hl0 0 (by decide)
      have h3 := hl0 3 (by decide)
      exact ⟨Fr.refl _ _, (Below.refl _ _).drew, fun _ => rfl, (fun e => by rw [h0] at e; cases e), (fun e => by rw [h3] at e; cases e)⟩
    · rintro a0 hz
      refine StepsG.cons ?_ (StepsG.cons ?_ (StepsG.cons ?_ (StepsG.cons ?_ StepsG.nil)))
      · rintro lQ b W ⟨hF, hB, hs0, hs1, hs3⟩ hUN hED KQ hKQ
        have es := hs0 hUN
        refine opw_value (w' := W.alloc (.cells #[.bool false] 4)) (.pointer (some ⟨W.heap.size, 0, none⟩)) (by kernel_rfl) ?_
        refine hKQ.out _ _ ⟨hF.put (by decide) _, hB.alloc hB.size _, (fun e => by rw [upd_same] at e; cases e), fun _ => ⟨?_, false, ?_⟩, fun e => ?_⟩
        · rw [aT_put_eq (by rw [hF.size, hz]; decide), es]
        · rw [← es]; exact heap_alloc_new W _
        · rw [upd_ne (by decide)] at e
          obtain ⟨q, hq⟩ := hs3 e
          exact ⟨q, by rw [aT_put_ne (by decide)]; exact hq⟩
      · rintro lQ b W ⟨hF, hB, hs0, hs1, hs3⟩ hUN hED KQ hKQ
        have e0 := edge hED 0 (by kernel_rfl)
        obtain ⟨f, q, hg⟩ := hs1 e0
        have hcc := (cell_of_row W _ 0 _ _ (0, 0) hg).trans rfl
        have hfz := frozen_of_row W _ 0 _ _ hg
        refine opw_storeV 4 65 _ rfl ⟨w6.heap.size, 0, none⟩ (.bool true) f rfl (W.setCell ⟨w6.heap.size, 0, none⟩ (.bool true)) (by simp [Instr.storeAt, go_sem, hcc, hfz]) ?_
        have ht := touch_set1 W w6.heap.size 0 (.bool true)
        refine hKQ.out _ _ ⟨hF, hB.trans (ht.below (Nat.le_refl _) hB.size), fun e => ?_, fun _ => ⟨f, true, heap_setCell_same W _ 0 _ _ _ hg⟩, fun e => hs3 (by rw [upd_ne (by decide)] at e; exact e)⟩
        rw [upd_ne (by decide), e0] at e
        cases e
      · rintro lQ b W ⟨hF, hB, hs0, hs1, hs3⟩ hUN hED KQ hKQ
        have e0 := edge hED 0 (by kernel_rfl)
        obtain ⟨f, q, hg⟩ := hs1 e0
        have hcc := (cell_of_row W _ 0 _ _ (0, 0) hg).trans rfl
        have hfz := frozen_of_row W _ 0 _ _ hg
        refine opw_storeV 4 65 _ rfl ⟨w6.heap.size, 0, none⟩ (.bool false) f rfl (W.setCell ⟨w6.heap.size, 0, none⟩ (.bool false)) (by simp [Instr.storeAt, go_sem, hcc, hfz]) ?_
        have ht := touch_set1 W w6.heap.size 0 (.bool false)
        refine hKQ.out _ _ ⟨hF, hB.trans (ht.below (Nat.le_refl _) hB.size), fun e => ?_, fun _ => ⟨f, false, heap_setCell_same W _ 0 _ _ _ hg⟩, fun e => hs3 (by rw [upd_ne (by decide)] at e; exact e)⟩
        rw [upd_ne (by decide), e0] at e
        cases e
      · rintro lQ b W ⟨hF, hB, hs0, hs1, hs3⟩ hUN hED KQ hKQ
        have e0 := edge hED 0 (by kernel_rfl)
        obtain ⟨f, q, hg⟩ := hs1 e0
        have hc : W.cell? ⟨w6.heap.size, 0, none⟩ = some (.bool q) := (cell_of_row _ _ 0 _ _ (0, 0) hg).trans rfl
        refine opw_load1 4 65 rfl _ f (.bool q) (by simp [Instr.loadAt, go_sem, hc]) (hKQ.out _ _ ⟨hF.put (by decide) _, hB, fun e => ?_, fun _ => ⟨by rw [aT_put_ne (by decide)]; exact f, q, hg⟩, fun _ => ⟨q, by rw [aT_put_eq (by rw [hF.size, hz]; decide)]⟩⟩)
        rw [upd_ne (by decide), e0] at e
        cases e
    · rintro l b W ⟨hF, hB, hu1, hu2, h3⟩ hall
      clear hu1 hu2
      obtain ⟨q, e66⟩ := h3 (hall 3)
      rw [hF.eq]
      simp only [puts, Act.put, List.setIfInBounds_toArray, List.set_cons_zero, List.set_cons_succ, e66]
      clear e66
      clear hF hall h3
      generalize aT b = AT
      clear b
      obtain ⟨wd, hwd⟩ : ∃ wd, wd = W.drew := ⟨_, rfl⟩
      have hbd : Below w6.heap.size w6 wd := by rw [hwd]; exact hB.drew
      have HD : Hid (Tl D w.heap.size w.heap.size gq gt nn n b1 d1 g d2 a2 c2 V1 ws xs U S Q wd) := HT.out.kept hbd
      have HBD : Hid (Below w.heap.size w6 wd) := hbd.mono hw6.size
      obtain ⟨ao, no, co, us, hcl, hrw, how, hln, hfz, hSg, hlg⟩ := HD.out.over HKN
      have HWD : Hid (_ = _) := hwd
      clear hwd
      have HX : Hid (Wx w.heap.size gq g no kq S us (.slice ao no co) (.slice b1 nn d1) (.slice (some ⟨g, 0, none⟩) n d2) #[.int .u64 V1.k, .int .i64 V1.at2, .slice a2 V1.sg.length c2, .slice none 0 0] wd) := ⟨HD.out.z.box, (Array.getElem?_eq_some_iff.1 HD.out.z.box).1, fun e => HD.out.ap.1 (how _ e).1, fun e => HD.out.ap.1 (by rw [e]; exact hSg), HD.out.sg, (Array.getElem?_eq_some_iff.1 HD.out.sg).1, fun e => HD.out.ap.2.1 (how _ e).1, fun e => HD.out.ap.2.1 (by rw [e]; exact hSg), hlg, hcl, fun e => (how _ e).2 rfl, hfz, hrw, by rw [← hln]; exact HN6.out, how, hSg⟩
      clear hcl hrw how hln hfz hSg hlg hbd hB
      obtain ⟨i0, hi, hz0, hz1, hz3⟩ := info_parts Tryz.infoItem
      cases q with
      | true =>
        go_upto_region 8 with fail
        refine wp_region_gj (fun a0 l a W => RI (cgw8 w.heap.size g n d2 kq a2 c2 V1 ao no co (wd.heap.size)) [67, 68, 69, 70, 71, 72, 73, 74, 75, 76, 77, 78] 0 wd a0 l a W ∧ Wd wd #[.int .u64 0, .int .i64 0, .slice none 0 0, .slice none 0 0] (.slice ao no co) no us g (kq * 4 + 3) (l 8) (l 9) (l 12) (aT a 76) W) (fun a0 => a0.tmps.size = 96 ∧ aT a0 4 = .pointer (some ⟨w.heap.size, 0, none⟩) ∧ aT a0 1 = .int .i64 (kq : Int) ∧ aT a0 11 = .pointer (some ⟨gq, 0, none⟩)) (by kernel_rfl) (by kernel_rfl) ⟨rfl, rfl, rfl, rfl⟩ ?_ ?_ ?_
        · intro a0 _ l hl0 hl1
          rw [← HWD.out]
          refine ⟨ri_start (Below.refl _ _) (fun k hl => ?_) hl1 rfl (fun k h1 h2 => absurd h1 (Nat.not_le.2 h2)), ?_⟩
          · by_cases hk : k < 13
            · rw [hl0 k hk] at hl; cases hl
            · exact Nat.not_lt.1 hk
          · rw [hl0 8 (by decide), hl0 9 (by decide), hl0 12 (by decide)]
            exact Wd.start _
        · rintro a0 ⟨hz, gB, g1, gS⟩
          refine StepsG.cons ?_ (StepsG.cons ?_ (StepsG.cons ?_ (StepsG.cons ?_ (StepsG.cons ?_ (StepsG.cons ?_ (StepsG.cons ?_ (StepsG.cons ?_ (StepsG.cons ?_ (StepsG.cons ?_ (StepsG.cons ?_ (StepsG.cons ?_ (StepsG.cons ?_ (StepsG.nil)))))))))))))
          · rintro lQ b W ⟨hI, hJ⟩ hUN hED KQ hKQ
            exact opw_field 32 4 1 rfl _ ((hI.fr.same 4 (by decide)).trans gB) _ (by kernel_rfl) (hKQ.out _ _ ⟨hI.putF (cgw8_still w.heap.size g n d2 kq a2 c2 V1 ao no co (wd.heap.size)) 0 67 (fun j hj => by cases hj) rfl (by rw [hz]; decide) rfl hUN rfl hI.bel rfl, hJ.put 0 67 _ (by decide) (by decide)⟩)
          · rintro lQ b W ⟨hI, hJ⟩ hUN hED KQ hKQ
            have f : aT b 67 = .pointer (some ⟨w.heap.size, 1, none⟩) := hI.got 0 (of_decide_eq_true rfl) (edge hED 0 (by kernel_rfl)) rfl
            have hg := (hJ.blk HX.out.l1 HX.out.m1 HX.out.m2).trans HX.out.bx
            have hc : W.cell? ⟨w.heap.size, 1, none⟩ = some (.slice (some ⟨g, 0, none⟩) n d2) := (cell_of_row _ _ 1 _ _ (0, 0) hg).trans rfl
            exact opw_load1 30 67 rfl _ f _ (by simp [Instr.loadAt, go_sem, hc]) (hKQ.out _ _ ⟨hI.putF (cgw8_still w.heap.size g n d2 kq a2 c2 V1 ao no co (wd.heap.size)) 1 68 (fun j hj => by cases hj) rfl (by rw [hz]; decide) rfl hUN rfl hI.bel rfl, hJ.put 1 68 _ (by decide) (by decide)⟩)
          · rintro lQ b W ⟨hI, hJ⟩ hUN hED KQ hKQ
            exact opw_move 1 rfl (hKQ.out _ _ ⟨hI.putF (cgw8_still w.heap.size g n d2 kq a2 c2 V1 ao no co (wd.heap.size)) 2 69 (fun j hj => by cases hj) rfl (by rw [hz]; decide) rfl hUN rfl hI.bel ((hI.fr.same 1 (by decide)).trans g1), hJ.put 2 69 _ (by decide) (by decide)⟩)
          · rintro lQ b W ⟨hI, hJ⟩ hUN hED KQ hKQ
            have f0 : aT b 68 = .slice (some ⟨g, 0, none⟩) n d2 := hI.got 1 (of_decide_eq_true rfl) (edge hED 1 (by kernel_rfl)) rfl
            have f1 : aT b 69 = .int .i64 (kq : Int) := hI.got 2 (of_decide_eq_true rfl) (edge hED 2 (by kernel_rfl)) rfl
            exact opw_indexX 30 68 69 rfl _ _ f0 f1 _ (indexSg0 g n d2 kq W HKN) (hKQ.out _ _ ⟨hI.putF (cgw8_still w.heap.size g n d2 kq a2 c2 V1 ao no co (wd.heap.size)) 3 70 (fun j hj => by cases hj) rfl (by rw [hz]; decide) rfl hUN rfl hI.bel rfl, hJ.put 3 70 _ (by decide) (by decide)⟩)
          · rintro lQ b W ⟨hI, hJ⟩ hUN hED KQ hKQ
            have f : aT b 70 = .pointer (some ⟨g, kq * 4, none⟩) := hI.got 3 (of_decide_eq_true rfl) (edge hED 3 (by kernel_rfl)) rfl
            exact opw_field 47 70 3 rfl _ f _ (by kernel_rfl) (hKQ.out _ _ ⟨hI.putF (cgw8_still w.heap.size g n d2 kq a2 c2 V1 ao no co (wd.heap.size)) 4 71 (fun j hj => by cases hj) rfl (by rw [hz]; decide) rfl hUN rfl hI.bel rfl, hJ.put 4 71 _ (by decide) (by decide)⟩)
          · rintro lQ b W ⟨hI, hJ⟩ hUN hED KQ hKQ
            have f : aT b 71 = .pointer (some ⟨g, kq * 4 + 3, none⟩) := hI.got 4 (of_decide_eq_true rfl) (edge hED 4 (by kernel_rfl)) rfl
            have hla : lQ 9 = false := unX (fun h => by
              have h1 := hI.cl 9 (of_decide_eq_true rfl) h 5 (List.Mem.head _)
              rw [show lQ 5 = false from hUN] at h1
              cases h1)
            have hc : W.cell? ⟨g, kq * 4 + 3, none⟩ = some (.slice ao no co) := (World.cell?_of_block (a := ⟨g, kq * 4 + 3, none⟩) (hJ.early hla HX.out.lg)).trans HX.out.cl
            exact opw_load1 30 71 rfl _ f _ (by simp [Instr.loadAt, go_sem, hc]) (hKQ.out _ _ ⟨hI.putF (cgw8_still w.heap.size g n d2 kq a2 c2 V1 ao no co (wd.heap.size)) 5 72 (fun j hj => by cases hj) rfl (by rw [hz]; decide) rfl hUN rfl hI.bel rfl, hJ.put 5 72 _ (by decide) (by decide)⟩)
          · rintro lQ b W ⟨hI, hJ⟩ hUN hED KQ hKQ
            have hg := (hJ.blk HX.out.l2 HX.out.q1 HX.out.q2).trans HX.out.sg
            refine wp_load_row 47 _ rfl gq ((hI.fr.same 11 (by decide)).trans gS) 47 #[.int .u64 V1.k, .int .i64 V1.at2, .slice a2 V1.sg.length c2, .slice none 0 0] (0, 0) _ hg Tryz.underlying47 rfl (by kernel_rfl) ?_
            exact hKQ.out _ _ ⟨hI.putF (cgw8_still w.heap.size g n d2 kq a2 c2 V1 ao no co (wd.heap.size)) 6 73 (fun j hj => by cases hj) rfl (by rw [hz]; decide) rfl hUN rfl hI.bel rfl, hJ.put 6 73 _ (by decide) (by decide)⟩
          · rintro lQ b W ⟨hI, hJ⟩ hUN hED KQ hKQ
            have f : aT b 72 = .slice ao no co := hI.got 5 (of_decide_eq_true rfl) (edge hED 5 (by kernel_rfl)) rfl
            exact opw_len 72 30 _ Tryz.underlying30 rfl _ _ _ f (hKQ.out _ _ ⟨hI.putF (cgw8_still w.heap.size g n d2 kq a2 c2 V1 ao no co (wd.heap.size)) 7 74 (fun j hj => by cases hj) rfl (by rw [hz]; decide) rfl hUN rfl hI.bel rfl, hJ.put 7 74 _ (by decide) (by decide)⟩)
          · rintro lQ b W ⟨hI, hJ⟩ hUN hED KQ hKQ
            have hW := hJ.s0 hUN
            have hJ2 := hJ.build hUN (by decide) (aT (b.put (some 75) (.slice (some ⟨wd.heap.size, 0, none⟩) 1 1)) 76)
            have hbl := hJ2.bel
            refine opw_buildSlice 30 1 _ rfl #[(0, .agg #[.int .u64 0, .int .i64 0, .slice none 0 0, .slice none 0 0])] (by simp [evc]) (.slice (some ⟨W.heap.size, 0, none⟩) 1 1) (W.alloc (.cells #[.int .u64 0, .int .i64 0, .slice none 0 0, .slice none 0 0] 47)) (by kernel_rfl) ?_
            have hz2 : W.heap.size = wd.heap.size := by rw [hW]
            rw [hz2]
            exact hKQ.out _ _ ⟨hI.putF (cgw8_still w.heap.size g n d2 kq a2 c2 V1 ao no co (wd.heap.size)) 8 75 (fun j hj => by cases hj) rfl (by rw [hz]; decide) rfl hUN rfl hbl rfl, hJ2⟩
          · rintro lQ b W ⟨hI, hJ⟩ hUN hED KQ hKQ
            have f0 : aT b 72 = .slice ao no co := hI.got 5 (of_decide_eq_true rfl) (edge hED 5 (by kernel_rfl)) rfl
            have f1 : aT b 75 = .slice (some ⟨wd.heap.size, 0, none⟩) 1 1 := hI.got 8 (of_decide_eq_true rfl) (edge hED 8 (by kernel_rfl)) rfl
            have hW := hJ.s1 (edge hED 8 (by kernel_rfl)) hUN
            have hz2 : W.heap.size = wd.heap.size + 1 := by rw [hW]; simp
            have hob : W.ownsRow 0 47 4 (.slice ao no co) no us := by rw [hW]; exact ownsRow_moveX (P := fun _ => False) (S := fun _ => True) HX.out.rw (fun _ _ => trivial) (fun _ _ h => h) (TouchX.of_below ((Below.refl _ _).alloc (Nat.le_refl _) _))
            have hnb : W.heap[wd.heap.size]? = some (.cells #[.int .u64 0, .int .i64 0, .slice none 0 0, .slice none 0 0] 47 (0, 0)) := by rw [hW]; exact heap_alloc_new wd _
            refine wp_append_lies W (.tmp 72) (.tmp 75) 30 rfl 0 47 i0 _ 4 64 Tryz.underlying30 hi hz0 hz1 hz3 rfl (by decide) (.slice ao no co) no us f0 hob ⟨wd.heap.size, 0, none⟩ 1 1 [.int .u64 0, .int .i64 0, .slice none 0 0, .slice none 0 0] f1 rfl (World.news_of_block hnb) (by intro u hu; simp only [List.mem_cons, List.not_mem_nil, or_false] at hu; rcases hu with rfl | rfl | rfl | rfl <;> rfl) (by decide) (by unfold maxLen; have := HX.out.n6; omega) (by have := HX.out.n6; omega) (Nat.zero_le _) _ rfl ?_
            intro g' c' w' hv hg hl hlt
            have hx : AppX wd #[.int .u64 0, .int .i64 0, .slice none 0 0, .slice none 0 0] (.slice ao no co) no us g' c' w' := ⟨hv, by rw [← hW]; exact hg, by rw [← hW]; exact hl⟩
            refine hKQ.out _ _ ⟨hI.putF (cgw8_still w.heap.size g n d2 kq a2 c2 V1 ao no co (wd.heap.size)) 9 76 (fun j hj => by rcases List.mem_singleton.1 hj with rfl; exact (edge hED 5 (by kernel_rfl))) rfl (by rw [hz]; decide) rfl hUN rfl hx.bel trivial, ?_⟩
            rw [aT_put_eq (by rw [hI.fr.size, hz]; decide)]
            exact hJ.app (edge hED 8 (by kernel_rfl)) hUN (by decide) hx
          · rintro lQ b W ⟨hI, hJ⟩ hUN hED KQ hKQ
            have f0 : aT b 68 = .slice (some ⟨g, 0, none⟩) n d2 := hI.got 1 (of_decide_eq_true rfl) (edge hED 1 (by kernel_rfl)) rfl
            have f1 : aT b 69 = .int .i64 (kq : Int) := hI.got 2 (of_decide_eq_true rfl) (edge hED 2 (by kernel_rfl)) rfl
            exact opw_indexX 30 68 69 rfl _ _ f0 f1 _ (indexSg0 g n d2 kq W HKN) (hKQ.out _ _ ⟨hI.putF (cgw8_still w.heap.size g n d2 kq a2 c2 V1 ao no co (wd.heap.size)) 10 77 (fun j hj => by cases hj) rfl (by rw [hz]; decide) rfl hUN rfl hI.bel rfl, hJ.put 10 77 _ (by decide) (by decide)⟩)
          · rintro lQ b W ⟨hI, hJ⟩ hUN hED KQ hKQ
            have f : aT b 77 = .pointer (some ⟨g, kq * 4, none⟩) := hI.got 10 (of_decide_eq_true rfl) (edge hED 10 (by kernel_rfl)) rfl
            exact opw_field 47 77 3 rfl _ f _ (by kernel_rfl) (hKQ.out _ _ ⟨hI.putF (cgw8_still w.heap.size g n d2 kq a2 c2 V1 ao no co (wd.heap.size)) 11 78 (fun j hj => by cases hj) rfl (by rw [hz]; decide) rfl hUN rfl hI.bel rfl, hJ.put 11 78 _ (by decide) (by decide)⟩)
          · rintro lQ b W ⟨hI, hJ⟩ hUN hED KQ hKQ
            have fp : aT b 78 = .pointer (some ⟨g, kq * 4 + 3, none⟩) := hI.got 11 (of_decide_eq_true rfl) (edge hED 11 (by kernel_rfl)) rfl
            have hla := (edge hED 9 (by kernel_rfl))
            obtain ⟨g', c', ev, hx⟩ := hJ.s2 hla hUN
            have hcc : W.cell? ⟨g, kq * 4 + 3, none⟩ = some (.slice ao no co) := (World.cell?_of_block (a := ⟨g, kq * 4 + 3, none⟩) (hJ.blk2 hUN HX.out.lg HX.out.og)).trans HX.out.cl
            have hfz : W.frozen? ⟨g, kq * 4 + 3, none⟩ = false := (World.frozen?_of_block (a := ⟨g, kq * 4 + 3, none⟩) (hJ.blk2 hUN HX.out.lg HX.out.og)).trans (HX.out.fz _)
            have hJ2 := hJ.stored hla hUN (by decide)
            rw [ev] at hJ2
            refine opw_storeX 30 78 76 rfl ⟨g, kq * 4 + 3, none⟩ _ fp ev (W.setCell ⟨g, kq * 4 + 3, none⟩ (.slice (some ⟨g', 0, none⟩) (no + 1) c')) (by simp [Instr.storeAt, go_sem, hcc, hfz]) ?_
            exact hKQ.out _ _ ⟨hI.storeF (cgw8_still w.heap.size g n d2 kq a2 c2 V1 ao no co (wd.heap.size)) 12 (fun j hj => by cases hj) hJ2.bel trivial, by rw [show aT (b.put none undef) 76 = _ from ev]; exact hJ2⟩
        · rintro l b W ⟨hI, hJ⟩ hall
          obtain ⟨g', c', W1, ev, hx, hW⟩ := hJ.s3 (hall 12)
          have e73 : aT b 73 = .agg #[.int .u64 V1.k, .int .i64 V1.at2, .slice a2 V1.sg.length c2, .slice none 0 0] := hI.got 6 (of_decide_eq_true rfl) (hall 6) rfl
          have e74 : aT b 74 = .int .i64 (no : Int) := hI.got 7 (of_decide_eq_true rfl) (hall 7) rfl
          rw [hI.fr.eq]
          simp only [puts, Act.put, List.setIfInBounds_toArray, List.set_cons_zero, List.set_cons_succ, e73, e74, ev]
          clear ev e73 e74
          clear hI hJ hall
          generalize aT b = AT
          clear b
          have hgg : g' ≠ g := by
            rcases hx.lies with e | e
            · exact (HX.out.ow _ e).2
            · have := HX.out.lg
              have h2 : (wd.alloc (.cells #[.int .u64 0, .int .i64 0, .slice none 0 0, .slice none 0 0] 47)).heap.size = wd.heap.size + 1 := by simp
              omega
          obtain ⟨⟨y0, y1, y2, y3⟩, yf⟩ := hx.last HX.out.rw.1 hgg hW
          have f0 := yf (no * 4)
          have f1 := yf (no * 4 + 1)
          have f2 := yf (no * 4 + 2)
          have f3 := yf (no * 4 + 3)
          have HWX : Hid (_ = _) := hW
          clear hW yf
          have hin : (no : Int) < ((no + 1 : Nat) : Int) := by omega
          go_upto_region 11 with fail
          rw [HWX.out]
          obtain ⟨S', HZ, hT⟩ := HD.out.put89 HKN hku HX.out.n6 HX.out.cl HX.out.rw HX.out.ow HX.out.sG hx rfl
          clear hx HWX
          obtain ⟨w9, hw9⟩ : ∃ w9, w9 = ((((W1.setCell ⟨g, kq * 4 + 3, none⟩ (.slice (some ⟨g', 0, none⟩) (no + 1) c')).setCell ⟨g', no * 4, none⟩ (.int .u64 V1.k)).setCell ⟨g', no * 4 + 1, none⟩ (.int .i64 V1.at2)).setCell ⟨g', no * 4 + 2, none⟩ (.slice a2 V1.sg.length c2)).setCell ⟨g', no * 4 + 3, none⟩ (.slice none 0 0) := ⟨_, rfl⟩
          rw [← hw9] at HZ hT
          rw [← hw9]
          have HZZ : Hid (Tz D w.heap.size w.heap.size gt nn n b1 d1 g d2 V1 ws (xs.set kq (overT (xs.getD kq default) (sgTr V1))) U S' w9) := HZ
          have hb9 : Below w.heap.size w w9 := (hw6.trans HBD.out).trans ⟨hT.os, hT.tape, hT.output, hT.size, fun k hk => hT.block k (Nat.lt_of_lt_of_le hk (hw6.trans HBD.out).size) (fun e => by have := (HD.out.z.lt k (.inr e)).1; omega)⟩
          have hS9 : ¬ S (w.heap.size + 1 + 1) := fun e => by have := (HD.out.z.lt _ (.inr e)).1; omega
          clear HZ hT HX hw9 hS9
      
          have HBB : w.heap.size ≤ w9.heap.size := hb9.size
          refine wp_region_ri (cg11 D nn n b1 d1 (some ⟨g, 0, none⟩) d2 ws (xs.set kq (overT (xs.getD kq default) (sgTr V1))) U S' V1 w.heap.size gt w.heap.size (w.heap.size)) [10, 94, 95] (w.heap.size) (fun a0 => a0.tmps.size = 96 ∧ aT a0 4 = .pointer (some ⟨w.heap.size, 0, none⟩) ∧ aT a0 8 = .pointer (some ⟨(w.heap.size + 1 + 1), 0, none⟩) ∧ aT a0 9 = .pointer (some ⟨(w.heap.size + 1 + 1 + 1), 0, none⟩) ∧ aT a0 12 = .pointer (some ⟨gt, 0, none⟩)) (by kernel_rfl) rfl (by kernel_rfl) rfl ⟨rfl, rfl, rfl, rfl, rfl⟩ (cg11_stb D nn n b1 d1 (some ⟨g, 0, none⟩) d2 ws (xs.set kq (overT (xs.getD kq default) (sgTr V1))) U S' V1 w.heap.size gt w.heap.size (w.heap.size)) ?_ ?_ ?_
          · intro k hk hk2
            match k, hk, hk2 with
            | 5, _, _ => exact ⟨HZZ.out.box, HAP.out.1⟩
            | 6, _, _ => exact ⟨HZZ.out.sec, HAP.out.2⟩
            | 7, _, _ => exact HZZ.out.rm
            | 8, _, _ => exact HZZ.out.rs
            | 9, _, _ => exact ⟨HZZ.out.msg, HZZ.out.lt⟩
            | 0, hk, _ => exact absurd hk (by show ¬ (5 ≤ 0); omega)
            | 1, hk, _ => exact absurd hk (by show ¬ (5 ≤ 1); omega)
            | 2, hk, _ => exact absurd hk (by show ¬ (5 ≤ 2); omega)
            | 3, hk, _ => exact absurd hk (by show ¬ (5 ≤ 3); omega)
            | 4, hk, _ => exact absurd hk (by show ¬ (5 ≤ 4); omega)
            | k + 10, _, hk2 => exact absurd hk2 (by show ¬ (k + 10 < 10); omega)
          · rintro a0 ⟨hz, g4, g8, g9, g12⟩
            refine StepsRI.cons ?_ (StepsRI.cons ?_ (StepsRI.cons ?_ (StepsRI.cons ?_ (StepsRI.cons ?_ (StepsRI.nil)))))
            · intro lQ b W hI hUN hED KQ hKQ
              have hg := (hI.vot 5 (of_decide_eq_true rfl) (of_decide_eq_true rfl) rfl).1
              refine wp_load_row 32 _ rfl (w.heap.size) ((hI.fr.same 4 (by decide)).trans g4) 32 #[.slice b1 nn d1, .slice (some ⟨g, 0, none⟩) n d2] (0, 0) _ hg Tryz.underlying32 rfl (by kernel_rfl) ?_
              exact hKQ.out _ _ (hI.put 0 94 rfl rfl (by rw [hz]; decide) rfl hUN rfl HBB (cg11_stb D nn n b1 d1 (some ⟨g, 0, none⟩) d2 ws (xs.set kq (overT (xs.getD kq default) (sgTr V1))) U S' V1 w.heap.size gt w.heap.size (w.heap.size)) (Below.refl _ _) rfl)
            · intro lQ b W hI hUN hED KQ hKQ
              have hg := (hI.vot 6 (of_decide_eq_true rfl) (of_decide_eq_true rfl) rfl).1
              refine wp_load_row 33 _ rfl (gt) ((hI.fr.same 12 (by decide)).trans g12) 33 #[.int .i64 V1.t.1, .int .u64 V1.t.2.1, .int .i64 V1.t.2.2.1, .int .i64 V1.t.2.2.2] (0, 0) _ hg Tryz.underlying33 rfl (by kernel_rfl) ?_
              exact hKQ.out _ _ (hI.put 1 95 rfl rfl (by rw [hz]; decide) rfl hUN rfl HBB (cg11_stb D nn n b1 d1 (some ⟨g, 0, none⟩) d2 ws (xs.set kq (overT (xs.getD kq default) (sgTr V1))) U S' V1 w.heap.size gt w.heap.size (w.heap.size)) (Below.refl _ _) rfl)
            · intro lQ b W hI hUN hED KQ hKQ
              have hgb := (hI.vot1 7 2 (of_decide_eq_true rfl) (of_decide_eq_true rfl) hUN rfl)
              have fb := ((hI.fr.same 8 (by decide)).trans g8)
              have f := hI.got 0 (of_decide_eq_true rfl) (edge hED 0 (by kernel_rfl)) rfl
              refine wp_store_row 32 _ _ rfl ((w.heap.size + 1 + 1)) #[.slice b1 nn d1, .slice (some ⟨g, 0, none⟩) n d2] fb f 32 _ hgb (by kernel_rfl) rfl (by simp [Value.oneCell']) ?_
              have ht := setRow_touch W ((w.heap.size + 1 + 1)) #[.slice b1 nn d1, .slice (some ⟨g, 0, none⟩) n d2]
              exact hKQ.out _ _ (hI.store 2 (fun j hj => by cases hj) (hI.bel.trans (ht.below (by first | exact HGE8 | omega) (Nat.le_trans HBB hI.bel.size))) (cg11_st2 D nn n b1 d1 (some ⟨g, 0, none⟩) d2 ws (xs.set kq (overT (xs.getD kq default) (sgTr V1))) U S' V1 w.heap.size gt w.heap.size (w.heap.size) hgb ht) (setRow_heap W ((w.heap.size + 1 + 1)) _ _ _ _ hgb))
            · intro lQ b W hI hUN hED KQ hKQ
              have hgb := (hI.vot1 8 3 (of_decide_eq_true rfl) (of_decide_eq_true rfl) hUN rfl)
              have fb := ((hI.fr.same 9 (by decide)).trans g9)
              have f := hI.got 1 (of_decide_eq_true rfl) (edge hED 1 (by kernel_rfl)) rfl
              refine wp_store_row 33 _ _ rfl ((w.heap.size + 1 + 1 + 1)) #[.int .i64 V1.t.1, .int .u64 V1.t.2.1, .int .i64 V1.t.2.2.1, .int .i64 V1.t.2.2.2] fb f 33 _ hgb (by kernel_rfl) rfl (by simp [Value.oneCell']) ?_
              have ht := setRow_touch W ((w.heap.size + 1 + 1 + 1)) #[.int .i64 V1.t.1, .int .u64 V1.t.2.1, .int .i64 V1.t.2.2.1, .int .i64 V1.t.2.2.2]
              exact hKQ.out _ _ (hI.store 3 (fun j hj => by cases hj) (hI.bel.trans (ht.below (by first | exact HGE9 | omega) (Nat.le_trans HBB hI.bel.size))) (cg11_st3 D nn n b1 d1 (some ⟨g, 0, none⟩) d2 ws (xs.set kq (overT (xs.getD kq default) (sgTr V1))) U S' V1 w.heap.size gt w.heap.size (w.heap.size) hgb ht) (setRow_heap W ((w.heap.size + 1 + 1 + 1)) _ _ _ _ hgb))
            · intro lQ b W hI hUN hED KQ hKQ
              exact opw_const (.int .i64 0) rfl (hKQ.out _ _ (hI.put 4 10 rfl rfl (by rw [hz]; decide) rfl hUN rfl HBB (cg11_stb D nn n b1 d1 (some ⟨g, 0, none⟩) d2 ws (xs.set kq (overT (xs.getD kq default) (sgTr V1))) U S' V1 w.heap.size gt w.heap.size (w.heap.size)) (Below.refl _ _) rfl))
          · intro b W hf hb F
            have e8 : W.heap[w.heap.size + 1 + 1]? = some (.cells #[.slice b1 nn d1, .slice (some ⟨g, 0, none⟩) n d2] 32 (0, 0)) := F 2 (of_decide_eq_true rfl) rfl
            have e9 : W.heap[w.heap.size + 1 + 1 + 1]? = some (.cells #[.int .i64 V1.t.1, .int .u64 V1.t.2.1, .int .i64 V1.t.2.2.1, .int .i64 V1.t.2.2.2] 33 (0, 0)) := F 3 (of_decide_eq_true rfl) rfl
            have e10 := F 4 (of_decide_eq_true rfl) rfl
            have hm : MsgQ D w.heap.size U S' b1 nn d1 ws (some ⟨g, 0, none⟩) n d2 (xs.set kq (overT (xs.getD kq default) (sgTr V1))) W := F 9 (of_decide_eq_true rfl) rfl
            replace e10 : aT b 10 = _ := e10
            rw [hf.eq]
            simp only [puts, Act.put, List.setIfInBounds_toArray, List.set_cons_zero, List.set_cons_succ, e10]
            clear hf F e10
            generalize aT b = AT
            clear b
            go_wp2
            try simp only [Exit.inBlock, Exit.then]
            refine bodyPost_ret (results_cs rfl _ (w.heap.size + 1 + 1) (w.heap.size + 1 + 1 + 1) rfl rfl (.int .i64 0) rfl _ _ _ e8 e9 rfl rfl) rfl ?_
            have hgo : csGo ws xs ((kq : Int).toNat) V1 = ⟨ws, xs.set kq (overT (xs.getD kq default) (sgTr V1)), V1.t, 0⟩ := by rw [Int.toNat_natCast]; unfold csGo; rw [if_pos HCD.out]
            rw [hgo]
            have l1 : ws.length = nn := hm.1.ct.own.toRow.len
            have l2 : (xs.set kq (overT (xs.getD kq default) (sgTr V1))).length = n := hm.1.sg.1
            refine ⟨b1, d1, some ⟨g, 0, none⟩, d2, U, S', ?_, ?_, fun z hz => ⟨by have := (hm.2 z hz).1; omega, (hm.2 z hz).2⟩, hb9.trans hb⟩
            · simp only [csOut, l1, l2]
            · simp only [l1, l2]
              exact hm.1
      | false =>
        go_upto_region 10 with fail
        refine wp_region_gj (fun a0 l a W => RI (cgw10 w.heap.size g n d2 kq a2 c2 V1 ao no co (wd.heap.size)) [80, 81, 82, 83, 84, 85, 86, 87, 88, 89, 90, 91, 92, 93] 0 wd a0 l a W ∧ Wd wd #[.int .u64 V1.k, .int .i64 V1.at2, .slice a2 V1.sg.length c2, .slice none 0 0] (.slice ao no co) no us g (kq * 4 + 3) (l 10) (l 11) (l 14) (aT a 91) W) (fun a0 => a0.tmps.size = 96 ∧ aT a0 4 = .pointer (some ⟨w.heap.size, 0, none⟩) ∧ aT a0 1 = .int .i64 (kq : Int) ∧ aT a0 11 = .pointer (some ⟨gq, 0, none⟩)) (by kernel_rfl) (by kernel_rfl) ⟨rfl, rfl, rfl, rfl⟩ ?_ ?_ ?_
        · intro a0 _ l hl0 hl1
          rw [← HWD.out]
          refine ⟨ri_start (Below.refl _ _) (fun k hl => ?_) hl1 rfl (fun k h1 h2 => absurd h1 (Nat.not_le.2 h2)), ?_⟩
          · by_cases hk : k < 15
            · rw [hl0 k hk] at hl; cases hl
            · exact Nat.not_lt.1 hk
          · rw [hl0 10 (by decide), hl0 11 (by decide), hl0 14 (by decide)]
            exact Wd.start _
        · rintro a0 ⟨hz, gB, g1, gS⟩
          refine StepsG.cons ?_ (StepsG.cons ?_ (StepsG.cons ?_ (StepsG.cons ?_ (StepsG.cons ?_ (StepsG.cons ?_ (StepsG.cons ?_ (StepsG.cons ?_ (StepsG.cons ?_ (StepsG.cons ?_ (StepsG.cons ?_ (StepsG.cons ?_ (StepsG.cons ?_ (StepsG.cons ?_ (StepsG.cons ?_ (StepsG.nil)))))))))))))))
          · rintro lQ b W ⟨hI, hJ⟩ hUN hED KQ hKQ
            exact opw_field 32 4 1 rfl _ ((hI.fr.same 4 (by decide)).trans gB) _ (by kernel_rfl) (hKQ.out _ _ ⟨hI.putF (cgw10_still w.heap.size g n d2 kq a2 c2 V1 ao no co (wd.heap.size)) 0 80 (fun j hj => by cases hj) rfl (by rw [hz]; decide) rfl hUN rfl hI.bel rfl, hJ.put 0 80 _ (by decide) (by decide)⟩)
          · rintro lQ b W ⟨hI, hJ⟩ hUN hED KQ hKQ
            have f : aT b 80 = .pointer (some ⟨w.heap.size, 1, none⟩) := hI.got 0 (of_decide_eq_true rfl) (edge hED 0 (by kernel_rfl)) rfl
            have hg := (hJ.blk HX.out.l1 HX.out.m1 HX.out.m2).trans HX.out.bx
            have hc : W.cell? ⟨w.heap.size, 1, none⟩ = some (.slice (some ⟨g, 0, none⟩) n d2) := (cell_of_row _ _ 1 _ _ (0, 0) hg).trans rfl
            exact opw_load1 30 80 rfl _ f _ (by simp [Instr.loadAt, go_sem, hc]) (hKQ.out _ _ ⟨hI.putF (cgw10_still w.heap.size g n d2 kq a2 c2 V1 ao no co (wd.heap.size)) 1 81 (fun j hj => by cases hj) rfl (by rw [hz]; decide) rfl hUN rfl hI.bel rfl, hJ.put 1 81 _ (by decide) (by decide)⟩)
          · rintro lQ b W ⟨hI, hJ⟩ hUN hED KQ hKQ
            exact opw_move 1 rfl (hKQ.out _ _ ⟨hI.putF (cgw10_still w.heap.size g n d2 kq a2 c2 V1 ao no co (wd.heap.size)) 2 82 (fun j hj => by cases hj) rfl (by rw [hz]; decide) rfl hUN rfl hI.bel ((hI.fr.same 1 (by decide)).trans g1), hJ.put 2 82 _ (by decide) (by decide)⟩)
          · rintro lQ b W ⟨hI, hJ⟩ hUN hED KQ hKQ
            exact opw_field 32 4 1 rfl _ ((hI.fr.same 4 (by decide)).trans gB) _ (by kernel_rfl) (hKQ.out _ _ ⟨hI.putF (cgw10_still w.heap.size g n d2 kq a2 c2 V1 ao no co (wd.heap.size)) 3 83 (fun j hj => by cases hj) rfl (by rw [hz]; decide) rfl hUN rfl hI.bel rfl, hJ.put 3 83 _ (by decide) (by decide)⟩)
          · rintro lQ b W ⟨hI, hJ⟩ hUN hED KQ hKQ
            have f : aT b 83 = .pointer (some ⟨w.heap.size, 1, none⟩) := hI.got 3 (of_decide_eq_true rfl) (edge hED 3 (by kernel_rfl)) rfl
            have hg := (hJ.blk HX.out.l1 HX.out.m1 HX.out.m2).trans HX.out.bx
            have hc : W.cell? ⟨w.heap.size, 1, none⟩ = some (.slice (some ⟨g, 0, none⟩) n d2) := (cell_of_row _ _ 1 _ _ (0, 0) hg).trans rfl
            exact opw_load1 30 83 rfl _ f _ (by simp [Instr.loadAt, go_sem, hc]) (hKQ.out _ _ ⟨hI.putF (cgw10_still w.heap.size g n d2 kq a2 c2 V1 ao no co (wd.heap.size)) 4 84 (fun j hj => by cases hj) rfl (by rw [hz]; decide) rfl hUN rfl hI.bel rfl, hJ.put 4 84 _ (by decide) (by decide)⟩)
          · rintro lQ b W ⟨hI, hJ⟩ hUN hED KQ hKQ
            exact opw_move 1 rfl (hKQ.out _ _ ⟨hI.putF (cgw10_still w.heap.size g n d2 kq a2 c2 V1 ao no co (wd.heap.size)) 5 85 (fun j hj => by cases hj) rfl (by rw [hz]; decide) rfl hUN rfl hI.bel ((hI.fr.same 1 (by decide)).trans g1), hJ.put 5 85 _ (by decide) (by decide)⟩)
          · rintro lQ b W ⟨hI, hJ⟩ hUN hED KQ hKQ
            have f0 : aT b 84 = .slice (some ⟨g, 0, none⟩) n d2 := hI.got 4 (of_decide_eq_true rfl) (edge hED 4 (by kernel_rfl)) rfl
            have f1 : aT b 85 = .int .i64 (kq : Int) := hI.got 5 (of_decide_eq_true rfl) (edge hED 5 (by kernel_rfl)) rfl
            exact opw_indexX 30 84 85 rfl _ _ f0 f1 _ (indexSg0 g n d2 kq W HKN) (hKQ.out _ _ ⟨hI.putF (cgw10_still w.heap.size g n d2 kq a2 c2 V1 ao no co (wd.heap.size)) 6 86 (fun j hj => by cases hj) rfl (by rw [hz]; decide) rfl hUN rfl hI.bel rfl, hJ.put 6 86 _ (by decide) (by decide)⟩)
          · rintro lQ b W ⟨hI, hJ⟩ hUN hED KQ hKQ
            have f : aT b 86 = .pointer (some ⟨g, kq * 4, none⟩) := hI.got 6 (of_decide_eq_true rfl) (edge hED 6 (by kernel_rfl)) rfl
            exact opw_field 47 86 3 rfl _ f _ (by kernel_rfl) (hKQ.out _ _ ⟨hI.putF (cgw10_still w.heap.size g n d2 kq a2 c2 V1 ao no co (wd.heap.size)) 7 87 (fun j hj => by cases hj) rfl (by rw [hz]; decide) rfl hUN rfl hI.bel rfl, hJ.put 7 87 _ (by decide) (by decide)⟩)
          · rintro lQ b W ⟨hI, hJ⟩ hUN hED KQ hKQ
            have f : aT b 87 = .pointer (some ⟨g, kq * 4 + 3, none⟩) := hI.got 7 (of_decide_eq_true rfl) (edge hED 7 (by kernel_rfl)) rfl
            have hla : lQ 11 = false := unX (fun h => by
              have h1 := hI.cl 11 (of_decide_eq_true rfl) h 8 (List.Mem.head _)
              rw [show lQ 8 = false from hUN] at h1
              cases h1)
            have hc : W.cell? ⟨g, kq * 4 + 3, none⟩ = some (.slice ao no co) := (World.cell?_of_block (a := ⟨g, kq * 4 + 3, none⟩) (hJ.early hla HX.out.lg)).trans HX.out.cl
            exact opw_load1 30 87 rfl _ f _ (by simp [Instr.loadAt, go_sem, hc]) (hKQ.out _ _ ⟨hI.putF (cgw10_still w.heap.size g n d2 kq a2 c2 V1 ao no co (wd.heap.size)) 8 88 (fun j hj => by cases hj) rfl (by rw [hz]; decide) rfl hUN rfl hI.bel rfl, hJ.put 8 88 _ (by decide) (by decide)⟩)
          · rintro lQ b W ⟨hI, hJ⟩ hUN hED KQ hKQ
            have hg := (hJ.blk HX.out.l2 HX.out.q1 HX.out.q2).trans HX.out.sg
            refine wp_load_row 47 _ rfl gq ((hI.fr.same 11 (by decide)).trans gS) 47 #[.int .u64 V1.k, .int .i64 V1.at2, .slice a2 V1.sg.length c2, .slice none 0 0] (0, 0) _ hg Tryz.underlying47 rfl (by kernel_rfl) ?_
            exact hKQ.out _ _ ⟨hI.putF (cgw10_still w.heap.size g n d2 kq a2 c2 V1 ao no co (wd.heap.size)) 9 89 (fun j hj => by cases hj) rfl (by rw [hz]; decide) rfl hUN rfl hI.bel rfl, hJ.put 9 89 _ (by decide) (by decide)⟩
          · rintro lQ b W ⟨hI, hJ⟩ hUN hED KQ hKQ
            have f : aT b 89 = .agg #[.int .u64 V1.k, .int .i64 V1.at2, .slice a2 V1.sg.length c2, .slice none 0 0] := hI.got 9 (of_decide_eq_true rfl) (edge hED 9 (by kernel_rfl)) rfl
            have hW := hJ.s0 hUN
            have hJ2 := hJ.build hUN (by decide) (aT (b.put (some 90) (.slice (some ⟨wd.heap.size, 0, none⟩) 1 1)) 91)
            have hbl := hJ2.bel
            refine opw_buildSlice 30 1 _ rfl #[(0, .agg #[.int .u64 V1.k, .int .i64 V1.at2, .slice a2 V1.sg.length c2, .slice none 0 0])] (by simp [ev, f]) (.slice (some ⟨W.heap.size, 0, none⟩) 1 1) (W.alloc (.cells #[.int .u64 V1.k, .int .i64 V1.at2, .slice a2 V1.sg.length c2, .slice none 0 0] 47)) (by kernel_rfl) ?_
            have hz2 : W.heap.size = wd.heap.size := by rw [hW]
            rw [hz2]
            exact hKQ.out _ _ ⟨hI.putF (cgw10_still w.heap.size g n d2 kq a2 c2 V1 ao no co (wd.heap.size)) 10 90 (fun j hj => by cases hj) rfl (by rw [hz]; decide) rfl hUN rfl hbl rfl, hJ2⟩
          · rintro lQ b W ⟨hI, hJ⟩ hUN hED KQ hKQ
            have f0 : aT b 88 = .slice ao no co := hI.got 8 (of_decide_eq_true rfl) (edge hED 8 (by kernel_rfl)) rfl
            have f1 : aT b 90 = .slice (some ⟨wd.heap.size, 0, none⟩) 1 1 := hI.got 10 (of_decide_eq_true rfl) (edge hED 10 (by kernel_rfl)) rfl
            have hW := hJ.s1 (edge hED 10 (by kernel_rfl)) hUN
            have hz2 : W.heap.size = wd.heap.size + 1 := by rw [hW]; simp
            have hob : W.ownsRow 0 47 4 (.slice ao no co) no us := by rw [hW]; exact ownsRow_moveX (P := fun _ => False) (S := fun _ => True) HX.out.rw (fun _ _ => trivial) (fun _ _ h => h) (TouchX.of_below ((Below.refl _ _).alloc (Nat.le_refl _) _))
            have hnb : W.heap[wd.heap.size]? = some (.cells #[.int .u64 V1.k, .int .i64 V1.at2, .slice a2 V1.sg.length c2, .slice none 0 0] 47 (0, 0)) := by rw [hW]; exact heap_alloc_new wd _
            refine wp_append_lies W (.tmp 88) (.tmp 90) 30 rfl 0 47 i0 _ 4 64 Tryz.underlying30 hi hz0 hz1 hz3 rfl (by decide) (.slice ao no co) no us f0 hob ⟨wd.heap.size, 0, none⟩ 1 1 [.int .u64 V1.k, .int .i64 V1.at2, .slice a2 V1.sg.length c2, .slice none 0 0] f1 rfl (World.news_of_block hnb) (by intro u hu; simp only [List.mem_cons, List.not_mem_nil, or_false] at hu; rcases hu with rfl | rfl | rfl | rfl <;> rfl) (by decide) (by unfold maxLen; have := HX.out.n6; omega) (by have := HX.out.n6; omega) (Nat.zero_le _) _ rfl ?_
            intro g' c' w' hv hg hl hlt
            have hx : AppX wd #[.int .u64 V1.k, .int .i64 V1.at2, .slice a2 V1.sg.length c2, .slice none 0 0] (.slice ao no co) no us g' c' w' := ⟨hv, by rw [← hW]; exact hg, by rw [← hW]; exact hl⟩
            refine hKQ.out _ _ ⟨hI.putF (cgw10_still w.heap.size g n d2 kq a2 c2 V1 ao no co (wd.heap.size)) 11 91 (fun j hj => by rcases List.mem_singleton.1 hj with rfl; exact (edge hED 8 (by kernel_rfl))) rfl (by rw [hz]; decide) rfl hUN rfl hx.bel trivial, ?_⟩
            rw [aT_put_eq (by rw [hI.fr.size, hz]; decide)]
            exact hJ.app (edge hED 10 (by kernel_rfl)) hUN (by decide) hx
          · rintro lQ b W ⟨hI, hJ⟩ hUN hED KQ hKQ
            have f0 : aT b 81 = .slice (some ⟨g, 0, none⟩) n d2 := hI.got 1 (of_decide_eq_true rfl) (edge hED 1 (by kernel_rfl)) rfl
            have f1 : aT b 82 = .int .i64 (kq : Int) := hI.got 2 (of_decide_eq_true rfl) (edge hED 2 (by kernel_rfl)) rfl
            exact opw_indexX 30 81 82 rfl _ _ f0 f1 _ (indexSg0 g n d2 kq W HKN) (hKQ.out _ _ ⟨hI.putF (cgw10_still w.heap.size g n d2 kq a2 c2 V1 ao no co (wd.heap.size)) 12 92 (fun j hj => by cases hj) rfl (by rw [hz]; decide) rfl hUN rfl hI.bel rfl, hJ.put 12 92 _ (by decide) (by decide)⟩)
          · rintro lQ b W ⟨hI, hJ⟩ hUN hED KQ hKQ
            have f : aT b 92 = .pointer (some ⟨g, kq * 4, none⟩) := hI.got 12 (of_decide_eq_true rfl) (edge hED 12 (by kernel_rfl)) rfl
            exact opw_field 47 92 3 rfl _ f _ (by kernel_rfl) (hKQ.out _ _ ⟨hI.putF (cgw10_still w.heap.size g n d2 kq a2 c2 V1 ao no co (wd.heap.size)) 13 93 (fun j hj => by cases hj) rfl (by rw [hz]; decide) rfl hUN rfl hI.bel rfl, hJ.put 13 93 _ (by decide) (by decide)⟩)
          · rintro lQ b W ⟨hI, hJ⟩ hUN hED KQ hKQ
            have fp : aT b 93 = .pointer (some ⟨g, kq * 4 + 3, none⟩) := hI.got 13 (of_decide_eq_true rfl) (edge hED 13 (by kernel_rfl)) rfl
            have hla := (edge hED 11 (by kernel_rfl))
            obtain ⟨g', c', ev, hx⟩ := hJ.s2 hla hUN
            have hcc : W.cell? ⟨g, kq * 4 + 3, none⟩ = some (.slice ao no co) := (World.cell?_of_block (a := ⟨g, kq * 4 + 3, none⟩) (hJ.blk2 hUN HX.out.lg HX.out.og)).trans HX.out.cl
            have hfz : W.frozen? ⟨g, kq * 4 + 3, none⟩ = false := (World.frozen?_of_block (a := ⟨g, kq * 4 + 3, none⟩) (hJ.blk2 hUN HX.out.lg HX.out.og)).trans (HX.out.fz _)
            have hJ2 := hJ.stored hla hUN (by decide)
            rw [ev] at hJ2
            refine opw_storeX 30 93 91 rfl ⟨g, kq * 4 + 3, none⟩ _ fp ev (W.setCell ⟨g, kq * 4 + 3, none⟩ (.slice (some ⟨g', 0, none⟩) (no + 1) c')) (by simp [Instr.storeAt, go_sem, hcc, hfz]) ?_
            exact hKQ.out _ _ ⟨hI.storeF (cgw10_still w.heap.size g n d2 kq a2 c2 V1 ao no co (wd.heap.size)) 14 (fun j hj => by cases hj) hJ2.bel trivial, by rw [show aT (b.put none undef) 91 = _ from ev]; exact hJ2⟩
        · rintro l b W ⟨hI, hJ⟩ hall
          obtain ⟨g', c', W1, ev, hx, hW⟩ := hJ.s3 (hall 14)
          rw [hI.fr.eq]
          simp only [puts, Act.put, List.setIfInBounds_toArray, List.set_cons_zero, List.set_cons_succ, ev]
          clear ev
          clear hI hJ hall
          generalize aT b = AT
          clear b
          rw [hW]
          clear hW
          obtain ⟨S', HZ, hT⟩ := HD.out.put10 HKN hku HX.out.n6 HX.out.cl HX.out.rw HX.out.ow HX.out.sG hx
          clear hx
          obtain ⟨w9, hw9⟩ : ∃ w9, w9 = W1.setCell ⟨g, kq * 4 + 3, none⟩ (.slice (some ⟨g', 0, none⟩) (no + 1) c') := ⟨_, rfl⟩
          rw [← hw9] at HZ hT
          rw [← hw9]
          have HZZ : Hid (Tz D w.heap.size w.heap.size gt nn n b1 d1 g d2 V1 ws (xs.set kq (overT (xs.getD kq default) (sgTr V1))) U S' w9) := HZ
          have hb9 : Below w.heap.size w w9 := (hw6.trans HBD.out).trans ⟨hT.os, hT.tape, hT.output, hT.size, fun k hk => hT.block k (Nat.lt_of_lt_of_le hk (hw6.trans HBD.out).size) (fun e => by have := (HD.out.z.lt k (.inr e)).1; omega)⟩
          have hS9 : ¬ S (w.heap.size + 1 + 1) := fun e => by have := (HD.out.z.lt _ (.inr e)).1; omega
          clear HZ hT HX hw9 hS9
          go_upto_region 11 with fail
      
          have HBB : w.heap.size ≤ w9.heap.size := hb9.size
          refine wp_region_ri (cg11 D nn n b1 d1 (some ⟨g, 0, none⟩) d2 ws (xs.set kq (overT (xs.getD kq default) (sgTr V1))) U S' V1 w.heap.size gt w.heap.size (w.heap.size)) [10, 94, 95] (w.heap.size) (fun a0 => a0.tmps.size = 96 ∧ aT a0 4 = .pointer (some ⟨w.heap.size, 0, none⟩) ∧ aT a0 8 = .pointer (some ⟨(w.heap.size + 1 + 1), 0, none⟩) ∧ aT a0 9 = .pointer (some ⟨(w.heap.size + 1 + 1 + 1), 0, none⟩) ∧ aT a0 12 = .pointer (some ⟨gt, 0, none⟩)) (by kernel_rfl) rfl (by kernel_rfl) rfl ⟨rfl, rfl, rfl, rfl, rfl⟩ (cg11_stb D nn n b1 d1 (some ⟨g, 0, none⟩) d2 ws (xs.set kq (overT (xs.getD kq default) (sgTr V1))) U S' V1 w.heap.size gt w.heap.size (w.heap.size)) ?_ ?_ ?_
          · intro k hk hk2
            match k, hk, hk2 with
            | 5, _, _ => exact ⟨HZZ.out.box, HAP.out.1⟩
            | 6, _, _ => exact ⟨HZZ.out.sec, HAP.out.2⟩
            | 7, _, _ => exact HZZ.out.rm
            | 8, _, _ => exact HZZ.out.rs
            | 9, _, _ => exact ⟨HZZ.out.msg, HZZ.out.lt⟩
            | 0, hk, _ => exact absurd hk (by show ¬ (5 ≤ 0); omega)
            | 1, hk, _ => exact absurd hk (by show ¬ (5 ≤ 1); omega)
            | 2, hk, _ => exact absurd hk (by show ¬ (5 ≤ 2); omega)
            | 3, hk, _ => exact absurd hk (by show ¬ (5 ≤ 3); omega)
            | 4, hk, _ => exact absurd hk (by show ¬ (5 ≤ 4); omega)
            | k + 10, _, hk2 => exact absurd hk2 (by show ¬ (k + 10 < 10); omega)
          · rintro a0 ⟨hz, g4, g8, g9, g12⟩
            refine StepsRI.cons ?_ (StepsRI.cons ?_ (StepsRI.cons ?_ (StepsRI.cons ?_ (StepsRI.cons ?_ (StepsRI.nil)))))
            · intro lQ b W hI hUN hED KQ hKQ
              have hg := (hI.vot 5 (of_decide_eq_true rfl) (of_decide_eq_true rfl) rfl).1
              refine wp_load_row 32 _ rfl (w.heap.size) ((hI.fr.same 4 (by decide)).trans g4) 32 #[.slice b1 nn d1, .slice (some ⟨g, 0, none⟩) n d2] (0, 0) _ hg Tryz.underlying32 rfl (by kernel_rfl) ?_
              exact hKQ.out _ _ (hI.put 0 94 rfl rfl (by rw [hz]; decide) rfl hUN rfl HBB (cg11_stb D nn n b1 d1 (some ⟨g, 0, none⟩) d2 ws (xs.set kq (overT (xs.getD kq default) (sgTr V1))) U S' V1 w.heap.size gt w.heap.size (w.heap.size)) (Below.refl _ _) rfl)
            · intro lQ b W hI hUN hED KQ hKQ
              have hg := (hI.vot 6 (of_decide_eq_true rfl) (of_decide_eq_true rfl) rfl).1
              refine wp_load_row 33 _ rfl (gt) ((hI.fr.same 12 (by decide)).trans g12) 33 #[.int .i64 V1.t.1, .int .u64 V1.t.2.1, .int .i64 V1.t.2.2.1, .int .i64 V1.t.2.2.2] (0, 0) _ hg Tryz.underlying33 rfl (by kernel_rfl) ?_
              exact hKQ.out _ _ (hI.put 1 95 rfl rfl (by rw [hz]; decide) rfl hUN rfl HBB (cg11_stb D nn n b1 d1 (some ⟨g, 0, none⟩) d2 ws (xs.set kq (overT (xs.getD kq default) (sgTr V1))) U S' V1 w.heap.size gt w.heap.size (w.heap.size)) (Below.refl _ _) rfl)
            · intro lQ b W hI hUN hED KQ hKQ
              have hgb := (hI.vot1 7 2 (of_decide_eq_true rfl) (of_decide_eq_true rfl) hUN rfl)
              have fb := ((hI.fr.same 8 (by decide)).trans g8)
              have f := hI.got 0 (of_decide_eq_true rfl) (edge hED 0 (by kernel_rfl)) rfl
              refine wp_store_row 32 _ _ rfl ((w.heap.size + 1 + 1)) #[.slice b1 nn d1, .slice (some ⟨g, 0, none⟩) n d2] fb f 32 _ hgb (by kernel_rfl) rfl (by simp [Value.oneCell']) ?_
              have ht := setRow_touch W ((w.heap.size + 1 + 1)) #[.slice b1 nn d1, .slice (some ⟨g, 0, none⟩) n d2]
              exact hKQ.out _ _ (hI.store 2 (fun j hj => by cases hj) (hI.bel.trans (ht.below (by first | exact HGE8 | omega) (Nat.le_trans HBB hI.bel.size))) (cg11_st2 D nn n b1 d1 (some ⟨g, 0, none⟩) d2 ws (xs.set kq (overT (xs.getD kq default) (sgTr V1))) U S' V1 w.heap.size gt w.heap.size (w.heap.size) hgb ht) (setRow_heap W ((w.heap.size + 1 + 1)) _ _ _ _ hgb))
            · intro lQ b W hI hUN hED KQ hKQ
              have hgb := (hI.vot1 8 3 (of_decide_eq_true rfl) (of_decide_eq_true rfl) hUN rfl)
              have fb := ((hI.fr.same 9 (by decide)).trans g9)
              have f := hI.got 1 (of_decide_eq_true rfl) (edge hED 1 (by kernel_rfl)) rfl
              refine wp_store_row 33 _ _ rfl ((w.heap.size + 1 + 1 + 1)) #[.int .i64 V1.t.1, .int .u64 V1.t.2.1, .int .i64 V1.t.2.2.1, .int .i64 V1.t.2.2.2] fb f 33 _ hgb (by kernel_rfl) rfl (by simp [Value.oneCell']) ?_
              have ht := setRow_touch W ((w.heap.size + 1 + 1 + 1)) #[.int .i64 V1.t.1, .int .u64 V1.t.2.1, .int .i64 V1.t.2.2.1, .int .i64 V1.t.2.2.2]
              exact hKQ.out _ _ (hI.store 3 (fun j hj => by cases hj) (hI.bel.trans (ht.below (by first | exact HGE9 | omega) (Nat.le_trans HBB hI.bel.size))) (cg11_st3 D nn n b1 d1 (some ⟨g, 0, none⟩) d2 ws (xs.set kq (overT (xs.getD kq default) (sgTr V1))) U S' V1 w.heap.size gt w.heap.size (w.heap.size) hgb ht) (setRow_heap W ((w.heap.size + 1 + 1 + 1)) _ _ _ _ hgb))
            · intro lQ b W hI hUN hED KQ hKQ
              exact opw_const (.int .i64 0) rfl (hKQ.out _ _ (hI.put 4 10 rfl rfl (by rw [hz]; decide) rfl hUN rfl HBB (cg11_stb D nn n b1 d1 (some ⟨g, 0, none⟩) d2 ws (xs.set kq (overT (xs.getD kq default) (sgTr V1))) U S' V1 w.heap.size gt w.heap.size (w.heap.size)) (Below.refl _ _) rfl))
          · intro b W hf hb F
            have e8 : W.heap[w.heap.size + 1 + 1]? = some (.cells #[.slice b1 nn d1, .slice (some ⟨g, 0, none⟩) n d2] 32 (0, 0)) := F 2 (of_decide_eq_true rfl) rfl
            have e9 : W.heap[w.heap.size + 1 + 1 + 1]? = some (.cells #[.int .i64 V1.t.1, .int .u64 V1.t.2.1, .int .i64 V1.t.2.2.1, .int .i64 V1.t.2.2.2] 33 (0, 0)) := F 3 (of_decide_eq_true rfl) rfl
            have e10 := F 4 (of_decide_eq_true rfl) rfl
            have hm : MsgQ D w.heap.size U S' b1 nn d1 ws (some ⟨g, 0, none⟩) n d2 (xs.set kq (overT (xs.getD kq default) (sgTr V1))) W := F 9 (of_decide_eq_true rfl) rfl
            replace e10 : aT b 10 = _ := e10
            rw [hf.eq]
            simp only [puts, Act.put, List.setIfInBounds_toArray, List.set_cons_zero, List.set_cons_succ, e10]
            clear hf F e10
            generalize aT b = AT
            clear b
            go_wp2
            try simp only [Exit.inBlock, Exit.then]
            refine bodyPost_ret (results_cs rfl _ (w.heap.size + 1 + 1) (w.heap.size + 1 + 1 + 1) rfl rfl (.int .i64 0) rfl _ _ _ e8 e9 rfl rfl) rfl ?_
            have hgo : csGo ws xs ((kq : Int).toNat) V1 = ⟨ws, xs.set kq (overT (xs.getD kq default) (sgTr V1)), V1.t, 0⟩ := by rw [Int.toNat_natCast]; unfold csGo; rw [if_pos HCD.out]
            rw [hgo]
            have l1 : ws.length = nn := hm.1.ct.own.toRow.len
            have l2 : (xs.set kq (overT (xs.getD kq default) (sgTr V1))).length = n := hm.1.sg.1
            refine ⟨b1, d1, some ⟨g, 0, none⟩, d2, U, S', ?_, ?_, fun z hz => ⟨by have := (hm.2 z hz).1; omega, (hm.2 z hz).2⟩, hb9.trans hb⟩
            · simp only [csOut, l1, l2]
            · simp only [l1, l2]
              exact hm.1

end Go.Proofs.YtpnhhhhmonbajaaGreat

set_option linter.unusedVariables false
namespace Go.Proofs.YtpnhhhhmonbajaaGreat
open Go.RowKit

/-- The bytes in U, the tree in V, the box at gm, once each is made. -/
structure Cj (R nn n d : Nat) (ws : List Int) (xs : List ItT) (U V : Nat → Prop) (gm : Nat) (l : Nat → Bool) (a : Act) (W : World) : Prop where
  bU : ∀ b, U b → R ≤ b ∧ b < W.heap.size
  bV : ∀ b, V b → R ≤ b ∧ b < W.heap.size
  ap : ∀ b, U b → ¬ V b
  bx : l 7 = true → R ≤ gm ∧ ¬ U gm ∧ ¬ V gm ∧ aT a 14 = .pointer (some ⟨gm, 0, none⟩) ∧ W.heap[gm]? = some (.cells (if l 8 = true then #[aT a 64, aT a 67] else #[.slice none 0 0, .slice none 0 0]) 32 (0, 0))
  ct : l 2 = true → ∃ a2 c2, aT a 64 = .slice a2 nn c2 ∧ OwnBX U W a2 nn c2 ws
  sg : l 5 = true → ∃ a3 c3, aT a 67 = .slice a3 n c3 ∧ OwnKidsX d V W a3 n c3 xs
  bd : l 6 = true → aT a 68 = .agg #[aT a 64, aT a 67] ∧ l 2 = true ∧ l 5 = true
  nU : l 2 = false → ∀ b, ¬ U b
  nV : l 5 = false → ∀ b, ¬ V b
  e8 : l 8 = true → l 7 = true ∧ l 6 = true
theorem Cj.start (R nn n d : Nat) (ws : List Int) (xs : List ItT) {l : Nat → Bool} (hl : ∀ k, k < 9 → l k = false) (a : Act) (W : World) : Cj R nn n d ws xs (fun _ => False) (fun _ => False) 0 l a W := by
  have q2 := hl 2 (by decide); have q5 := hl 5 (by decide); have q6 := hl 6 (by decide); have q7 := hl 7 (by decide); have q8 := hl 8 (by decide)
  exact ⟨fun _ h => h.elim, fun _ h => h.elim, fun _ h => h.elim, (fun e => by rw [q7] at e; cases e), (fun e => by rw [q2] at e; cases e), (fun e => by rw [q5] at e; cases e), (fun e => by rw [q6] at e; cases e), fun _ _ h => h, fun _ _ h => h, (fun e => by rw [q8] at e; cases e)⟩
theorem Cj.put {R nn n d : Nat} {ws : List Int} {xs : List ItT} {U V : Nat → Prop} {gm : Nat} {l : Nat → Bool} {a : Act} {W : World} (h : Cj R nn n d ws xs U V gm l a W) (k t : Nat) (v : Value) (hk : 2 ≠ k ∧ 5 ≠ k ∧ 6 ≠ k ∧ 7 ≠ k ∧ 8 ≠ k) (ht : t ≠ 14 ∧ t ≠ 64 ∧ t ≠ 67 ∧ t ≠ 68) : Cj R nn n d ws xs U V gm (upd l k) (a.put (some t) v) W := by
  obtain ⟨k2, k5, k6, k7, k8⟩ := hk
  obtain ⟨t1, t2, t3, t4⟩ := ht
  obtain ⟨bU, bV, ap, bx, ct, sg, bd, nU, nV, e8⟩ := h
  refine ⟨bU, bV, ap, ?_, ?_, ?_, ?_, ?_, ?_, ?_⟩
  all_goals simp only [upd_ne k2, upd_ne k5, upd_ne k6, upd_ne k7, upd_ne k8, aT_put_ne t1, aT_put_ne t2, aT_put_ne t3, aT_put_ne t4]
  · exact bx
  · exact ct
  · exact sg
  · exact bd
  · exact nU
  · exact nV
  · exact e8
theorem Cj.clone {R nn n d : Nat} {ws : List Int} {xs : List ItT} {U V : Nat → Prop} {gm : Nat} {l : Nat → Bool} {a : Act} {W : World} (h : Cj R nn n d ws xs U V gm l a W) {W' : World} (hl : l 2 = false) (hs : 64 < a.tmps.size) (hR : R ≤ W.heap.size) {a2 : Option Addr} {c2 : Nat} (ho : Own W.heap.size W' a2 nn c2 ws) (hb : Below W.heap.size W W') : Cj R nn n d ws xs (fun b => W.heap.size ≤ b ∧ b < W'.heap.size) V gm (upd l 2) (a.put (some 64) (.slice a2 nn c2)) W' := by
  have h6 : l 6 = false := unX (fun e => by have := (h.bd e).2.1; rw [hl] at this; cases this)
  have h8 : l 8 = false := unX (fun e => by have := (h.e8 e).2; rw [h6] at this; cases this)
  have q5 : upd l 2 5 = l 5 := upd_ne (by decide)
  have q6 : upd l 2 6 = l 6 := upd_ne (by decide)
  have q7 : upd l 2 7 = l 7 := upd_ne (by decide)
  have q8 : upd l 2 8 = l 8 := upd_ne (by decide)
  have sz := hb.size
  refine ⟨fun b hb => ⟨Nat.le_trans hR hb.1, hb.2⟩, fun b hv => ⟨(h.bV b hv).1, Nat.lt_of_lt_of_le (h.bV b hv).2 sz⟩, fun b hu hv => (by have := (h.bV b hv).2; have := hu.1; omega), ?_, fun _ => ⟨a2, c2, aT_put_eq hs, ⟨ho.mono (Nat.zero_le _), fun k hk => ho.row.lt k hk⟩⟩, ?_, ?_, ?_, ?_, ?_⟩
  · rw [q7, q8, h8]
    intro e
    obtain ⟨x1, x2, x3, x4, x5⟩ := h.bx e
    rw [h8] at x5
    have hg := (Array.getElem?_eq_some_iff.1 x5).1
    exact ⟨x1, fun hu => (by have := hu.1; omega), x3, (aT_put_ne (by decide)).trans x4, below_kept x5 hb⟩
  · rw [q5]
    intro e
    obtain ⟨a3, c3, y1, y2⟩ := h.sg e
    exact ⟨a3, c3, (aT_put_ne (by decide)).trans y1, y2.kept hb⟩
  · rw [q6, h6]
    intro e
    cases e
  · rw [upd_same]
    intro e
    cases e
  · rw [q5]
    exact h.nV
  · rw [q8, h8]
    intro e
    cases e
theorem Cj.each {R nn n d : Nat} {ws : List Int} {xs : List ItT} {U V : Nat → Prop} {gm : Nat} {l : Nat → Bool} {a : Act} {W : World} (h : Cj R nn n d ws xs U V gm l a W) {W' : World} (hl : l 5 = false) (hs : 67 < a.tmps.size) (hR : R ≤ W.heap.size) {a3 : Option Addr} {c3 : Nat} (ho : OwnKidsX d (fun b => W.heap.size ≤ b ∧ b < W'.heap.size) W' a3 n c3 xs) (hb : Below W.heap.size W W') : Cj R nn n d ws xs U (fun b => W.heap.size ≤ b ∧ b < W'.heap.size) gm (upd l 5) (a.put (some 67) (.slice a3 n c3)) W' := by
  have h6 : l 6 = false := unX (fun e => by have := (h.bd e).2.2; rw [hl] at this; cases this)
  have h8 : l 8 = false := unX (fun e => by have := (h.e8 e).2; rw [h6] at this; cases this)
  have q5 : upd l 5 2 = l 2 := upd_ne (by decide)
  have q6 : upd l 5 6 = l 6 := upd_ne (by decide)
  have q7 : upd l 5 7 = l 7 := upd_ne (by decide)
  have q8 : upd l 5 8 = l 8 := upd_ne (by decide)
  have sz := hb.size
  refine ⟨fun b hv => ⟨(h.bU b hv).1, Nat.lt_of_lt_of_le (h.bU b hv).2 sz⟩, fun b hb => ⟨Nat.le_trans hR hb.1, hb.2⟩, fun b hu hv => (by have := (h.bU b hu).2; have := hv.1; omega), ?_, ?_, fun _ => ⟨a3, c3, aT_put_eq hs, ho⟩, ?_, ?_, ?_, ?_⟩
  · rw [q7, q8, h8]
    intro e
    obtain ⟨x1, x2, x3, x4, x5⟩ := h.bx e
    rw [h8] at x5
    have hg := (Array.getElem?_eq_some_iff.1 x5).1
    exact ⟨x1, x2, fun hu => (by have := hu.1; omega), (aT_put_ne (by decide)).trans x4, below_kept x5 hb⟩
  · rw [q5]
    intro e
    obtain ⟨a2, c2, y1, y2⟩ := h.ct e
    exact ⟨a2, c2, (aT_put_ne (by decide)).trans y1, y2.touch (P := fun _ => False) (fun _ _ h => h) (TouchX.of_below hb)⟩
  · rw [q6, h6]
    intro e
    cases e
  · rw [q5]
    exact h.nU
  · rw [upd_same]
    intro e
    cases e
  · rw [q8, h8]
    intro e
    cases e
theorem Cj.build {R nn n d : Nat} {ws : List Int} {xs : List ItT} {U V : Nat → Prop} {gm : Nat} {l : Nat → Bool} {a : Act} {W : World} (h : Cj R nn n d ws xs U V gm l a W) (hs : 68 < a.tmps.size) (h2 : l 2 = true) (h5 : l 5 = true) : Cj R nn n d ws xs U V gm (upd l 6) (a.put (some 68) (.agg #[aT a 64, aT a 67])) W := by
  obtain ⟨bU, bV, ap, bx, ct, sg, bd, nU, nV, e8⟩ := h
  have t1 : (68 : Nat) ≠ 14 := by decide
  have t2 : (68 : Nat) ≠ 64 := by decide
  have t3 : (68 : Nat) ≠ 67 := by decide
  have k2 : (2 : Nat) ≠ 6 := by decide
  have k5 : (5 : Nat) ≠ 6 := by decide
  have k7 : (7 : Nat) ≠ 6 := by decide
  have k8 : (8 : Nat) ≠ 6 := by decide
  refine ⟨bU, bV, ap, ?_, ?_, ?_, fun _ => ⟨?_, ?_, ?_⟩, ?_, ?_, ?_⟩
  all_goals simp only [upd_ne k2, upd_ne k5, upd_ne k7, upd_ne k8, upd_same, aT_put_ne t1, aT_put_ne t2, aT_put_ne t3]
  · exact bx
  · exact ct
  · exact sg
  · exact aT_put_eq hs
  · exact h2
  · exact h5
  · exact nU
  · exact nV
  · exact fun e => ⟨(e8 e).1, trivial⟩
theorem Cj.alloc {R nn n d : Nat} {ws : List Int} {xs : List ItT} {U V : Nat → Prop} {gm : Nat} {l : Nat → Bool} {a : Act} {W : World} (h : Cj R nn n d ws xs U V gm l a W) (hl : l 7 = false) (hs : 14 < a.tmps.size) (hR : R ≤ W.heap.size) : Cj R nn n d ws xs U V W.heap.size (upd l 7) (a.put (some 14) (.pointer (some ⟨W.heap.size, 0, none⟩))) (W.alloc (.cells #[.slice none 0 0, .slice none 0 0] 32)) := by
  have h8 : l 8 = false := unX (fun e => by have := (h.e8 e).1; rw [hl] at this; cases this)
  have hb : Below W.heap.size W (W.alloc (.cells #[.slice none 0 0, .slice none 0 0] 32)) := (Below.refl _ _).alloc (Nat.le_refl _) _
  have sz := hb.size
  have q2 : upd l 7 2 = l 2 := upd_ne (by decide)
  have q5 : upd l 7 5 = l 5 := upd_ne (by decide)
  have q6 : upd l 7 6 = l 6 := upd_ne (by decide)
  have q8 : upd l 7 8 = l 8 := upd_ne (by decide)
  refine ⟨fun b hv => ⟨(h.bU b hv).1, Nat.lt_of_lt_of_le (h.bU b hv).2 sz⟩, fun b hv => ⟨(h.bV b hv).1, Nat.lt_of_lt_of_le (h.bV b hv).2 sz⟩, h.ap, fun _ => ⟨hR, fun hu => (by have := (h.bU _ hu).2; omega), fun hu => (by have := (h.bV _ hu).2; omega), aT_put_eq hs, ?_⟩, ?_, ?_, ?_, ?_, ?_, ?_⟩
  · rw [q8, h8]
    exact heap_alloc_new W _
  · rw [q2]
    intro e
    obtain ⟨a2, c2, y1, y2⟩ := h.ct e
    exact ⟨a2, c2, (aT_put_ne (by decide)).trans y1, y2.touch (P := fun _ => False) (fun _ _ h => h) (TouchX.of_below hb)⟩
  · rw [q5]
    intro e
    obtain ⟨a3, c3, y1, y2⟩ := h.sg e
    exact ⟨a3, c3, (aT_put_ne (by decide)).trans y1, y2.kept hb⟩
  · rw [q2, q5, q6, aT_put_ne (show (14 : Nat) ≠ 68 by decide), aT_put_ne (show (14 : Nat) ≠ 64 by decide), aT_put_ne (show (14 : Nat) ≠ 67 by decide)]
    exact h.bd
  · rw [q2]
    exact h.nU
  · rw [q5]
    exact h.nV
  · rw [q8, h8]
    intro e
    cases e
theorem Cj.stored {R nn n d : Nat} {ws : List Int} {xs : List ItT} {U V : Nat → Prop} {gm : Nat} {l : Nat → Bool} {a : Act} {W : World} (h : Cj R nn n d ws xs U V gm l a W) {W' : World} (h6 : l 6 = true) (h7 : l 7 = true) (ht : Touch gm (gm + 1) W W') (hg : W'.heap[gm]? = some (.cells #[aT a 64, aT a 67] 32 (0, 0))) : Cj R nn n d ws xs U V gm (upd l 8) (a.put none undef) W' := by
  have sz := ht.size
  have q2 : upd l 8 2 = l 2 := upd_ne (by decide)
  have q5 : upd l 8 5 = l 5 := upd_ne (by decide)
  have q6 : upd l 8 6 = l 6 := upd_ne (by decide)
  have q7 : upd l 8 7 = l 7 := upd_ne (by decide)
  obtain ⟨x1, x2, x3, x4, x5⟩ := h.bx h7
  refine ⟨fun b hv => ⟨(h.bU b hv).1, Nat.lt_of_lt_of_le (h.bU b hv).2 sz⟩, fun b hv => ⟨(h.bV b hv).1, Nat.lt_of_lt_of_le (h.bV b hv).2 sz⟩, h.ap, fun _ => ⟨x1, x2, x3, x4, ?_⟩, ?_, ?_, ?_, ?_, ?_, ?_⟩
  · rw [upd_same]
    exact hg
  · rw [q2]
    intro e
    obtain ⟨a2, c2, y1, y2⟩ := h.ct e
    exact ⟨a2, c2, y1, y2.touch (fun b hb e => x2 (by have : b = gm := (by omega); rw [← this]; exact hb)) ht.toX⟩
  · rw [q5]
    intro e
    obtain ⟨a3, c3, y1, y2⟩ := h.sg e
    exact ⟨a3, c3, y1, ownKids_movesX d _ _ _ _ _ _ _ _ y2 (fun b hb e => x3 (by have : b = gm := (by omega); rw [← this]; exact hb)) ht.toX⟩
  · rw [q2, q5, q6]
    exact h.bd
  · rw [q2]
    exact h.nU
  · rw [q5]
    exact h.nV
  · exact fun _ => ⟨by rw [q7]; exact h7, by rw [q6]; exact h6⟩

end Go.Proofs.YtpnhhhhmonbajaaGreat

set_option linter.unusedVariables false
namespace Go.Proofs.YtpnhhhhmonbajaaGreat
open Go.RowKit Go.Sort

/-- What is known of a region (RJ). -/
def ck3 (am : Option Addr) (nn cm : Nat) (bq oq n c kq : Nat) (ab : Option Addr) (nb cb : Nat) (at2 sc x h nx : Int) (V1 : NsV) (G B : Nat) : RSpec where
  m := 18
  n := 20
  slots := [45, 46, 47, 48, 49, 50, 51, 52, 53, 44, 54, 55, 56, 11, 12, 11, 12, 13, 100018, 100019]
  kills := [[], [], [], [], [], [], [], [], [], [], [], [], [], [15], [16], [], [], [], [], []]
  pres := [[], [], [], [], [], [], [], [], [], [], [], [], [], [], [], [13], [14], [], [], []]
  fact := fun k v w => match k with
    | 0 => v = .pointer (some ⟨G, 1, none⟩)
    | 1 => v = .slice (some ⟨bq, oq, none⟩) n c
    | 2 => v = .int .i64 (kq : Int)
    | 3 => v = .pointer (some ⟨bq, oq + kq * 4, none⟩)
    | 4 => v = .pointer (some ⟨bq, oq + kq * 4 + 2, none⟩)
    | 5 => v = .slice ab nb cb
    | 6 => v = .int .i64 at2
    | 7 => v = .agg #[.int .i64 sc, .int .u64 x, .int .i64 h, .int .i64 nx]
    | 8 => ∃ a2 c2, v = .tuple #[.agg #[.int .u64 V1.k, .int .i64 V1.at2, .slice a2 V1.sg.length c2, .slice none 0 0], .agg #[.int .i64 V1.t.1, .int .u64 V1.t.2.1, .int .i64 V1.t.2.2.1, .int .i64 V1.t.2.2.2], .int .i64 V1.cd] ∧ Own B w a2 V1.sg.length c2 V1.sg
    | 9 => ∃ a2 c2, v = .tuple #[.agg #[.int .u64 V1.k, .int .i64 V1.at2, .slice a2 V1.sg.length c2, .slice none 0 0], .agg #[.int .i64 V1.t.1, .int .u64 V1.t.2.1, .int .i64 V1.t.2.2.1, .int .i64 V1.t.2.2.2], .int .i64 V1.cd] ∧ Own B w a2 V1.sg.length c2 V1.sg
    | 10 => ∃ a2 c2, v = .agg #[.int .u64 V1.k, .int .i64 V1.at2, .slice a2 V1.sg.length c2, .slice none 0 0] ∧ Own B w a2 V1.sg.length c2 V1.sg
    | 11 => v = .agg #[.int .i64 V1.t.1, .int .u64 V1.t.2.1, .int .i64 V1.t.2.2.1, .int .i64 V1.t.2.2.2]
    | 12 => v = .int .i64 V1.cd
    | 13 => ∃ gb13, v = .pointer (some ⟨gb13, 0, none⟩) ∧ w.heap[gb13]? = some (.cells #[.int .u64 0, .int .i64 0, .slice none 0 0, .slice none 0 0] 47 (0, 0)) ∧ B ≤ gb13
    | 14 => ∃ gb14, v = .pointer (some ⟨gb14, 0, none⟩) ∧ w.heap[gb14]? = some (.cells #[.int .i64 0, .int .u64 0, .int .i64 0, .int .i64 0] 33 (0, 0)) ∧ B ≤ gb14
    | 15 => ∃ gs15 a2 c2, v = .pointer (some ⟨gs15, 0, none⟩) ∧ w.heap[gs15]? = some (.cells #[.int .u64 V1.k, .int .i64 V1.at2, .slice a2 V1.sg.length c2, .slice none 0 0] 47 (0, 0)) ∧ B ≤ gs15 ∧ Own B w a2 V1.sg.length c2 V1.sg
    | 16 => ∃ gs16, v = .pointer (some ⟨gs16, 0, none⟩) ∧ w.heap[gs16]? = some (.cells #[.int .i64 V1.t.1, .int .u64 V1.t.2.1, .int .i64 V1.t.2.2.1, .int .i64 V1.t.2.2.2] 33 (0, 0)) ∧ B ≤ gs16
    | 17 => v = .int .i64 V1.cd
    | 18 => w.heap[G]? = some (.cells #[.slice am nn cm, .slice (some ⟨bq, oq, none⟩) n c] 32 (0, 0)) ∧ G < B
    | _ => w.heap[(G + 1)]? = some (.cells #[.int .i64 sc, .int .u64 x, .int .i64 h, .int .i64 nx] 33 (0, 0)) ∧ G + 1 < B
set_option linter.unusedVariables false in
theorem ck3_stb (am : Option Addr) (nn cm : Nat) (bq oq n c kq : Nat) (ab : Option Addr) (nb cb : Nat) (at2 sc x h nx : Int) (V1 : NsV) (G B : Nat) (k : Nat) (hk : k < 20) : StB ((ck3 am nn cm bq oq n c kq ab nb cb at2 sc x h nx V1 G (B)).fact k) := by
  match k, hk with
  | 0, _ => exact fun _ _ _ h _ => h
  | 1, _ => exact fun _ _ _ h _ => h
  | 2, _ => exact fun _ _ _ h _ => h
  | 3, _ => exact fun _ _ _ h _ => h
  | 4, _ => exact fun _ _ _ h _ => h
  | 5, _ => exact fun _ _ _ h _ => h
  | 6, _ => exact fun _ _ _ h _ => h
  | 7, _ => exact fun _ _ _ h _ => h
  | 8, _ => exact fun _ _ _ ⟨a2, c2, hv, q_0⟩ hb => ⟨a2, c2, hv, q_0.kept hb⟩
  | 9, _ => exact fun _ _ _ ⟨a2, c2, hv, q_0⟩ hb => ⟨a2, c2, hv, q_0.kept hb⟩
  | 10, _ => exact fun _ _ _ ⟨a2, c2, hv, q_0⟩ hb => ⟨a2, c2, hv, q_0.kept hb⟩
  | 11, _ => exact fun _ _ _ h _ => h
  | 12, _ => exact fun _ _ _ h _ => h
  | 13, _ => exact fun _ _ _ ⟨gb13, hv, q_0, q_1⟩ hb => ⟨gb13, hv, below_kept q_0 hb, q_1⟩
  | 14, _ => exact fun _ _ _ ⟨gb14, hv, q_0, q_1⟩ hb => ⟨gb14, hv, below_kept q_0 hb, q_1⟩
  | 15, _ => exact fun _ _ _ ⟨gs15, a2, c2, hv, q_0, q_1, q_2⟩ hb => ⟨gs15, a2, c2, hv, below_kept q_0 hb, q_1, q_2.kept hb⟩
  | 16, _ => exact fun _ _ _ ⟨gs16, hv, q_0, q_1⟩ hb => ⟨gs16, hv, below_kept q_0 hb, q_1⟩
  | 17, _ => exact fun _ _ _ h _ => h
  | 18, _ => exact fun _ _ _ ⟨q_0, q_1⟩ hb => ⟨below_kept q_0 hb, q_1⟩
  | 19, _ => exact fun _ _ _ ⟨q_0, q_1⟩ hb => ⟨below_kept q_0 hb, q_1⟩
  | k + 20, hk => omega
set_option linter.unusedVariables false in
theorem ck3_st15 (am : Option Addr) (nn cm : Nat) (bq oq n c kq : Nat) (ab : Option Addr) (nb cb : Nat) (at2 sc x h nx : Int) (V1 : NsV) (G B : Nat) {W W2 : World} {g : Nat} {cs : Array Value} {fr : Nat × Nat} (hg : W.heap[g]? = some (.cells cs 47 fr)) (ht : Touch (g) (g + 1) W W2) (hge : B ≤ g) (k : Nat) (hk : k < 20) (hne : k ≠ 15) (hkill : 15 ∉ (ck3 am nn cm bq oq n c kq ab nb cb at2 sc x h nx V1 G (B)).kill k) (v : Value) (hfact : (ck3 am nn cm bq oq n c kq ab nb cb at2 sc x h nx V1 G (B)).fact k v W) : (ck3 am nn cm bq oq n c kq ab nb cb at2 sc x h nx V1 G (B)).fact k v W2 := by
  match k, hk, hne, hkill, hfact with
  | 0, _, _, _, hq => exact hq
  | 1, _, _, _, hq => exact hq
  | 2, _, _, _, hq => exact hq
  | 3, _, _, _, hq => exact hq
  | 4, _, _, _, hq => exact hq
  | 5, _, _, _, hq => exact hq
  | 6, _, _, _, hq => exact hq
  | 7, _, _, _, hq => exact hq
  | 8, _, _, _, ⟨a2, c2, hv, q_0⟩ => exact ⟨a2, c2, hv, ⟨ownsRow_box q_0.row hg (by decide) ht, q_0.byte⟩⟩
  | 9, _, _, _, ⟨a2, c2, hv, q_0⟩ => exact ⟨a2, c2, hv, ⟨ownsRow_box q_0.row hg (by decide) ht, q_0.byte⟩⟩
  | 10, _, _, _, ⟨a2, c2, hv, q_0⟩ => exact ⟨a2, c2, hv, ⟨ownsRow_box q_0.row hg (by decide) ht, q_0.byte⟩⟩
  | 11, _, _, _, hq => exact hq
  | 12, _, _, _, hq => exact hq
  | 13, _, _, hkill, _ => exact absurd (List.Mem.head _) hkill
  | 14, _, _, _, ⟨gb14, hv, q_0, q_1⟩ => exact ⟨gb14, hv, box_box q_0 hg (by decide) ht, q_1⟩
  | 15, _, hne, _, _ => exact absurd rfl hne
  | 16, _, _, _, ⟨gs16, hv, q_0, q_1⟩ => exact ⟨gs16, hv, box_box q_0 hg (by decide) ht, q_1⟩
  | 17, _, _, _, hq => exact hq
  | 18, _, _, _, ⟨q_0, q_1⟩ => exact ⟨box_box q_0 hg (by decide) ht, q_1⟩
  | 19, _, _, _, ⟨q_0, q_1⟩ => exact ⟨box_box q_0 hg (by decide) ht, q_1⟩
  | k + 20, hk, _, _, _ => omega
set_option linter.unusedVariables false in
theorem ck3_st16 (am : Option Addr) (nn cm : Nat) (bq oq n c kq : Nat) (ab : Option Addr) (nb cb : Nat) (at2 sc x h nx : Int) (V1 : NsV) (G B : Nat) {W W2 : World} {g : Nat} {cs : Array Value} {fr : Nat × Nat} (hg : W.heap[g]? = some (.cells cs 33 fr)) (ht : Touch (g) (g + 1) W W2) (hge : B ≤ g) (k : Nat) (hk : k < 20) (hne : k ≠ 16) (hkill : 16 ∉ (ck3 am nn cm bq oq n c kq ab nb cb at2 sc x h nx V1 G (B)).kill k) (v : Value) (hfact : (ck3 am nn cm bq oq n c kq ab nb cb at2 sc x h nx V1 G (B)).fact k v W) : (ck3 am nn cm bq oq n c kq ab nb cb at2 sc x h nx V1 G (B)).fact k v W2 := by
  match k, hk, hne, hkill, hfact with
  | 0, _, _, _, hq => exact hq
  | 1, _, _, _, hq => exact hq
  | 2, _, _, _, hq => exact hq
  | 3, _, _, _, hq => exact hq
  | 4, _, _, _, hq => exact hq
  | 5, _, _, _, hq => exact hq
  | 6, _, _, _, hq => exact hq
  | 7, _, _, _, hq => exact hq
  | 8, _, _, _, ⟨a2, c2, hv, q_0⟩ => exact ⟨a2, c2, hv, ⟨ownsRow_box q_0.row hg (by decide) ht, q_0.byte⟩⟩
  | 9, _, _, _, ⟨a2, c2, hv, q_0⟩ => exact ⟨a2, c2, hv, ⟨ownsRow_box q_0.row hg (by decide) ht, q_0.byte⟩⟩
  | 10, _, _, _, ⟨a2, c2, hv, q_0⟩ => exact ⟨a2, c2, hv, ⟨ownsRow_box q_0.row hg (by decide) ht, q_0.byte⟩⟩
  | 11, _, _, _, hq => exact hq
  | 12, _, _, _, hq => exact hq
  | 13, _, _, _, ⟨gb13, hv, q_0, q_1⟩ => exact ⟨gb13, hv, box_box q_0 hg (by decide) ht, q_1⟩
  | 14, _, _, hkill, _ => exact absurd (List.Mem.head _) hkill
  | 15, _, _, _, ⟨gs15, a2, c2, hv, q_0, q_1, q_2⟩ => exact ⟨gs15, a2, c2, hv, box_box q_0 hg (by decide) ht, q_1, ⟨ownsRow_box q_2.row hg (by decide) ht, q_2.byte⟩⟩
  | 16, _, hne, _, _ => exact absurd rfl hne
  | 17, _, _, _, hq => exact hq
  | 18, _, _, _, ⟨q_0, q_1⟩ => exact ⟨box_box q_0 hg (by decide) ht, q_1⟩
  | 19, _, _, _, ⟨q_0, q_1⟩ => exact ⟨(ht.block _ (Array.getElem?_eq_some_iff.1 q_0).1 (by omega)).trans q_0, q_1⟩
  | k + 20, hk, _, _, _ => omega
/-- What is known of a region (RJ). -/
def ck11 (D nn n : Nat) (b1 : Option Addr) (d1 : Nat) (b2 : Option Addr) (d2 : Nat) (ws : List Int) (zs : List ItT) (U S : Nat → Prop) (V1 : NsV) (gm gt G B : Nat) : RSpec where
  m := 5
  n := 10
  slots := [98, 99, 100002, 100003, 10, 100005, 100006, 100007, 100008, 100009]
  kills := [[], [], [], [], [], [], [], [2], [3], []]
  pres := [[], [], [], [], [], [], [], [], [], []]
  fact := fun k v w => match k with
    | 0 => v = .agg #[.slice b1 nn d1, .slice b2 n d2]
    | 1 => v = .agg #[.int .i64 V1.t.1, .int .u64 V1.t.2.1, .int .i64 V1.t.2.2.1, .int .i64 V1.t.2.2.2]
    | 2 => w.heap[(G + 1 + 1)]? = some (.cells #[.slice b1 nn d1, .slice b2 n d2] 32 (0, 0))
    | 3 => w.heap[(G + 1 + 1 + 1)]? = some (.cells #[.int .i64 V1.t.1, .int .u64 V1.t.2.1, .int .i64 V1.t.2.2.1, .int .i64 V1.t.2.2.2] 33 (0, 0))
    | 4 => v = .int .i64 0
    | 5 => w.heap[gm]? = some (.cells #[.slice b1 nn d1, .slice b2 n d2] 32 (0, 0)) ∧ gm ≠ G + 1 + 1
    | 6 => w.heap[gt]? = some (.cells #[.int .i64 V1.t.1, .int .u64 V1.t.2.1, .int .i64 V1.t.2.2.1, .int .i64 V1.t.2.2.2] 33 (0, 0)) ∧ gt ≠ G + 1 + 1 + 1
    | 7 => w.heap[(G + 1 + 1)]? = some (.cells #[.slice none 0 0, .slice none 0 0] 32 (0, 0))
    | 8 => w.heap[(G + 1 + 1 + 1)]? = some (.cells #[.int .i64 0, .int .u64 0, .int .i64 0, .int .i64 0] 33 (0, 0))
    | _ => MsgQ D G U S b1 nn d1 ws b2 n d2 zs w
set_option linter.unusedVariables false in
theorem ck11_stb (D nn n : Nat) (b1 : Option Addr) (d1 : Nat) (b2 : Option Addr) (d2 : Nat) (ws : List Int) (zs : List ItT) (U S : Nat → Prop) (V1 : NsV) (gm gt G B : Nat) (k : Nat) (hk : k < 10) : StB ((ck11 D nn n b1 d1 b2 d2 ws zs U S V1 gm gt G (B)).fact k) := by
  match k, hk with
  | 0, _ => exact fun _ _ _ h _ => h
  | 1, _ => exact fun _ _ _ h _ => h
  | 2, _ => exact fun _ _ _ q_0 hb => below_kept q_0 hb
  | 3, _ => exact fun _ _ _ q_0 hb => below_kept q_0 hb
  | 4, _ => exact fun _ _ _ h _ => h
  | 5, _ => exact fun _ _ _ ⟨q_0, q_1⟩ hb => ⟨below_kept q_0 hb, q_1⟩
  | 6, _ => exact fun _ _ _ ⟨q_0, q_1⟩ hb => ⟨below_kept q_0 hb, q_1⟩
  | 7, _ => exact fun _ _ _ q_0 hb => below_kept q_0 hb
  | 8, _ => exact fun _ _ _ q_0 hb => below_kept q_0 hb
  | 9, _ => exact fun _ _ _ q_0 hb => q_0.kept hb
  | k + 10, hk => omega
set_option linter.unusedVariables false in
theorem ck11_st2 (D nn n : Nat) (b1 : Option Addr) (d1 : Nat) (b2 : Option Addr) (d2 : Nat) (ws : List Int) (zs : List ItT) (U S : Nat → Prop) (V1 : NsV) (gm gt G B : Nat) {W W2 : World} {cs : Array Value} {fr : Nat × Nat} (hg : W.heap[(G + 1 + 1)]? = some (.cells cs 32 fr)) (ht : Touch ((G + 1 + 1)) ((G + 1 + 1) + 1) W W2) (k : Nat) (hk : k < 10) (hne : k ≠ 2) (hkill : 2 ∉ (ck11 D nn n b1 d1 b2 d2 ws zs U S V1 gm gt G (B)).kill k) (v : Value) (hfact : (ck11 D nn n b1 d1 b2 d2 ws zs U S V1 gm gt G (B)).fact k v W) : (ck11 D nn n b1 d1 b2 d2 ws zs U S V1 gm gt G (B)).fact k v W2 := by
  match k, hk, hne, hkill, hfact with
  | 0, _, _, _, hq => exact hq
  | 1, _, _, _, hq => exact hq
  | 2, _, hne, _, _ => exact absurd rfl hne
  | 3, _, _, _, q_0 => exact box_box q_0 hg (by decide) ht
  | 4, _, _, _, hq => exact hq
  | 5, _, _, _, ⟨q_0, q_1⟩ => exact ⟨(ht.block _ (Array.getElem?_eq_some_iff.1 q_0).1 (by omega)).trans q_0, q_1⟩
  | 6, _, _, _, ⟨q_0, q_1⟩ => exact ⟨box_box q_0 hg (by decide) ht, q_1⟩
  | 7, _, _, hkill, _ => exact absurd (List.Mem.head _) hkill
  | 8, _, _, _, q_0 => exact box_box q_0 hg (by decide) ht
  | 9, _, _, _, q_0 => exact q_0.touched ht (by omega)
  | k + 10, hk, _, _, _ => omega
set_option linter.unusedVariables false in
theorem ck11_st3 (D nn n : Nat) (b1 : Option Addr) (d1 : Nat) (b2 : Option Addr) (d2 : Nat) (ws : List Int) (zs : List ItT) (U S : Nat → Prop) (V1 : NsV) (gm gt G B : Nat) {W W2 : World} {cs : Array Value} {fr : Nat × Nat} (hg : W.heap[(G + 1 + 1 + 1)]? = some (.cells cs 33 fr)) (ht : Touch ((G + 1 + 1 + 1)) ((G + 1 + 1 + 1) + 1) W W2) (k : Nat) (hk : k < 10) (hne : k ≠ 3) (hkill : 3 ∉ (ck11 D nn n b1 d1 b2 d2 ws zs U S V1 gm gt G (B)).kill k) (v : Value) (hfact : (ck11 D nn n b1 d1 b2 d2 ws zs U S V1 gm gt G (B)).fact k v W) : (ck11 D nn n b1 d1 b2 d2 ws zs U S V1 gm gt G (B)).fact k v W2 := by
  match k, hk, hne, hkill, hfact with
  | 0, _, _, _, hq => exact hq
  | 1, _, _, _, hq => exact hq
  | 2, _, _, _, q_0 => exact box_box q_0 hg (by decide) ht
  | 3, _, hne, _, _ => exact absurd rfl hne
  | 4, _, _, _, hq => exact hq
  | 5, _, _, _, ⟨q_0, q_1⟩ => exact ⟨box_box q_0 hg (by decide) ht, q_1⟩
  | 6, _, _, _, ⟨q_0, q_1⟩ => exact ⟨(ht.block _ (Array.getElem?_eq_some_iff.1 q_0).1 (by omega)).trans q_0, q_1⟩
  | 7, _, _, _, q_0 => exact box_box q_0 hg (by decide) ht
  | 8, _, _, hkill, _ => exact absurd (List.Mem.head _) hkill
  | 9, _, _, _, q_0 => exact q_0.touched ht (by omega)
  | k + 10, hk, _, _, _ => omega
/-- What is known of a region (RG). -/
def ci6 (am : Option Addr) (nn cm bq oq n c G : Nat) : RSpec where
  m := 9
  n := 9
  slots := [62, 63, 64, 65, 66, 67, 68, 14, 100008]
  kills := [[], [], [], [], [], [], [], [], []]
  pres := [[], [], [], [], [], [], [], [], []]
  fact := fun k v w => match k with
    | 0 => v = .pointer (some ⟨G, 0, none⟩)
    | 1 => v = .slice am nn cm
    | 3 => v = .pointer (some ⟨G, 1, none⟩)
    | 4 => v = .slice (some ⟨bq, oq, none⟩) n c
    | _ => True
theorem ci6_stb (am : Option Addr) (nn cm bq oq n c G : Nat) (k : Nat) (hk : k < 9) : StB ((ci6 am nn cm bq oq n c G).fact k) := fun _ _ _ h _ => h
/-- What is known of a region (RG). -/
def ciw8 (gm g n d2 kq : Nat) (a2 : Option Addr) (c2 : Nat) (V1 : NsV) (ao : Option Addr) (no co H : Nat) : RSpec where
  m := 13
  n := 13
  slots := [71, 72, 73, 74, 75, 76, 77, 78, 79, 80, 81, 82, 100012]
  kills := [[], [], [], [], [], [], [], [], [], [], [], [], []]
  pres := [[], [], [], [], [], [], [], [], [], [5], [], [], []]
  fact := fun k v w => match k with
    | 0 => v = .pointer (some ⟨gm, 1, none⟩)
    | 1 => v = .slice (some ⟨g, 0, none⟩) n d2
    | 2 => v = .int .i64 (kq : Int)
    | 3 => v = .pointer (some ⟨g, kq * 4, none⟩)
    | 4 => v = .pointer (some ⟨g, kq * 4 + 3, none⟩)
    | 5 => v = .slice ao no co
    | 6 => v = .agg #[.int .u64 V1.k, .int .i64 V1.at2, .slice a2 V1.sg.length c2, .slice none 0 0]
    | 7 => v = .int .i64 (no : Int)
    | 8 => v = .slice (some ⟨H, 0, none⟩) 1 1
    | 9 => True
    | 10 => v = .pointer (some ⟨g, kq * 4, none⟩)
    | 11 => v = .pointer (some ⟨g, kq * 4 + 3, none⟩)
    | _ => True
theorem ciw8_still (gm g n d2 kq : Nat) (a2 : Option Addr) (c2 : Nat) (V1 : NsV) (ao : Option Addr) (no co H : Nat) : (ciw8 gm g n d2 kq a2 c2 V1 ao no co (H)).still := fun _ _ _ _ h => h
/-- What is known of a region (RG). -/
def ciw10 (gm g n d2 kq : Nat) (a2 : Option Addr) (c2 : Nat) (V1 : NsV) (ao : Option Addr) (no co H : Nat) : RSpec where
  m := 15
  n := 15
  slots := [84, 85, 86, 87, 88, 89, 90, 91, 92, 93, 94, 95, 96, 97, 100014]
  kills := [[], [], [], [], [], [], [], [], [], [], [], [], [], [], []]
  pres := [[], [], [], [], [], [], [], [], [], [], [], [8], [], [], []]
  fact := fun k v w => match k with
    | 0 => v = .pointer (some ⟨gm, 1, none⟩)
    | 1 => v = .slice (some ⟨g, 0, none⟩) n d2
    | 2 => v = .int .i64 (kq : Int)
    | 3 => v = .pointer (some ⟨gm, 1, none⟩)
    | 4 => v = .slice (some ⟨g, 0, none⟩) n d2
    | 5 => v = .int .i64 (kq : Int)
    | 6 => v = .pointer (some ⟨g, kq * 4, none⟩)
    | 7 => v = .pointer (some ⟨g, kq * 4 + 3, none⟩)
    | 8 => v = .slice ao no co
    | 9 => v = .agg #[.int .u64 V1.k, .int .i64 V1.at2, .slice a2 V1.sg.length c2, .slice none 0 0]
    | 10 => v = .slice (some ⟨H, 0, none⟩) 1 1
    | 11 => True
    | 12 => v = .pointer (some ⟨g, kq * 4, none⟩)
    | 13 => v = .pointer (some ⟨g, kq * 4 + 3, none⟩)
    | _ => True
theorem ciw10_still (gm g n d2 kq : Nat) (a2 : Option Addr) (c2 : Nat) (V1 : NsV) (ao : Option Addr) (no co H : Nat) : (ciw10 gm g n d2 kq a2 c2 V1 ao no co (H)).still := fun _ _ _ _ h => h

set_option maxRecDepth 10000 in
set_option maxHeartbeats 8000000 in
theorem implCounterSign_good (D : Nat) (am : Option Addr) (nn cm : Nat) (ws : List Int) (a : Option Addr) (n c : Nat) (xs : List ItT) (i at2 sc x h nx : Int) (w : World) (hr : Row w am nn ws) (hcm : am = none → cm = 0) (hnn : nn ≤ 9223372036854775807) (hk : KidsT D w a n xs) (hx : U64 x) (hg : csG nn xs i at2) (V1 : NsV) (hV1 : V1 = nsV 9 (xs.getD i.toNat default).sg at2 sc x h nx) (hcd : V1.cd = 0) (hku : U64 V1.k) (hwt : wtST D xs ≤ 1048576) :
    Calls Tryz.prog 8 #[.agg #[.slice am nn cm, .slice a n c], .int .i64 i, .int .i64 at2, .agg #[.int .i64 sc, .int .u64 x, .int .i64 h, .int .i64 nx]] w fun e w' => ∃ a1 c1 a2 c2 U S, e = .returned (csOut (csGo ws xs i.toNat V1) a1 c1 a2 c2) ∧ MsgX (D + 2) U S w' a1 (csGo ws xs i.toNat V1).ct.length c1 (csGo ws xs i.toNat V1).ct a2 (csGo ws xs i.toNat V1).gs.length c2 (csGo ws xs i.toNat V1).gs ∧ (∀ b, U b ∨ S b → w.heap.size ≤ b ∧ b < w'.heap.size) ∧ Below w.heap.size w w' := by
  obtain ⟨w1, hw1⟩ : ∃ w1, w1 = (((w.alloc (.cells #[.slice am nn cm, .slice a n c] 32)).alloc (.cells #[.int .i64 sc, .int .u64 x, .int .i64 h, .int .i64 nx] 33)).alloc (.cells #[.slice none 0 0, .slice none 0 0] 32)).alloc (.cells #[.int .i64 0, .int .u64 0, .int .i64 0, .int .i64 0] 33) := ⟨_, rfl⟩
  have hn4 := bx4c_new w #[.slice am nn cm, .slice a n c] #[.int .i64 sc, .int .u64 x, .int .i64 h, .int .i64 nx] #[.slice none 0 0, .slice none 0 0] #[.int .i64 0, .int .u64 0, .int .i64 0, .int .i64 0]
  rw [← hw1] at hn4
  have hbb := hn4.2
  have HBX : Hid (Bx4c w.heap.size #[.slice am nn cm, .slice a n c] #[.int .i64 sc, .int .u64 x, .int .i64 h, .int .i64 nx] #[.slice none 0 0, .slice none 0 0] #[.int .i64 0, .int .u64 0, .int .i64 0, .int .i64 0] w1) := hn4.1
  have HLX : Hid (xs.length = n) := hk.len.1
  have hn := hk.len.2
  have HKW : Hid (∀ W, Below w1.heap.size w1 W → KidsT D W a n xs) := fun W hW => hk.kept (keepT hbb hW)
  have HRW : Hid (∀ W, Below w1.heap.size w1 W → Row W am nn ws) := fun W hW => hr.kept (keepT hbb hW)
  have HW : Hid (_ = _) := hw1
  have HM : Hid (msgP nn xs) := hg.1
  have hib : 0 ≤ i ∧ i ≤ (n : Int) - 1 := by have := hg.2.1; rw [HLX.out] at this; exact this
  have htm : timP at2 := hg.2.2.1
  have hov6 := hg.2.2.2
  clear hw1 hn4 hk hg hr
  have htd : decide (timP at2) = true := decide_eq_true htm
  obtain ⟨kq, rfl⟩ : ∃ k : Nat, i = (k : Int) := ⟨i.toNat, by omega⟩
  rw [Int.toNat_natCast] at hov6 hV1
  have HKN : kq < n := by omega
  obtain ⟨D, rfl⟩ : ∃ D', D = D' + 1 := by
    cases D with
    | zero => exact (HKW.out _ (Below.refl _ _)).elim
    | succ D => exact ⟨D, rfl⟩
  obtain ⟨bq, oq, hA, hlb1, ab, nb, cb, ak, nk, ck, e0, e1, e2, e3, hrow, hnil, hnb, hu, hov⟩ := (HKW.out _ (Below.refl _ _)).2.2 kq HKN
  subst hA
  obtain ⟨y, hy⟩ : ∃ y, y = xs.getD kq default := ⟨_, rfl⟩
  rw [← hy] at hrow hov6 hov hV1
  have HY : Hid (y = xs.getD kq default) := hy
  have hnk6 : nk ≠ 6 := by rw [hov.len.1] at hov6; exact hov6
  have hnk7 : nk ≤ 6 := by have := (HM.out.2.2 kq (by rw [HLX.out]; exact HKN)).2.2.1; rw [← hy, hov.len.1] at this; exact this
  have hnb4 : nb ≤ 4000 := by have := (HM.out.2.2 kq (by rw [HLX.out]; exact HKN)).2.1; rw [← hy, hrow.len] at this; omega
  have HCELL : Hid (∀ W, Below w1.heap.size w1 W → W.cell? ⟨bq, oq + kq * 4 + 2, none⟩ = some (.slice ab nb cb) ∧ W.cell? ⟨bq, oq + kq * 4 + 3, none⟩ = some (.slice ak nk ck)) := fun W hW => ⟨(hW.cell (p := ⟨bq, oq + kq * 4 + 2, none⟩) hlb1).trans e2, (hW.cell (p := ⟨bq, oq + kq * 4 + 3, none⟩) hlb1).trans e3⟩
  have hat : -9223372036854775808 ≤ at2 ∧ at2 ≤ 9223372036854775807 := by have h1 := htm.1; have h2 := htm.2; omega
  have HNS : Hid (∀ W, Below w1.heap.size w1 W → Calls Tryz.prog 24 #[.int .i64 9, .slice ab nb cb, .int .i64 at2, .agg #[.int .i64 sc, .int .u64 x, .int .i64 h, .int .i64 nx]] W fun e w' => ∃ a c', e = .returned (nsOut V1 a c') ∧ Own W.heap.size w' a V1.sg.length c' V1.sg ∧ Below W.heap.size W w') := fun W hW => by rw [hV1]; exact newSigner_any 9 ab nb cb y.sg at2 sc x h nx W (hrow.kept hW) hnil.1 hnb4 (by decide) (by decide) hat hx
  clear hy e0 e1 e2 e3 hrow hnil hnb hu hov hV1 hov6
  obtain ⟨x0, x1⟩ := cells2m HBX.out.m
  go_enter Tryz.func8, Tryz.ntmps8
  go_upto_region 1 with fail
  rw [← HW.out]
  clear HW
  go_wp2_with fail
  refine (isRightM_any (D + 1) am nn cm _ n c xs _ hnn (HKW.out _ (Below.refl _ _))).mono ?_
  rintro e w2 ⟨ok, rfl, HOK, hb2⟩
  obtain rfl : ok = true := HOK.out.2 HM.out
  clear HOK x0 x1
  obtain ⟨x0, x1⟩ := cells2m (HBX.out.kept hb2).m
  obtain ⟨y2, y3⟩ := HCELL.out _ hb2
  have hlb : bq < w2.heap.size := Nat.lt_of_lt_of_le hlb1 hb2.size
  have hki : (kq : Int) < (n : Int) := by omega
  go_wp2_with fail
  refine (inBounds_t (kq : Int) 0 ((n : Int) - 1) _ hib).mono ?_
  rintro e w3 ⟨rfl, hw3⟩
  have hw3 := hw3.symm
  subst hw3
  go_wp2_with fail
  refine (isTim_any at2 _).mono ?_
  rintro e w3 ⟨rfl, hw3⟩
  have hw3 := hw3.symm
  subst hw3
  rw [htd]
  clear htd
  have q6 : ((nk : Int) == 6) = false := by simp; omega
  go_upto_region 3 with fail
  have HBB : w2.heap.size ≤ w2.heap.size := Nat.le_refl _
  refine wp_region_ri (ck3 am nn cm bq oq n c kq ab nb cb at2 sc x h nx V1 w.heap.size (w2.heap.size)) [11, 12, 13, 44, 45, 46, 47, 48, 49, 50, 51, 52, 53, 54, 55, 56] (w2.heap.size) (fun a0 => a0.tmps.size = 100 ∧ aT a0 1 = .int .i64 (kq : Int) ∧ aT a0 2 = .int .i64 at2 ∧ aT a0 4 = .pointer (some ⟨w.heap.size, 0, none⟩) ∧ aT a0 7 = .pointer (some ⟨(w.heap.size + 1), 0, none⟩)) (by kernel_rfl) rfl (by kernel_rfl) rfl ⟨rfl, rfl, rfl, rfl, rfl⟩ (ck3_stb am nn cm bq oq n c kq ab nb cb at2 sc x h nx V1 w.heap.size (w2.heap.size)) ?_ ?_ ?_
  · intro k hk hk2
    match k, hk, hk2 with
    | 18, _, _ => exact ⟨(HBX.out.kept hb2).m, by have := (Array.getElem?_eq_some_iff.1 (HBX.out.kept hb2).m).1; omega⟩
    | 19, _, _ => exact ⟨(HBX.out.kept hb2).s, by have := (Array.getElem?_eq_some_iff.1 (HBX.out.kept hb2).s).1; omega⟩
    | 0, hk, _ => exact absurd hk (by show ¬ (18 ≤ 0); omega)
    | 1, hk, _ => exact absurd hk (by show ¬ (18 ≤ 1); omega)
    | 2, hk, _ => exact absurd hk (by show ¬ (18 ≤ 2); omega)
    | 3, hk, _ => exact absurd hk (by show ¬ (18 ≤ 3); omega)
    | 4, hk, _ => exact absurd hk (by show ¬ (18 ≤ 4); omega)
    | 5, hk, _ => exact absurd hk (by show ¬ (18 ≤ 5); omega)
    | 6, hk, _ => exact absurd hk (by show ¬ (18 ≤ 6); omega)
    | 7, hk, _ => exact absurd hk (by show ¬ (18 ≤ 7); omega)
    | 8, hk, _ => exact absurd hk (by show ¬ (18 ≤ 8); omega)
    | 9, hk, _ => exact absurd hk (by show ¬ (18 ≤ 9); omega)
    | 10, hk, _ => exact absurd hk (by show ¬ (18 ≤ 10); omega)
    | 11, hk, _ => exact absurd hk (by show ¬ (18 ≤ 11); omega)
    | 12, hk, _ => exact absurd hk (by show ¬ (18 ≤ 12); omega)
    | 13, hk, _ => exact absurd hk (by show ¬ (18 ≤ 13); omega)
    | 14, hk, _ => exact absurd hk (by show ¬ (18 ≤ 14); omega)
    | 15, hk, _ => exact absurd hk (by show ¬ (18 ≤ 15); omega)
    | 16, hk, _ => exact absurd hk (by show ¬ (18 ≤ 16); omega)
    | 17, hk, _ => exact absurd hk (by show ¬ (18 ≤ 17); omega)
    | k + 20, _, hk2 => exact absurd hk2 (by show ¬ (k + 20 < 20); omega)
  · rintro a0 ⟨hz, g1, g2, g4, g7⟩
    refine StepsRI.cons ?_ (StepsRI.cons ?_ (StepsRI.cons ?_ (StepsRI.cons ?_ (StepsRI.cons ?_ (StepsRI.cons ?_ (StepsRI.cons ?_ (StepsRI.cons ?_ (StepsRI.cons ?_ (StepsRI.cons ?_ (StepsRI.cons ?_ (StepsRI.cons ?_ (StepsRI.cons ?_ (StepsRI.cons ?_ (StepsRI.cons ?_ (StepsRI.cons ?_ (StepsRI.cons ?_ (StepsRI.cons ?_ (StepsRI.nil))))))))))))))))))
    · intro lQ b W hI hUN hED KQ hKQ
      exact opw_field 32 4 1 rfl _ ((hI.fr.same 4 (by decide)).trans g4) _ (by kernel_rfl) (hKQ.out _ _ (hI.put 0 45 rfl rfl (by rw [hz]; decide) rfl hUN rfl HBB (ck3_stb am nn cm bq oq n c kq ab nb cb at2 sc x h nx V1 w.heap.size (w2.heap.size)) (Below.refl _ _) rfl))
    · intro lQ b W hI hUN hED KQ hKQ
      have f := hI.got 0 (of_decide_eq_true rfl) (edge hED 0 (by kernel_rfl)) rfl
      have hg := (hI.vot 18 (of_decide_eq_true rfl) (of_decide_eq_true rfl) rfl).1
      have hc : W.cell? ⟨w.heap.size, 1, none⟩ = some (.slice (some ⟨bq, oq, none⟩) n c) := (cell_of_row _ _ 1 _ _ (0, 0) hg).trans rfl
      exact opw_load1 30 45 rfl _ f _ (by simp [Instr.loadAt, go_sem, hc]) (hKQ.out _ _ (hI.put 1 46 rfl rfl (by rw [hz]; decide) rfl hUN rfl HBB (ck3_stb am nn cm bq oq n c kq ab nb cb at2 sc x h nx V1 w.heap.size (w2.heap.size)) (Below.refl _ _) rfl))
    · intro lQ b W hI hUN hED KQ hKQ
      exact opw_move 1 rfl (hKQ.out _ _ (hI.put 2 47 rfl rfl (by rw [hz]; decide) rfl hUN rfl HBB (ck3_stb am nn cm bq oq n c kq ab nb cb at2 sc x h nx V1 w.heap.size (w2.heap.size)) (Below.refl _ _) ((hI.fr.same 1 (by decide)).trans g1)))
    · intro lQ b W hI hUN hED KQ hKQ
      have f0 : aT b 46 = .slice (some ⟨bq, oq, none⟩) n c := hI.got 1 (of_decide_eq_true rfl) (edge hED 1 (by kernel_rfl)) rfl
      have f1 : aT b 47 = .int .i64 (kq : Int) := hI.got 2 (of_decide_eq_true rfl) (edge hED 2 (by kernel_rfl)) rfl
      exact opw_indexX 30 46 47 rfl _ _ f0 f1 _ (indexSg bq oq n c kq W HKN) (hKQ.out _ _ (hI.put 3 48 rfl rfl (by rw [hz]; decide) rfl hUN rfl HBB (ck3_stb am nn cm bq oq n c kq ab nb cb at2 sc x h nx V1 w.heap.size (w2.heap.size)) (Below.refl _ _) rfl))
    · intro lQ b W hI hUN hED KQ hKQ
      have f : aT b 48 = .pointer (some ⟨bq, oq + kq * 4, none⟩) := hI.got 3 (of_decide_eq_true rfl) (edge hED 3 (by kernel_rfl)) rfl
      exact opw_field 47 48 2 rfl _ f _ (by kernel_rfl) (hKQ.out _ _ (hI.put 4 49 rfl rfl (by rw [hz]; decide) rfl hUN rfl HBB (ck3_stb am nn cm bq oq n c kq ab nb cb at2 sc x h nx V1 w.heap.size (w2.heap.size)) (Below.refl _ _) rfl))
    · intro lQ b W hI hUN hED KQ hKQ
      have f : aT b 49 = .pointer (some ⟨bq, oq + kq * 4 + 2, none⟩) := hI.got 4 (of_decide_eq_true rfl) (edge hED 4 (by kernel_rfl)) rfl
      have hc : W.cell? ⟨bq, oq + kq * 4 + 2, none⟩ = some (.slice ab nb cb) := (HCELL.out W (keepT hb2 hI.bel)).1
      exact opw_load1 22 49 rfl _ f _ (by simp [Instr.loadAt, go_sem, hc]) (hKQ.out _ _ (hI.put 5 50 rfl rfl (by rw [hz]; decide) rfl hUN rfl HBB (ck3_stb am nn cm bq oq n c kq ab nb cb at2 sc x h nx V1 w.heap.size (w2.heap.size)) (Below.refl _ _) rfl))
    · intro lQ b W hI hUN hED KQ hKQ
      exact opw_move 2 rfl (hKQ.out _ _ (hI.put 6 51 rfl rfl (by rw [hz]; decide) rfl hUN rfl HBB (ck3_stb am nn cm bq oq n c kq ab nb cb at2 sc x h nx V1 w.heap.size (w2.heap.size)) (Below.refl _ _) ((hI.fr.same 2 (by decide)).trans g2)))
    · intro lQ b W hI hUN hED KQ hKQ
      have hg := (hI.vot 19 (of_decide_eq_true rfl) (of_decide_eq_true rfl) rfl).1
      refine wp_load_row 33 _ rfl ((w.heap.size + 1)) ((hI.fr.same 7 (by decide)).trans g7) 33 #[.int .i64 sc, .int .u64 x, .int .i64 h, .int .i64 nx] (0, 0) _ hg Tryz.underlying33 rfl (by kernel_rfl) ?_
      exact hKQ.out _ _ (hI.put 7 52 rfl rfl (by rw [hz]; decide) rfl hUN rfl HBB (ck3_stb am nn cm bq oq n c kq ab nb cb at2 sc x h nx V1 w.heap.size (w2.heap.size)) (Below.refl _ _) rfl)
    · intro lQ b W hI hUN hED KQ hKQ
      have f1 := hI.got 5 (of_decide_eq_true rfl) (edge hED 5 (by kernel_rfl)) rfl
      replace f1 : aT b 50 = .slice ab nb cb := f1
      have f2 := hI.got 6 (of_decide_eq_true rfl) (edge hED 6 (by kernel_rfl)) rfl
      replace f2 : aT b 51 = .int .i64 at2 := f2
      have f3 := hI.got 7 (of_decide_eq_true rfl) (edge hED 7 (by kernel_rfl)) rfl
      replace f3 : aT b 52 = .agg #[.int .i64 sc, .int .u64 x, .int .i64 h, .int .i64 nx] := f3
      refine opw_call 24 #[.const (.int .i64 9), .tmp 50, .tmp 51, .tmp 52] _ _ _ rfl Tryz.func24 (by kernel_rfl) rfl #[.int .i64 9, .slice ab nb cb, .int .i64 at2, .agg #[.int .i64 sc, .int .u64 x, .int .i64 h, .int .i64 nx]] (by simp [ev, evc, f1, f2, f3]) ?_
      refine (HNS.out W (keepT hb2 hI.bel)).mono ?_
      rintro e W2 ⟨a2, c2, rfl, ho, hb⟩
      exact ⟨_, rfl, hKQ.out _ _ (hI.put 8 53 rfl rfl (by rw [hz]; decide) rfl hUN rfl HBB (ck3_stb am nn cm bq oq n c kq ab nb cb at2 sc x h nx V1 w.heap.size (w2.heap.size)) hb ⟨a2, c2, rfl, ho.mono (Nat.le_trans HBB hI.bel.size)⟩)⟩
    · intro lQ b W hI hUN hED KQ hKQ
      have f := hI.got 8 (of_decide_eq_true rfl) (edge hED 8 (by kernel_rfl)) rfl
      exact opw_move 53 rfl (hKQ.out _ _ (hI.put 9 44 rfl rfl (by rw [hz]; decide) rfl hUN rfl HBB (ck3_stb am nn cm bq oq n c kq ab nb cb at2 sc x h nx V1 w.heap.size (w2.heap.size)) (Below.refl _ _) f))
    · intro lQ b W hI hUN hED KQ hKQ
      have f := hI.got 9 (of_decide_eq_true rfl) (edge hED 9 (by kernel_rfl)) rfl
      obtain ⟨a2, c2, f, o_0⟩ := f
      exact opw_extract 44 0 rfl _ _ f rfl (hKQ.out _ _ (hI.put 10 54 rfl rfl (by rw [hz]; decide) rfl hUN rfl HBB (ck3_stb am nn cm bq oq n c kq ab nb cb at2 sc x h nx V1 w.heap.size (w2.heap.size)) (Below.refl _ _) ⟨a2, c2, rfl, o_0⟩))
    · intro lQ b W hI hUN hED KQ hKQ
      have f := hI.got 9 (of_decide_eq_true rfl) (edge hED 9 (by kernel_rfl)) rfl
      obtain ⟨a2, c2, f, o_0⟩ := f
      exact opw_extract 44 1 rfl _ _ f rfl (hKQ.out _ _ (hI.put 11 55 rfl rfl (by rw [hz]; decide) rfl hUN rfl HBB (ck3_stb am nn cm bq oq n c kq ab nb cb at2 sc x h nx V1 w.heap.size (w2.heap.size)) (Below.refl _ _) rfl))
    · intro lQ b W hI hUN hED KQ hKQ
      have f := hI.got 9 (of_decide_eq_true rfl) (edge hED 9 (by kernel_rfl)) rfl
      obtain ⟨a2, c2, f, o_0⟩ := f
      exact opw_extract 44 2 rfl _ _ f rfl (hKQ.out _ _ (hI.put 12 56 rfl rfl (by rw [hz]; decide) rfl hUN rfl HBB (ck3_stb am nn cm bq oq n c kq ab nb cb at2 sc x h nx V1 w.heap.size (w2.heap.size)) (Below.refl _ _) rfl))
    · intro lQ b W hI hUN hED KQ hKQ
      refine opw_value (w' := W.alloc (.cells #[.int .u64 0, .int .i64 0, .slice none 0 0, .slice none 0 0] 47)) (.pointer (some ⟨W.heap.size, 0, none⟩)) (by kernel_rfl) ?_
      exact hKQ.out _ _ (hI.put 13 11 rfl rfl (by rw [hz]; decide) rfl hUN rfl HBB (ck3_stb am nn cm bq oq n c kq ab nb cb at2 sc x h nx V1 w.heap.size (w2.heap.size)) ((Below.refl _ _).alloc (Nat.le_refl _) _) ⟨W.heap.size, rfl, heap_alloc_new W _, Nat.le_trans HBB hI.bel.size⟩)
    · intro lQ b W hI hUN hED KQ hKQ
      refine opw_value (w' := W.alloc (.cells #[.int .i64 0, .int .u64 0, .int .i64 0, .int .i64 0] 33)) (.pointer (some ⟨W.heap.size, 0, none⟩)) (by kernel_rfl) ?_
      exact hKQ.out _ _ (hI.put 14 12 rfl rfl (by rw [hz]; decide) rfl hUN rfl HBB (ck3_stb am nn cm bq oq n c kq ab nb cb at2 sc x h nx V1 w.heap.size (w2.heap.size)) ((Below.refl _ _).alloc (Nat.le_refl _) _) ⟨W.heap.size, rfl, heap_alloc_new W _, Nat.le_trans HBB hI.bel.size⟩)
    · intro lQ b W hI hUN hED KQ hKQ
      obtain ⟨g, fb, hgb, hge⟩ := hI.got1 13 15 (of_decide_eq_true rfl) (edge hED 13 (by kernel_rfl)) hUN rfl
      have f := hI.got 10 (of_decide_eq_true rfl) (edge hED 10 (by kernel_rfl)) rfl
      obtain ⟨a2, c2, f, o_0⟩ := f
      refine wp_store_row 47 _ _ rfl g #[.int .u64 V1.k, .int .i64 V1.at2, .slice a2 V1.sg.length c2, .slice none 0 0] fb f 47 _ hgb (by kernel_rfl) rfl (by simp [Value.oneCell']) ?_
      have ht := setRow_touch W g #[.int .u64 V1.k, .int .i64 V1.at2, .slice a2 V1.sg.length c2, .slice none 0 0]
      exact hKQ.out _ _ (hI.store 15 (fun j hj => by
          rcases List.mem_singleton.1 hj with rfl
          exact edge hED 13 (by kernel_rfl)) (hI.bel.trans (ht.below hge (Nat.le_trans HBB hI.bel.size))) (ck3_st15 am nn cm bq oq n c kq ab nb cb at2 sc x h nx V1 w.heap.size (w2.heap.size) hgb ht hge) ⟨g, a2, c2, fb, (setRow_heap W g _ _ _ _ hgb), hge, ⟨ownsRow_box o_0.row hgb (by decide) ht, o_0.byte⟩⟩)
    · intro lQ b W hI hUN hED KQ hKQ
      obtain ⟨g, fb, hgb, hge⟩ := hI.got1 14 16 (of_decide_eq_true rfl) (edge hED 14 (by kernel_rfl)) hUN rfl
      have f := hI.got 11 (of_decide_eq_true rfl) (edge hED 11 (by kernel_rfl)) rfl
      refine wp_store_row 33 _ _ rfl g #[.int .i64 V1.t.1, .int .u64 V1.t.2.1, .int .i64 V1.t.2.2.1, .int .i64 V1.t.2.2.2] fb f 33 _ hgb (by kernel_rfl) rfl (by simp [Value.oneCell']) ?_
      have ht := setRow_touch W g #[.int .i64 V1.t.1, .int .u64 V1.t.2.1, .int .i64 V1.t.2.2.1, .int .i64 V1.t.2.2.2]
      exact hKQ.out _ _ (hI.store 16 (fun j hj => by
          rcases List.mem_singleton.1 hj with rfl
          exact edge hED 14 (by kernel_rfl)) (hI.bel.trans (ht.below hge (Nat.le_trans HBB hI.bel.size))) (ck3_st16 am nn cm bq oq n c kq ab nb cb at2 sc x h nx V1 w.heap.size (w2.heap.size) hgb ht hge) ⟨g, fb, (setRow_heap W g _ _ _ _ hgb), hge⟩)
    · intro lQ b W hI hUN hED KQ hKQ
      have f := hI.got 12 (of_decide_eq_true rfl) (edge hED 12 (by kernel_rfl)) rfl
      exact opw_assign 56 rfl (hKQ.out _ _ (hI.put 17 13 rfl rfl (by rw [hz]; decide) rfl hUN rfl HBB (ck3_stb am nn cm bq oq n c kq ab nb cb at2 sc x h nx V1 w.heap.size (w2.heap.size)) (Below.refl _ _) f))
  · intro b W hf hb F
    have e13 := F 17 (of_decide_eq_true rfl) rfl
    have e11 := F 15 (of_decide_eq_true rfl) rfl
    have e12 := F 16 (of_decide_eq_true rfl) rfl
    obtain ⟨gq, a2, c2, e11, hgq, hgqe, ho⟩ := e11
    obtain ⟨gt, e12, hgt, hgte⟩ := e12
    replace e13 : aT b 13 = _ := e13
    replace e11 : aT b 11 = _ := e11
    replace e12 : aT b 12 = _ := e12
    rw [hf.eq]
    simp only [puts, Act.put, List.setIfInBounds_toArray, List.set_cons_zero, List.set_cons_succ, e11, e12, e13]
    clear hf F e11 e12 e13
    generalize aT b = AT
    clear b
    have hbW : Below w1.heap.size w1 W := keepT hb2 hb
    have z5 : (V1.cd != 0) = false := by simp [hcd]
    have HCD : Hid (V1.cd = 0) := hcd
    clear hcd
    have HBW : Hid (Bx4c w.heap.size #[.slice am nn cm, .slice (some ⟨bq, oq, none⟩) n c] #[.int .i64 sc, .int .u64 x, .int .i64 h, .int .i64 nx] #[.slice none 0 0, .slice none 0 0] #[.int .i64 0, .int .u64 0, .int .i64 0, .int .i64 0] W) := HBX.out.kept hbW
    have HGQ : Hid (W.heap[gq]? = some (.cells #[.int .u64 V1.k, .int .i64 V1.at2, .slice a2 V1.sg.length c2, .slice none 0 0] 47 (0, 0)) ∧ w2.heap.size ≤ gq ∧ W.heap[gt]? = some (.cells #[.int .i64 V1.t.1, .int .u64 V1.t.2.1, .int .i64 V1.t.2.2.1, .int .i64 V1.t.2.2.2] 33 (0, 0)) ∧ w2.heap.size ≤ gt ∧ Own w2.heap.size W a2 V1.sg.length c2 V1.sg) := ⟨hgq, hgqe, hgt, hgte, ho⟩
    clear x0 x1 y2 y3 hgq hgqe ho hgt hgte
    obtain ⟨x0, x1⟩ := cells2m HBW.out.m
    go_upto_region 6 with fail
    have HBS : Hid (w2.heap.size ≤ W.heap.size) := hb.size
    obtain ⟨wr, hwr⟩ : ∃ wr, wr = W := ⟨_, rfl⟩
    subst hwr
    refine wp_region_gj (fun a0 l a W => RI (ci6 am nn cm bq oq n c w.heap.size) [14, 62, 63, 64, 65, 66, 67, 68] wr.heap.size wr a0 l a W ∧ ∃ U V gm, Cj wr.heap.size nn n (D + 1) ws xs U V gm l a W) (fun a0 => a0.tmps.size = 100 ∧ aT a0 4 = .pointer (some ⟨w.heap.size, 0, none⟩)) (by kernel_rfl) (by kernel_rfl) ⟨rfl, rfl⟩ ?_ ?_ ?_
    · intro a0 _ l hl0 hl1
      refine ⟨ri_start (Below.refl _ _).drew (fun k hl => ?_) hl1 rfl (fun k h1 h2 => absurd h1 (Nat.not_le.2 h2)), _, _, _, Cj.start _ _ _ _ _ _ hl0 _ _⟩
      by_cases hk : k < 9
      · rw [hl0 k hk] at hl; cases hl
      · exact Nat.not_lt.1 hk
    · rintro a0 ⟨hz, gB⟩
      refine StepsG.cons ?_ (StepsG.cons ?_ (StepsG.cons ?_ (StepsG.cons ?_ (StepsG.cons ?_ (StepsG.cons ?_ (StepsG.cons ?_ (StepsG.cons ?_ (StepsG.cons ?_ (StepsG.nil)))))))))
      · rintro lQ b W ⟨hI, U, V, gm, hJ⟩ hUN hED KQ hKQ
        exact opw_field 32 4 0 rfl _ ((hI.fr.same 4 (by decide)).trans gB) _ (by kernel_rfl) (hKQ.out _ _ ⟨hI.put 0 62 rfl rfl (by rw [hz]; decide) rfl hUN rfl (Nat.le_refl _) (ci6_stb am nn cm bq oq n c w.heap.size) (Below.refl _ _) rfl, U, V, gm, hJ.put 0 62 _ (by decide) (by decide)⟩)
      · rintro lQ b W ⟨hI, U, V, gm, hJ⟩ hUN hED KQ hKQ
        have f : aT b 62 = .pointer (some ⟨w.heap.size, 0, none⟩) := hI.got 0 (of_decide_eq_true rfl) (edge hED 0 (by kernel_rfl)) rfl
        have hg := below_kept HBW.out.m hI.bel
        have hc : W.cell? ⟨w.heap.size, 0, none⟩ = some (.slice am nn cm) := (cell_of_row _ _ 0 _ _ (0, 0) hg).trans rfl
        exact opw_load1 22 62 rfl _ f _ (by simp [Instr.loadAt, go_sem, hc]) (hKQ.out _ _ ⟨hI.put 1 63 rfl rfl (by rw [hz]; decide) rfl hUN rfl (Nat.le_refl _) (ci6_stb am nn cm bq oq n c w.heap.size) (Below.refl _ _) rfl, U, V, gm, hJ.put 1 63 _ (by decide) (by decide)⟩)
      · rintro lQ b W ⟨hI, U, V, gm, hJ⟩ hUN hED KQ hKQ
        have f0 : aT b 63 = .slice am nn cm := hI.got 1 (of_decide_eq_true rfl) (edge hED 1 (by kernel_rfl)) rfl
        refine opw_call 25 #[.tmp 63] _ _ _ rfl Tryz.func25 (by kernel_rfl) rfl #[.slice am nn cm] (by simp [ev, f0]) ?_
        refine (clone_any am nn cm ws W (HRW.out _ (keepT hbW hI.bel)) hcm (by have := HM.out.1; omega)).mono ?_
        rintro e W2 ⟨a3, c3, rfl, ho, hb⟩
        exact ⟨_, rfl, hKQ.out _ _ ⟨hI.put 2 64 rfl rfl (by rw [hz]; decide) rfl hUN rfl (Nat.le_refl _) (ci6_stb am nn cm bq oq n c w.heap.size) hb trivial, _, V, gm, hJ.clone hUN (by rw [hI.fr.size, hz]; decide) hI.bel.size ho hb⟩⟩
      · rintro lQ b W ⟨hI, U, V, gm, hJ⟩ hUN hED KQ hKQ
        exact opw_field 32 4 1 rfl _ ((hI.fr.same 4 (by decide)).trans gB) _ (by kernel_rfl) (hKQ.out _ _ ⟨hI.put 3 65 rfl rfl (by rw [hz]; decide) rfl hUN rfl (Nat.le_refl _) (ci6_stb am nn cm bq oq n c w.heap.size) (Below.refl _ _) rfl, U, V, gm, hJ.put 3 65 _ (by decide) (by decide)⟩)
      · rintro lQ b W ⟨hI, U, V, gm, hJ⟩ hUN hED KQ hKQ
        have f : aT b 65 = .pointer (some ⟨w.heap.size, 1, none⟩) := hI.got 3 (of_decide_eq_true rfl) (edge hED 3 (by kernel_rfl)) rfl
        have hg := below_kept HBW.out.m hI.bel
        have hc : W.cell? ⟨w.heap.size, 1, none⟩ = some (.slice (some ⟨bq, oq, none⟩) n c) := (cell_of_row _ _ 1 _ _ (0, 0) hg).trans rfl
        exact opw_load1 30 65 rfl _ f _ (by simp [Instr.loadAt, go_sem, hc]) (hKQ.out _ _ ⟨hI.put 4 66 rfl rfl (by rw [hz]; decide) rfl hUN rfl (Nat.le_refl _) (ci6_stb am nn cm bq oq n c w.heap.size) (Below.refl _ _) rfl, U, V, gm, hJ.put 4 66 _ (by decide) (by decide)⟩)
      · rintro lQ b W ⟨hI, U, V, gm, hJ⟩ hUN hED KQ hKQ
        have f0 : aT b 66 = .slice (some ⟨bq, oq, none⟩) n c := hI.got 4 (of_decide_eq_true rfl) (edge hED 4 (by kernel_rfl)) rfl
        refine opw_call 26 #[.tmp 66, .func 27] _ _ _ rfl Tryz.func26 (by kernel_rfl) rfl #[.slice (some ⟨bq, oq, none⟩) n c, .func (Fn.func 27) #[] #[]] (by simp [ev, f0]; rfl) ?_
        refine (each_all (D + 1) _ n c xs W (HKW.out _ (keepT hbW hI.bel)) hwt).mono ?_
        rintro e W2 ⟨⟨v, rfl, a3, c3, rfl, ho, _⟩, hb⟩
        exact ⟨_, rfl, hKQ.out _ _ ⟨hI.put 5 67 rfl rfl (by rw [hz]; decide) rfl hUN rfl (Nat.le_refl _) (ci6_stb am nn cm bq oq n c w.heap.size) hb trivial, U, _, gm, hJ.each hUN (by rw [hI.fr.size, hz]; decide) hI.bel.size ho hb⟩⟩
      · rintro lQ b W ⟨hI, U, V, gm, hJ⟩ hUN hED KQ hKQ
        have h2 := (edge hED 2 (by kernel_rfl))
        have h5 := (edge hED 5 (by kernel_rfl))
        obtain ⟨a3, c3, f0, _⟩ := hJ.ct h2
        obtain ⟨a4, c4, f1, _⟩ := hJ.sg h5
        have hJ2 := hJ.build (by rw [hI.fr.size, hz]; decide) h2 h5
        rw [f0, f1] at hJ2
        refine opw_build 32 _ rfl #[(0, .slice a3 nn c3), (1, .slice a4 n c4)] (by simp [ev, f0, f1]) (.agg #[.slice a3 nn c3, .slice a4 n c4]) (by kernel_rfl) ?_
        exact hKQ.out _ _ ⟨hI.put 6 68 rfl rfl (by rw [hz]; decide) rfl hUN rfl (Nat.le_refl _) (ci6_stb am nn cm bq oq n c w.heap.size) (Below.refl _ _) trivial, U, V, gm, hJ2⟩
      · rintro lQ b W ⟨hI, U, V, gm, hJ⟩ hUN hED KQ hKQ
        refine opw_value (w' := W.alloc (.cells #[.slice none 0 0, .slice none 0 0] 32)) (.pointer (some ⟨W.heap.size, 0, none⟩)) (by kernel_rfl) ?_
        exact hKQ.out _ _ ⟨hI.put 7 14 rfl rfl (by rw [hz]; decide) rfl hUN rfl (Nat.le_refl _) (ci6_stb am nn cm bq oq n c w.heap.size) ((Below.refl _ _).alloc (Nat.le_refl _) _) trivial, U, V, W.heap.size, hJ.alloc hUN (by rw [hI.fr.size, hz]; decide) hI.bel.size⟩
      · rintro lQ b W ⟨hI, U, V, gm, hJ⟩ hUN hED KQ hKQ
        have h6 := (edge hED 6 (by kernel_rfl))
        have h7 := (edge hED 7 (by kernel_rfl))
        obtain ⟨f, h2, h5⟩ := hJ.bd h6
        obtain ⟨a3, c3, f0, _⟩ := hJ.ct h2
        obtain ⟨a4, c4, f1, _⟩ := hJ.sg h5
        obtain ⟨hge, _, _, fb, hgb⟩ := hJ.bx h7
        rw [show lQ 8 = false from hUN] at hgb
        rw [f0, f1] at f
        refine wp_store_row 32 _ _ rfl gm #[.slice a3 nn c3, .slice a4 n c4] fb f 32 _ hgb (by kernel_rfl) rfl (by simp [Value.oneCell']) ?_
        have ht := setRow_touch W gm #[.slice a3 nn c3, .slice a4 n c4]
        have hst : (W.setRow gm #[.slice a3 nn c3, .slice a4 n c4]).heap[gm]? = some (.cells #[.slice a3 nn c3, .slice a4 n c4] 32 (0, 0)) := setRow_heap W gm _ _ _ _ hgb
        exact hKQ.out _ _ ⟨hI.store 8 (fun j hj => by cases hj) (hI.bel.trans (ht.below hge hI.bel.size)) (fun k _ _ _ v hf => hf) trivial, U, V, gm, hJ.stored h6 h7 ht (by rw [f0, f1]; exact hst)⟩
    · rintro l b w6 ⟨hI, U, S, gm, hJ⟩ hall
      obtain ⟨b1, d1, e64, hU⟩ := hJ.ct (hall 2)
      obtain ⟨b2, d2, e67, hV⟩ := hJ.sg (hall 5)
      obtain ⟨hge, nUg, nVg, e14, hbx⟩ := hJ.bx (hall 7)
      rw [hall 8, if_pos rfl, e64, e67] at hbx
      have bU := hJ.bU
      have bS := hJ.bV
      have hUV := hJ.ap
      have hb6 := hI.bel
      rw [hI.fr.eq]
      simp only [puts, Act.put, List.setIfInBounds_toArray, List.set_cons_zero, List.set_cons_succ, e14]
      clear hI hJ hall e14 e64 e67
      generalize aT b = AT
      clear b
      obtain ⟨g, rfl⟩ : ∃ g, b2 = some ⟨g, 0, none⟩ := by
        rcases hV.2.2.2.2 with e | ⟨g, e, _⟩
        · omega
        · exact ⟨g, e⟩
      have hs4 : w.heap.size + 1 + 1 + 1 < w1.heap.size := (Array.getElem?_eq_some_iff.1 HBX.out.rs).1
      have h2s := hb2.size
      have hWs : w2.heap.size ≤ wr.heap.size := HBS.out
      have lGQ : gq < wr.heap.size := (Array.getElem?_eq_some_iff.1 HGQ.out.1).1
      have lGT : gt < wr.heap.size := (Array.getElem?_eq_some_iff.1 HGQ.out.2.2.1).1
      have eGQ := HGQ.out.2.1
      have eGT := HGQ.out.2.2.2.1
      have s6 := hb6.size
      obtain ⟨Q, hTl⟩ : ∃ Q : Nat → Prop, Tl D w.heap.size gm gq gt nn n b1 d1 g d2 a2 c2 V1 ws xs U S Q w6 := by
        refine ⟨fun b => w2.heap.size ≤ b ∧ b < wr.heap.size, ⟨hbx, below_kept HGQ.out.2.2.1 hb6, below_kept HBW.out.rm hb6, below_kept HBW.out.rs hb6, ⟨hU, hV.more.more, hUV⟩, fun b hb => ?_⟩, below_kept HGQ.out.1 hb6, ?_, fun b hb => ⟨fun e => ?_, fun e => ?_⟩, ⟨nVg, fun e => ?_, fun e => ?_⟩, fun b hb => ?_⟩
        · rcases hb with hb | hb
          · have := bU b hb; omega
          · have := bS b hb; omega
        · have ho : OwnBX (fun b => w2.heap.size ≤ b ∧ b < wr.heap.size) wr a2 V1.sg.length c2 V1.sg := ⟨HGQ.out.2.2.2.2.mono (Nat.zero_le _), fun k hk => HGQ.out.2.2.2.2.row.lt k hk⟩
          exact ho.touch (P := fun _ => False) (fun _ _ h => h) (TouchX.of_below hb6)
        · have := hb.2; have := (bS b e).1; omega
        · have := hb.2; have := (bU b e).1; omega
        · have := (bS _ e).1; omega
        · have := (bS _ e).1; omega
        · have := hb.1; have := hb.2; omega
      have HT : Hid (Tl D w.heap.size gm gq gt nn n b1 d1 g d2 a2 c2 V1 ws xs U S Q w6) := hTl
      have hw6 : Below w.heap.size w w6 := (keepT hbb hbW).trans (hb6.mono (keepT hbb hbW).size)
      have HAP : Hid (gm ≠ w.heap.size + 1 + 1 ∧ gt ≠ w.heap.size + 1 + 1 + 1) := ⟨by omega, by omega⟩
      have HN6 : Hid ((xs.getD kq default).over.length ≤ 6) := (HM.out.2.2 kq (by rw [HLX.out]; exact HKN)).2.2.1
      clear hTl hbx hU hV bU bS hUV hb6 HGQ HBW lGQ lGT eGQ eGT hs4 h2s hWs s6 hge nUg nVg x0 x1
      go_upto_region 7 with fail
      refine wp_region_gj (fun a0 l a W => Fr [69, 70] a0 a ∧ Below w6.heap.size w6 W ∧ (l 0 = false → W.heap.size = w6.heap.size) ∧ (l 0 = true → aT a 69 = .pointer (some ⟨w6.heap.size, 0, none⟩) ∧ ∃ q, W.heap[w6.heap.size]? = some (.cells #[.bool q] 4 (0, 0))) ∧ (l 3 = true → ∃ q, aT a 70 = .bool q)) (fun a0 => a0.tmps.size = 100) (by kernel_rfl) (by kernel_rfl) rfl ?_ ?_ ?_
      · intro a0 _ l hl0 hl1
        have h0 := hl0 0 (by decide)
        have h3 := hl0 3 (by decide)
        exact ⟨Fr.refl _ _, (Below.refl _ _).drew, fun _ => rfl, (fun e => by rw [h0] at e; cases e), (fun e => by rw [h3] at e; cases e)⟩
      · rintro a0 hz
        refine StepsG.cons ?_ (StepsG.cons ?_ (StepsG.cons ?_ (StepsG.cons ?_ StepsG.nil)))
        · rintro lQ b W ⟨hF, hB, hs0, hs1, hs3⟩ hUN hED KQ hKQ
          have es := hs0 hUN
          refine opw_value (w' := W.alloc (.cells #[.bool false] 4)) (.pointer (some ⟨W.heap.size, 0, none⟩)) (by kernel_rfl) ?_
          refine hKQ.out _ _ ⟨hF.put (by decide) _, hB.alloc hB.size _, (fun e => by rw [upd_same] at e; cases e), fun _ => ⟨?_, false, ?_⟩, fun e => ?_⟩
          · rw [aT_put_eq (by rw [hF.size, hz]; decide), es]
          · rw [← es]; exact heap_alloc_new W _
          · rw [upd_ne (by decide)] at e
            obtain ⟨q, hq⟩ := hs3 e
            exact ⟨q, by rw [aT_put_ne (by decide)]; exact hq⟩
        · rintro lQ b W ⟨hF, hB, hs0, hs1, hs3⟩ hUN hED KQ hKQ
          have e0 := edge hED 0 (by kernel_rfl)
          obtain ⟨f, q, hg⟩ := hs1 e0
          have hcc := (cell_of_row W _ 0 _ _ (0, 0) hg).trans rfl
          have hfz := frozen_of_row W _ 0 _ _ hg
          refine opw_storeV 4 69 _ rfl ⟨w6.heap.size, 0, none⟩ (.bool true) f rfl (W.setCell ⟨w6.heap.size, 0, none⟩ (.bool true)) (by simp [Instr.storeAt, go_sem, hcc, hfz]) ?_
          have ht := touch_set1 W w6.heap.size 0 (.bool true)
          refine hKQ.out _ _ ⟨hF, hB.trans (ht.below (Nat.le_refl _) hB.size), fun e => ?_, fun _ => ⟨f, true, heap_setCell_same W _ 0 _ _ _ hg⟩, fun e => hs3 (by rw [upd_ne (by decide)] at e; exact e)⟩
          rw [upd_ne (by decide), e0] at e
          cases e
        · rintro lQ b W ⟨hF, hB, hs0, hs1, hs3⟩ hUN hED KQ hKQ
          have e0 := edge hED 0 (by kernel_rfl)
          obtain ⟨f, q, hg⟩ := hs1 e0
          have hcc := (cell_of_row W _ 0 _ _ (0, 0) hg).trans rfl
          have hfz := frozen_of_row W _ 0 _ _ hg
          refine opw_storeV 4 69 _ rfl ⟨w6.heap.size, 0, none⟩ (.bool false) f rfl (W.setCell ⟨w6.heap.size, 0, none⟩ (.bool false)) (by simp [Instr.storeAt, go_sem, hcc, hfz]) ?_
          have ht := touch_set1 W w6.heap.size 0 (.bool false)
          refine hKQ.out _ _ ⟨hF, hB.trans (ht.below (Nat.le_refl _) hB.size), fun e => ?_, fun _ => ⟨f, false, heap_setCell_same W _ 0 _ _ _ hg⟩, fun e => hs3 (by rw [upd_ne (by decide)] at e; exact e)⟩
          rw [upd_ne (by decide), e0] at e
          cases e
        · rintro lQ b W ⟨hF, hB, hs0, hs1, hs3⟩ hUN hED KQ hKQ
          have e0 := edge hED 0 (by kernel_rfl)
          obtain ⟨f, q, hg⟩ := hs1 e0
          have hc : W.cell? ⟨w6.heap.size, 0, none⟩ = some (.bool q) := (cell_of_row _ _ 0 _ _ (0, 0) hg).trans rfl
          refine opw_load1 4 69 rfl _ f (.bool q) (by simp [Instr.loadAt, go_sem, hc]) (hKQ.out _ _ ⟨hF.put (by decide) _, hB, fun e => ?_, fun _ => ⟨by rw [aT_put_ne (by decide)]; exact f, q, hg⟩, fun _ => ⟨q, by rw [aT_put_eq (by rw [hF.size, hz]; decide)]⟩⟩)
          rw [upd_ne (by decide), e0] at e
          cases e
      · rintro l b W ⟨hF, hB, hu1, hu2, h3⟩ hall
        clear hu1 hu2
        obtain ⟨q, e70⟩ := h3 (hall 3)
        rw [hF.eq]
        simp only [puts, Act.put, List.setIfInBounds_toArray, List.set_cons_zero, List.set_cons_succ, e70]
        clear e70
        clear hF hall h3
        generalize aT b = AT
        clear b
        obtain ⟨wd, hwd⟩ : ∃ wd, wd = W.drew := ⟨_, rfl⟩
        have hbd : Below w6.heap.size w6 wd := by rw [hwd]; exact hB.drew
        have HD : Hid (Tl D w.heap.size gm gq gt nn n b1 d1 g d2 a2 c2 V1 ws xs U S Q wd) := HT.out.kept hbd
        have HBD : Hid (Below w.heap.size w6 wd) := hbd.mono hw6.size
        obtain ⟨ao, no, co, us, hcl, hrw, how, hln, hfz, hSg, hlg⟩ := HD.out.over HKN
        have HWD : Hid (_ = _) := hwd
        clear hwd
        have HX : Hid (Wx gm gq g no kq S us (.slice ao no co) (.slice b1 nn d1) (.slice (some ⟨g, 0, none⟩) n d2) #[.int .u64 V1.k, .int .i64 V1.at2, .slice a2 V1.sg.length c2, .slice none 0 0] wd) := ⟨HD.out.z.box, (Array.getElem?_eq_some_iff.1 HD.out.z.box).1, fun e => HD.out.ap.1 (how _ e).1, fun e => HD.out.ap.1 (by rw [e]; exact hSg), HD.out.sg, (Array.getElem?_eq_some_iff.1 HD.out.sg).1, fun e => HD.out.ap.2.1 (how _ e).1, fun e => HD.out.ap.2.1 (by rw [e]; exact hSg), hlg, hcl, fun e => (how _ e).2 rfl, hfz, hrw, by rw [← hln]; exact HN6.out, how, hSg⟩
        clear hcl hrw how hln hfz hSg hlg hbd hB
        obtain ⟨i0, hi, hz0, hz1, hz3⟩ := info_parts Tryz.infoItem
        cases q with
        | true =>
          go_upto_region 8 with fail
          refine wp_region_gj (fun a0 l a W => RI (ciw8 gm g n d2 kq a2 c2 V1 ao no co (wd.heap.size)) [71, 72, 73, 74, 75, 76, 77, 78, 79, 80, 81, 82] 0 wd a0 l a W ∧ Wd wd #[.int .u64 0, .int .i64 0, .slice none 0 0, .slice none 0 0] (.slice ao no co) no us g (kq * 4 + 3) (l 8) (l 9) (l 12) (aT a 80) W) (fun a0 => a0.tmps.size = 100 ∧ aT a0 14 = .pointer (some ⟨gm, 0, none⟩) ∧ aT a0 1 = .int .i64 (kq : Int) ∧ aT a0 11 = .pointer (some ⟨gq, 0, none⟩)) (by kernel_rfl) (by kernel_rfl) ⟨rfl, rfl, rfl, rfl⟩ ?_ ?_ ?_
          · intro a0 _ l hl0 hl1
            rw [← HWD.out]
            refine ⟨ri_start (Below.refl _ _) (fun k hl => ?_) hl1 rfl (fun k h1 h2 => absurd h1 (Nat.not_le.2 h2)), ?_⟩
            · by_cases hk : k < 13
              · rw [hl0 k hk] at hl; cases hl
              · exact Nat.not_lt.1 hk
            · rw [hl0 8 (by decide), hl0 9 (by decide), hl0 12 (by decide)]
              exact Wd.start _
          · rintro a0 ⟨hz, gB, g1, gS⟩
            refine StepsG.cons ?_ (StepsG.cons ?_ (StepsG.cons ?_ (StepsG.cons ?_ (StepsG.cons ?_ (StepsG.cons ?_ (StepsG.cons ?_ (StepsG.cons ?_ (StepsG.cons ?_ (StepsG.cons ?_ (StepsG.cons ?_ (StepsG.cons ?_ (StepsG.cons ?_ (StepsG.nil)))))))))))))
            · rintro lQ b W ⟨hI, hJ⟩ hUN hED KQ hKQ
              exact opw_field 32 14 1 rfl _ ((hI.fr.same 14 (by decide)).trans gB) _ (by kernel_rfl) (hKQ.out _ _ ⟨hI.putF (ciw8_still gm g n d2 kq a2 c2 V1 ao no co (wd.heap.size)) 0 71 (fun j hj => by cases hj) rfl (by rw [hz]; decide) rfl hUN rfl hI.bel rfl, hJ.put 0 71 _ (by decide) (by decide)⟩)
            · rintro lQ b W ⟨hI, hJ⟩ hUN hED KQ hKQ
              have f : aT b 71 = .pointer (some ⟨gm, 1, none⟩) := hI.got 0 (of_decide_eq_true rfl) (edge hED 0 (by kernel_rfl)) rfl
              have hg := (hJ.blk HX.out.l1 HX.out.m1 HX.out.m2).trans HX.out.bx
              have hc : W.cell? ⟨gm, 1, none⟩ = some (.slice (some ⟨g, 0, none⟩) n d2) := (cell_of_row _ _ 1 _ _ (0, 0) hg).trans rfl
              exact opw_load1 30 71 rfl _ f _ (by simp [Instr.loadAt, go_sem, hc]) (hKQ.out _ _ ⟨hI.putF (ciw8_still gm g n d2 kq a2 c2 V1 ao no co (wd.heap.size)) 1 72 (fun j hj => by cases hj) rfl (by rw [hz]; decide) rfl hUN rfl hI.bel rfl, hJ.put 1 72 _ (by decide) (by decide)⟩)
            · rintro lQ b W ⟨hI, hJ⟩ hUN hED KQ hKQ
              exact opw_move 1 rfl (hKQ.out _ _ ⟨hI.putF (ciw8_still gm g n d2 kq a2 c2 V1 ao no co (wd.heap.size)) 2 73 (fun j hj => by cases hj) rfl (by rw [hz]; decide) rfl hUN rfl hI.bel ((hI.fr.same 1 (by decide)).trans g1), hJ.put 2 73 _ (by decide) (by decide)⟩)
            · rintro lQ b W ⟨hI, hJ⟩ hUN hED KQ hKQ
              have f0 : aT b 72 = .slice (some ⟨g, 0, none⟩) n d2 := hI.got 1 (of_decide_eq_true rfl) (edge hED 1 (by kernel_rfl)) rfl
              have f1 : aT b 73 = .int .i64 (kq : Int) := hI.got 2 (of_decide_eq_true rfl) (edge hED 2 (by kernel_rfl)) rfl
              exact opw_indexX 30 72 73 rfl _ _ f0 f1 _ (indexSg0 g n d2 kq W HKN) (hKQ.out _ _ ⟨hI.putF (ciw8_still gm g n d2 kq a2 c2 V1 ao no co (wd.heap.size)) 3 74 (fun j hj => by cases hj) rfl (by rw [hz]; decide) rfl hUN rfl hI.bel rfl, hJ.put 3 74 _ (by decide) (by decide)⟩)
            · rintro lQ b W ⟨hI, hJ⟩ hUN hED KQ hKQ
              have f : aT b 74 = .pointer (some ⟨g, kq * 4, none⟩) := hI.got 3 (of_decide_eq_true rfl) (edge hED 3 (by kernel_rfl)) rfl
              exact opw_field 47 74 3 rfl _ f _ (by kernel_rfl) (hKQ.out _ _ ⟨hI.putF (ciw8_still gm g n d2 kq a2 c2 V1 ao no co (wd.heap.size)) 4 75 (fun j hj => by cases hj) rfl (by rw [hz]; decide) rfl hUN rfl hI.bel rfl, hJ.put 4 75 _ (by decide) (by decide)⟩)
            · rintro lQ b W ⟨hI, hJ⟩ hUN hED KQ hKQ
              have f : aT b 75 = .pointer (some ⟨g, kq * 4 + 3, none⟩) := hI.got 4 (of_decide_eq_true rfl) (edge hED 4 (by kernel_rfl)) rfl
              have hla : lQ 9 = false := unX (fun h => by
                have h1 := hI.cl 9 (of_decide_eq_true rfl) h 5 (List.Mem.head _)
                rw [show lQ 5 = false from hUN] at h1
                cases h1)
              have hc : W.cell? ⟨g, kq * 4 + 3, none⟩ = some (.slice ao no co) := (World.cell?_of_block (a := ⟨g, kq * 4 + 3, none⟩) (hJ.early hla HX.out.lg)).trans HX.out.cl
              exact opw_load1 30 75 rfl _ f _ (by simp [Instr.loadAt, go_sem, hc]) (hKQ.out _ _ ⟨hI.putF (ciw8_still gm g n d2 kq a2 c2 V1 ao no co (wd.heap.size)) 5 76 (fun j hj => by cases hj) rfl (by rw [hz]; decide) rfl hUN rfl hI.bel rfl, hJ.put 5 76 _ (by decide) (by decide)⟩)
            · rintro lQ b W ⟨hI, hJ⟩ hUN hED KQ hKQ
              have hg := (hJ.blk HX.out.l2 HX.out.q1 HX.out.q2).trans HX.out.sg
              refine wp_load_row 47 _ rfl gq ((hI.fr.same 11 (by decide)).trans gS) 47 #[.int .u64 V1.k, .int .i64 V1.at2, .slice a2 V1.sg.length c2, .slice none 0 0] (0, 0) _ hg Tryz.underlying47 rfl (by kernel_rfl) ?_
              exact hKQ.out _ _ ⟨hI.putF (ciw8_still gm g n d2 kq a2 c2 V1 ao no co (wd.heap.size)) 6 77 (fun j hj => by cases hj) rfl (by rw [hz]; decide) rfl hUN rfl hI.bel rfl, hJ.put 6 77 _ (by decide) (by decide)⟩
            · rintro lQ b W ⟨hI, hJ⟩ hUN hED KQ hKQ
              have f : aT b 76 = .slice ao no co := hI.got 5 (of_decide_eq_true rfl) (edge hED 5 (by kernel_rfl)) rfl
              exact opw_len 76 30 _ Tryz.underlying30 rfl _ _ _ f (hKQ.out _ _ ⟨hI.putF (ciw8_still gm g n d2 kq a2 c2 V1 ao no co (wd.heap.size)) 7 78 (fun j hj => by cases hj) rfl (by rw [hz]; decide) rfl hUN rfl hI.bel rfl, hJ.put 7 78 _ (by decide) (by decide)⟩)
            · rintro lQ b W ⟨hI, hJ⟩ hUN hED KQ hKQ
              have hW := hJ.s0 hUN
              have hJ2 := hJ.build hUN (by decide) (aT (b.put (some 79) (.slice (some ⟨wd.heap.size, 0, none⟩) 1 1)) 80)
              have hbl := hJ2.bel
              refine opw_buildSlice 30 1 _ rfl #[(0, .agg #[.int .u64 0, .int .i64 0, .slice none 0 0, .slice none 0 0])] (by simp [evc]) (.slice (some ⟨W.heap.size, 0, none⟩) 1 1) (W.alloc (.cells #[.int .u64 0, .int .i64 0, .slice none 0 0, .slice none 0 0] 47)) (by kernel_rfl) ?_
              have hz2 : W.heap.size = wd.heap.size := by rw [hW]
              rw [hz2]
              exact hKQ.out _ _ ⟨hI.putF (ciw8_still gm g n d2 kq a2 c2 V1 ao no co (wd.heap.size)) 8 79 (fun j hj => by cases hj) rfl (by rw [hz]; decide) rfl hUN rfl hbl rfl, hJ2⟩
            · rintro lQ b W ⟨hI, hJ⟩ hUN hED KQ hKQ
              have f0 : aT b 76 = .slice ao no co := hI.got 5 (of_decide_eq_true rfl) (edge hED 5 (by kernel_rfl)) rfl
              have f1 : aT b 79 = .slice (some ⟨wd.heap.size, 0, none⟩) 1 1 := hI.got 8 (of_decide_eq_true rfl) (edge hED 8 (by kernel_rfl)) rfl
              have hW := hJ.s1 (edge hED 8 (by kernel_rfl)) hUN
              have hz2 : W.heap.size = wd.heap.size + 1 := by rw [hW]; simp
              have hob : W.ownsRow 0 47 4 (.slice ao no co) no us := by rw [hW]; exact ownsRow_moveX (P := fun _ => False) (S := fun _ => True) HX.out.rw (fun _ _ => trivial) (fun _ _ h => h) (TouchX.of_below ((Below.refl _ _).alloc (Nat.le_refl _) _))
              have hnb : W.heap[wd.heap.size]? = some (.cells #[.int .u64 0, .int .i64 0, .slice none 0 0, .slice none 0 0] 47 (0, 0)) := by rw [hW]; exact heap_alloc_new wd _
              refine wp_append_lies W (.tmp 76) (.tmp 79) 30 rfl 0 47 i0 _ 4 64 Tryz.underlying30 hi hz0 hz1 hz3 rfl (by decide) (.slice ao no co) no us f0 hob ⟨wd.heap.size, 0, none⟩ 1 1 [.int .u64 0, .int .i64 0, .slice none 0 0, .slice none 0 0] f1 rfl (World.news_of_block hnb) (by intro u hu; simp only [List.mem_cons, List.not_mem_nil, or_false] at hu; rcases hu with rfl | rfl | rfl | rfl <;> rfl) (by decide) (by unfold maxLen; have := HX.out.n6; omega) (by have := HX.out.n6; omega) (Nat.zero_le _) _ rfl ?_
              intro g' c' w' hv hg hl hlt
              have hx : AppX wd #[.int .u64 0, .int .i64 0, .slice none 0 0, .slice none 0 0] (.slice ao no co) no us g' c' w' := ⟨hv, by rw [← hW]; exact hg, by rw [← hW]; exact hl⟩
              refine hKQ.out _ _ ⟨hI.putF (ciw8_still gm g n d2 kq a2 c2 V1 ao no co (wd.heap.size)) 9 80 (fun j hj => by rcases List.mem_singleton.1 hj with rfl; exact (edge hED 5 (by kernel_rfl))) rfl (by rw [hz]; decide) rfl hUN rfl hx.bel trivial, ?_⟩
              rw [aT_put_eq (by rw [hI.fr.size, hz]; decide)]
              exact hJ.app (edge hED 8 (by kernel_rfl)) hUN (by decide) hx
            · rintro lQ b W ⟨hI, hJ⟩ hUN hED KQ hKQ
              have f0 : aT b 72 = .slice (some ⟨g, 0, none⟩) n d2 := hI.got 1 (of_decide_eq_true rfl) (edge hED 1 (by kernel_rfl)) rfl
              have f1 : aT b 73 = .int .i64 (kq : Int) := hI.got 2 (of_decide_eq_true rfl) (edge hED 2 (by kernel_rfl)) rfl
              exact opw_indexX 30 72 73 rfl _ _ f0 f1 _ (indexSg0 g n d2 kq W HKN) (hKQ.out _ _ ⟨hI.putF (ciw8_still gm g n d2 kq a2 c2 V1 ao no co (wd.heap.size)) 10 81 (fun j hj => by cases hj) rfl (by rw [hz]; decide) rfl hUN rfl hI.bel rfl, hJ.put 10 81 _ (by decide) (by decide)⟩)
            · rintro lQ b W ⟨hI, hJ⟩ hUN hED KQ hKQ
              have f : aT b 81 = .pointer (some ⟨g, kq * 4, none⟩) := hI.got 10 (of_decide_eq_true rfl) (edge hED 10 (by kernel_rfl)) rfl
              exact opw_field 47 81 3 rfl _ f _ (by kernel_rfl) (hKQ.out _ _ ⟨hI.putF (ciw8_still gm g n d2 kq a2 c2 V1 ao no co (wd.heap.size)) 11 82 (fun j hj => by cases hj) rfl (by rw [hz]; decide) rfl hUN rfl hI.bel rfl, hJ.put 11 82 _ (by decide) (by decide)⟩)
            · rintro lQ b W ⟨hI, hJ⟩ hUN hED KQ hKQ
              have fp : aT b 82 = .pointer (some ⟨g, kq * 4 + 3, none⟩) := hI.got 11 (of_decide_eq_true rfl) (edge hED 11 (by kernel_rfl)) rfl
              have hla := (edge hED 9 (by kernel_rfl))
              obtain ⟨g', c', ev, hx⟩ := hJ.s2 hla hUN
              have hcc : W.cell? ⟨g, kq * 4 + 3, none⟩ = some (.slice ao no co) := (World.cell?_of_block (a := ⟨g, kq * 4 + 3, none⟩) (hJ.blk2 hUN HX.out.lg HX.out.og)).trans HX.out.cl
              have hfz : W.frozen? ⟨g, kq * 4 + 3, none⟩ = false := (World.frozen?_of_block (a := ⟨g, kq * 4 + 3, none⟩) (hJ.blk2 hUN HX.out.lg HX.out.og)).trans (HX.out.fz _)
              have hJ2 := hJ.stored hla hUN (by decide)
              rw [ev] at hJ2
              refine opw_storeX 30 82 80 rfl ⟨g, kq * 4 + 3, none⟩ _ fp ev (W.setCell ⟨g, kq * 4 + 3, none⟩ (.slice (some ⟨g', 0, none⟩) (no + 1) c')) (by simp [Instr.storeAt, go_sem, hcc, hfz]) ?_
              exact hKQ.out _ _ ⟨hI.storeF (ciw8_still gm g n d2 kq a2 c2 V1 ao no co (wd.heap.size)) 12 (fun j hj => by cases hj) hJ2.bel trivial, by rw [show aT (b.put none undef) 80 = _ from ev]; exact hJ2⟩
          · rintro l b W ⟨hI, hJ⟩ hall
            obtain ⟨g', c', W1, ev, hx, hW⟩ := hJ.s3 (hall 12)
            have e77 : aT b 77 = .agg #[.int .u64 V1.k, .int .i64 V1.at2, .slice a2 V1.sg.length c2, .slice none 0 0] := hI.got 6 (of_decide_eq_true rfl) (hall 6) rfl
            have e78 : aT b 78 = .int .i64 (no : Int) := hI.got 7 (of_decide_eq_true rfl) (hall 7) rfl
            rw [hI.fr.eq]
            simp only [puts, Act.put, List.setIfInBounds_toArray, List.set_cons_zero, List.set_cons_succ, e77, e78, ev]
            clear ev e77 e78
            clear hI hJ hall
            generalize aT b = AT
            clear b
            have hgg : g' ≠ g := by
              rcases hx.lies with e | e
              · exact (HX.out.ow _ e).2
              · have := HX.out.lg
                have h2 : (wd.alloc (.cells #[.int .u64 0, .int .i64 0, .slice none 0 0, .slice none 0 0] 47)).heap.size = wd.heap.size + 1 := by simp
                omega
            obtain ⟨⟨y0, y1, y2, y3⟩, yf⟩ := hx.last HX.out.rw.1 hgg hW
            have f0 := yf (no * 4)
            have f1 := yf (no * 4 + 1)
            have f2 := yf (no * 4 + 2)
            have f3 := yf (no * 4 + 3)
            have HWX : Hid (_ = _) := hW
            clear hW yf
            have hin : (no : Int) < ((no + 1 : Nat) : Int) := by omega
            go_upto_region 11 with fail
            rw [HWX.out]
            obtain ⟨S', HZ, hT⟩ := HD.out.put89 HKN hku HX.out.n6 HX.out.cl HX.out.rw HX.out.ow HX.out.sG hx rfl
            clear hx HWX
            obtain ⟨w9, hw9⟩ : ∃ w9, w9 = ((((W1.setCell ⟨g, kq * 4 + 3, none⟩ (.slice (some ⟨g', 0, none⟩) (no + 1) c')).setCell ⟨g', no * 4, none⟩ (.int .u64 V1.k)).setCell ⟨g', no * 4 + 1, none⟩ (.int .i64 V1.at2)).setCell ⟨g', no * 4 + 2, none⟩ (.slice a2 V1.sg.length c2)).setCell ⟨g', no * 4 + 3, none⟩ (.slice none 0 0) := ⟨_, rfl⟩
            rw [← hw9] at HZ hT
            rw [← hw9]
            have HZZ : Hid (Tz D w.heap.size gm gt nn n b1 d1 g d2 V1 ws (xs.set kq (overT (xs.getD kq default) (sgTr V1))) U S' w9) := HZ
            have hb9 : Below w.heap.size w w9 := (hw6.trans HBD.out).trans ⟨hT.os, hT.tape, hT.output, hT.size, fun k hk => hT.block k (Nat.lt_of_lt_of_le hk (hw6.trans HBD.out).size) (fun e => by have := (HD.out.z.lt k (.inr e)).1; omega)⟩
            have hS9 : ¬ S (w.heap.size + 1 + 1) := fun e => by have := (HD.out.z.lt _ (.inr e)).1; omega
            clear HZ hT HX hw9 hS9
        
            have HBB : w.heap.size ≤ w9.heap.size := hb9.size
            refine wp_region_ri (ck11 D nn n b1 d1 (some ⟨g, 0, none⟩) d2 ws (xs.set kq (overT (xs.getD kq default) (sgTr V1))) U S' V1 gm gt w.heap.size (w.heap.size)) [10, 98, 99] (w.heap.size) (fun a0 => a0.tmps.size = 100 ∧ aT a0 8 = .pointer (some ⟨(w.heap.size + 1 + 1), 0, none⟩) ∧ aT a0 9 = .pointer (some ⟨(w.heap.size + 1 + 1 + 1), 0, none⟩) ∧ aT a0 12 = .pointer (some ⟨gt, 0, none⟩) ∧ aT a0 14 = .pointer (some ⟨gm, 0, none⟩)) (by kernel_rfl) rfl (by kernel_rfl) rfl ⟨rfl, rfl, rfl, rfl, rfl⟩ (ck11_stb D nn n b1 d1 (some ⟨g, 0, none⟩) d2 ws (xs.set kq (overT (xs.getD kq default) (sgTr V1))) U S' V1 gm gt w.heap.size (w.heap.size)) ?_ ?_ ?_
            · intro k hk hk2
              match k, hk, hk2 with
              | 5, _, _ => exact ⟨HZZ.out.box, HAP.out.1⟩
              | 6, _, _ => exact ⟨HZZ.out.sec, HAP.out.2⟩
              | 7, _, _ => exact HZZ.out.rm
              | 8, _, _ => exact HZZ.out.rs
              | 9, _, _ => exact ⟨HZZ.out.msg, HZZ.out.lt⟩
              | 0, hk, _ => exact absurd hk (by show ¬ (5 ≤ 0); omega)
              | 1, hk, _ => exact absurd hk (by show ¬ (5 ≤ 1); omega)
              | 2, hk, _ => exact absurd hk (by show ¬ (5 ≤ 2); omega)
              | 3, hk, _ => exact absurd hk (by show ¬ (5 ≤ 3); omega)
              | 4, hk, _ => exact absurd hk (by show ¬ (5 ≤ 4); omega)
              | k + 10, _, hk2 => exact absurd hk2 (by show ¬ (k + 10 < 10); omega)
            · rintro a0 ⟨hz, g8, g9, g12, g14⟩
              refine StepsRI.cons ?_ (StepsRI.cons ?_ (StepsRI.cons ?_ (StepsRI.cons ?_ (StepsRI.cons ?_ (StepsRI.nil)))))
              · intro lQ b W hI hUN hED KQ hKQ
                have hg := (hI.vot 5 (of_decide_eq_true rfl) (of_decide_eq_true rfl) rfl).1
                refine wp_load_row 32 _ rfl (gm) ((hI.fr.same 14 (by decide)).trans g14) 32 #[.slice b1 nn d1, .slice (some ⟨g, 0, none⟩) n d2] (0, 0) _ hg Tryz.underlying32 rfl (by kernel_rfl) ?_
                exact hKQ.out _ _ (hI.put 0 98 rfl rfl (by rw [hz]; decide) rfl hUN rfl HBB (ck11_stb D nn n b1 d1 (some ⟨g, 0, none⟩) d2 ws (xs.set kq (overT (xs.getD kq default) (sgTr V1))) U S' V1 gm gt w.heap.size (w.heap.size)) (Below.refl _ _) rfl)
              · intro lQ b W hI hUN hED KQ hKQ
                have hg := (hI.vot 6 (of_decide_eq_true rfl) (of_decide_eq_true rfl) rfl).1
                refine wp_load_row 33 _ rfl (gt) ((hI.fr.same 12 (by decide)).trans g12) 33 #[.int .i64 V1.t.1, .int .u64 V1.t.2.1, .int .i64 V1.t.2.2.1, .int .i64 V1.t.2.2.2] (0, 0) _ hg Tryz.underlying33 rfl (by kernel_rfl) ?_
                exact hKQ.out _ _ (hI.put 1 99 rfl rfl (by rw [hz]; decide) rfl hUN rfl HBB (ck11_stb D nn n b1 d1 (some ⟨g, 0, none⟩) d2 ws (xs.set kq (overT (xs.getD kq default) (sgTr V1))) U S' V1 gm gt w.heap.size (w.heap.size)) (Below.refl _ _) rfl)
              · intro lQ b W hI hUN hED KQ hKQ
                have hgb := (hI.vot1 7 2 (of_decide_eq_true rfl) (of_decide_eq_true rfl) hUN rfl)
                have fb := ((hI.fr.same 8 (by decide)).trans g8)
                have f := hI.got 0 (of_decide_eq_true rfl) (edge hED 0 (by kernel_rfl)) rfl
                refine wp_store_row 32 _ _ rfl ((w.heap.size + 1 + 1)) #[.slice b1 nn d1, .slice (some ⟨g, 0, none⟩) n d2] fb f 32 _ hgb (by kernel_rfl) rfl (by simp [Value.oneCell']) ?_
                have ht := setRow_touch W ((w.heap.size + 1 + 1)) #[.slice b1 nn d1, .slice (some ⟨g, 0, none⟩) n d2]
                exact hKQ.out _ _ (hI.store 2 (fun j hj => by cases hj) (hI.bel.trans (ht.below (by first | exact HGE8 | omega) (Nat.le_trans HBB hI.bel.size))) (ck11_st2 D nn n b1 d1 (some ⟨g, 0, none⟩) d2 ws (xs.set kq (overT (xs.getD kq default) (sgTr V1))) U S' V1 gm gt w.heap.size (w.heap.size) hgb ht) (setRow_heap W ((w.heap.size + 1 + 1)) _ _ _ _ hgb))
              · intro lQ b W hI hUN hED KQ hKQ
                have hgb := (hI.vot1 8 3 (of_decide_eq_true rfl) (of_decide_eq_true rfl) hUN rfl)
                have fb := ((hI.fr.same 9 (by decide)).trans g9)
                have f := hI.got 1 (of_decide_eq_true rfl) (edge hED 1 (by kernel_rfl)) rfl
                refine wp_store_row 33 _ _ rfl ((w.heap.size + 1 + 1 + 1)) #[.int .i64 V1.t.1, .int .u64 V1.t.2.1, .int .i64 V1.t.2.2.1, .int .i64 V1.t.2.2.2] fb f 33 _ hgb (by kernel_rfl) rfl (by simp [Value.oneCell']) ?_
                have ht := setRow_touch W ((w.heap.size + 1 + 1 + 1)) #[.int .i64 V1.t.1, .int .u64 V1.t.2.1, .int .i64 V1.t.2.2.1, .int .i64 V1.t.2.2.2]
                exact hKQ.out _ _ (hI.store 3 (fun j hj => by cases hj) (hI.bel.trans (ht.below (by first | exact HGE9 | omega) (Nat.le_trans HBB hI.bel.size))) (ck11_st3 D nn n b1 d1 (some ⟨g, 0, none⟩) d2 ws (xs.set kq (overT (xs.getD kq default) (sgTr V1))) U S' V1 gm gt w.heap.size (w.heap.size) hgb ht) (setRow_heap W ((w.heap.size + 1 + 1 + 1)) _ _ _ _ hgb))
              · intro lQ b W hI hUN hED KQ hKQ
                exact opw_const (.int .i64 0) rfl (hKQ.out _ _ (hI.put 4 10 rfl rfl (by rw [hz]; decide) rfl hUN rfl HBB (ck11_stb D nn n b1 d1 (some ⟨g, 0, none⟩) d2 ws (xs.set kq (overT (xs.getD kq default) (sgTr V1))) U S' V1 gm gt w.heap.size (w.heap.size)) (Below.refl _ _) rfl))
            · intro b W hf hb F
              have e8 : W.heap[w.heap.size + 1 + 1]? = some (.cells #[.slice b1 nn d1, .slice (some ⟨g, 0, none⟩) n d2] 32 (0, 0)) := F 2 (of_decide_eq_true rfl) rfl
              have e9 : W.heap[w.heap.size + 1 + 1 + 1]? = some (.cells #[.int .i64 V1.t.1, .int .u64 V1.t.2.1, .int .i64 V1.t.2.2.1, .int .i64 V1.t.2.2.2] 33 (0, 0)) := F 3 (of_decide_eq_true rfl) rfl
              have e10 := F 4 (of_decide_eq_true rfl) rfl
              have hm : MsgQ D w.heap.size U S' b1 nn d1 ws (some ⟨g, 0, none⟩) n d2 (xs.set kq (overT (xs.getD kq default) (sgTr V1))) W := F 9 (of_decide_eq_true rfl) rfl
              replace e10 : aT b 10 = _ := e10
              rw [hf.eq]
              simp only [puts, Act.put, List.setIfInBounds_toArray, List.set_cons_zero, List.set_cons_succ, e10]
              clear hf F e10
              generalize aT b = AT
              clear b
              go_wp2
              try simp only [Exit.inBlock, Exit.then]
              refine bodyPost_ret (results_cs rfl _ (w.heap.size + 1 + 1) (w.heap.size + 1 + 1 + 1) rfl rfl (.int .i64 0) rfl _ _ _ e8 e9 rfl rfl) rfl ?_
              have hgo : csGo ws xs ((kq : Int).toNat) V1 = ⟨ws, xs.set kq (overT (xs.getD kq default) (sgTr V1)), V1.t, 0⟩ := by rw [Int.toNat_natCast]; unfold csGo; rw [if_pos HCD.out]
              rw [hgo]
              have l1 : ws.length = nn := hm.1.ct.own.toRow.len
              have l2 : (xs.set kq (overT (xs.getD kq default) (sgTr V1))).length = n := hm.1.sg.1
              refine ⟨b1, d1, some ⟨g, 0, none⟩, d2, U, S', ?_, ?_, fun z hz => ⟨by have := (hm.2 z hz).1; omega, (hm.2 z hz).2⟩, hb9.trans hb⟩
              · simp only [csOut, l1, l2]
              · simp only [l1, l2]
                exact hm.1
        | false =>
          go_upto_region 10 with fail
          refine wp_region_gj (fun a0 l a W => RI (ciw10 gm g n d2 kq a2 c2 V1 ao no co (wd.heap.size)) [84, 85, 86, 87, 88, 89, 90, 91, 92, 93, 94, 95, 96, 97] 0 wd a0 l a W ∧ Wd wd #[.int .u64 V1.k, .int .i64 V1.at2, .slice a2 V1.sg.length c2, .slice none 0 0] (.slice ao no co) no us g (kq * 4 + 3) (l 10) (l 11) (l 14) (aT a 95) W) (fun a0 => a0.tmps.size = 100 ∧ aT a0 14 = .pointer (some ⟨gm, 0, none⟩) ∧ aT a0 1 = .int .i64 (kq : Int) ∧ aT a0 11 = .pointer (some ⟨gq, 0, none⟩)) (by kernel_rfl) (by kernel_rfl) ⟨rfl, rfl, rfl, rfl⟩ ?_ ?_ ?_
          · intro a0 _ l hl0 hl1
            rw [← HWD.out]
            refine ⟨ri_start (Below.refl _ _) (fun k hl => ?_) hl1 rfl (fun k h1 h2 => absurd h1 (Nat.not_le.2 h2)), ?_⟩
            · by_cases hk : k < 15
              · rw [hl0 k hk] at hl; cases hl
              · exact Nat.not_lt.1 hk
            · rw [hl0 10 (by decide), hl0 11 (by decide), hl0 14 (by decide)]
              exact Wd.start _
          · rintro a0 ⟨hz, gB, g1, gS⟩
            refine StepsG.cons ?_ (StepsG.cons ?_ (StepsG.cons ?_ (StepsG.cons ?_ (StepsG.cons ?_ (StepsG.cons ?_ (StepsG.cons ?_ (StepsG.cons ?_ (StepsG.cons ?_ (StepsG.cons ?_ (StepsG.cons ?_ (StepsG.cons ?_ (StepsG.cons ?_ (StepsG.cons ?_ (StepsG.cons ?_ (StepsG.nil)))))))))))))))
            · rintro lQ b W ⟨hI, hJ⟩ hUN hED KQ hKQ
              exact opw_field 32 14 1 rfl _ ((hI.fr.same 14 (by decide)).trans gB) _ (by kernel_rfl) (hKQ.out _ _ ⟨hI.putF (ciw10_still gm g n d2 kq a2 c2 V1 ao no co (wd.heap.size)) 0 84 (fun j hj => by cases hj) rfl (by rw [hz]; decide) rfl hUN rfl hI.bel rfl, hJ.put 0 84 _ (by decide) (by decide)⟩)
            · rintro lQ b W ⟨hI, hJ⟩ hUN hED KQ hKQ
              have f : aT b 84 = .pointer (some ⟨gm, 1, none⟩) := hI.got 0 (of_decide_eq_true rfl) (edge hED 0 (by kernel_rfl)) rfl
              have hg := (hJ.blk HX.out.l1 HX.out.m1 HX.out.m2).trans HX.out.bx
              have hc : W.cell? ⟨gm, 1, none⟩ = some (.slice (some ⟨g, 0, none⟩) n d2) := (cell_of_row _ _ 1 _ _ (0, 0) hg).trans rfl
              exact opw_load1 30 84 rfl _ f _ (by simp [Instr.loadAt, go_sem, hc]) (hKQ.out _ _ ⟨hI.putF (ciw10_still gm g n d2 kq a2 c2 V1 ao no co (wd.heap.size)) 1 85 (fun j hj => by cases hj) rfl (by rw [hz]; decide) rfl hUN rfl hI.bel rfl, hJ.put 1 85 _ (by decide) (by decide)⟩)
            · rintro lQ b W ⟨hI, hJ⟩ hUN hED KQ hKQ
              exact opw_move 1 rfl (hKQ.out _ _ ⟨hI.putF (ciw10_still gm g n d2 kq a2 c2 V1 ao no co (wd.heap.size)) 2 86 (fun j hj => by cases hj) rfl (by rw [hz]; decide) rfl hUN rfl hI.bel ((hI.fr.same 1 (by decide)).trans g1), hJ.put 2 86 _ (by decide) (by decide)⟩)
            · rintro lQ b W ⟨hI, hJ⟩ hUN hED KQ hKQ
              exact opw_field 32 14 1 rfl _ ((hI.fr.same 14 (by decide)).trans gB) _ (by kernel_rfl) (hKQ.out _ _ ⟨hI.putF (ciw10_still gm g n d2 kq a2 c2 V1 ao no co (wd.heap.size)) 3 87 (fun j hj => by cases hj) rfl (by rw [hz]; decide) rfl hUN rfl hI.bel rfl, hJ.put 3 87 _ (by decide) (by decide)⟩)
            · rintro lQ b W ⟨hI, hJ⟩ hUN hED KQ hKQ
              have f : aT b 87 = .pointer (some ⟨gm, 1, none⟩) := hI.got 3 (of_decide_eq_true rfl) (edge hED 3 (by kernel_rfl)) rfl
              have hg := (hJ.blk HX.out.l1 HX.out.m1 HX.out.m2).trans HX.out.bx
              have hc : W.cell? ⟨gm, 1, none⟩ = some (.slice (some ⟨g, 0, none⟩) n d2) := (cell_of_row _ _ 1 _ _ (0, 0) hg).trans rfl
              exact opw_load1 30 87 rfl _ f _ (by simp [Instr.loadAt, go_sem, hc]) (hKQ.out _ _ ⟨hI.putF (ciw10_still gm g n d2 kq a2 c2 V1 ao no co (wd.heap.size)) 4 88 (fun j hj => by cases hj) rfl (by rw [hz]; decide) rfl hUN rfl hI.bel rfl, hJ.put 4 88 _ (by decide) (by decide)⟩)
            · rintro lQ b W ⟨hI, hJ⟩ hUN hED KQ hKQ
              exact opw_move 1 rfl (hKQ.out _ _ ⟨hI.putF (ciw10_still gm g n d2 kq a2 c2 V1 ao no co (wd.heap.size)) 5 89 (fun j hj => by cases hj) rfl (by rw [hz]; decide) rfl hUN rfl hI.bel ((hI.fr.same 1 (by decide)).trans g1), hJ.put 5 89 _ (by decide) (by decide)⟩)
            · rintro lQ b W ⟨hI, hJ⟩ hUN hED KQ hKQ
              have f0 : aT b 88 = .slice (some ⟨g, 0, none⟩) n d2 := hI.got 4 (of_decide_eq_true rfl) (edge hED 4 (by kernel_rfl)) rfl
              have f1 : aT b 89 = .int .i64 (kq : Int) := hI.got 5 (of_decide_eq_true rfl) (edge hED 5 (by kernel_rfl)) rfl
              exact opw_indexX 30 88 89 rfl _ _ f0 f1 _ (indexSg0 g n d2 kq W HKN) (hKQ.out _ _ ⟨hI.putF (ciw10_still gm g n d2 kq a2 c2 V1 ao no co (wd.heap.size)) 6 90 (fun j hj => by cases hj) rfl (by rw [hz]; decide) rfl hUN rfl hI.bel rfl, hJ.put 6 90 _ (by decide) (by decide)⟩)
            · rintro lQ b W ⟨hI, hJ⟩ hUN hED KQ hKQ
              have f : aT b 90 = .pointer (some ⟨g, kq * 4, none⟩) := hI.got 6 (of_decide_eq_true rfl) (edge hED 6 (by kernel_rfl)) rfl
              exact opw_field 47 90 3 rfl _ f _ (by kernel_rfl) (hKQ.out _ _ ⟨hI.putF (ciw10_still gm g n d2 kq a2 c2 V1 ao no co (wd.heap.size)) 7 91 (fun j hj => by cases hj) rfl (by rw [hz]; decide) rfl hUN rfl hI.bel rfl, hJ.put 7 91 _ (by decide) (by decide)⟩)
            · rintro lQ b W ⟨hI, hJ⟩ hUN hED KQ hKQ
              have f : aT b 91 = .pointer (some ⟨g, kq * 4 + 3, none⟩) := hI.got 7 (of_decide_eq_true rfl) (edge hED 7 (by kernel_rfl)) rfl
              have hla : lQ 11 = false := unX (fun h => by
                have h1 := hI.cl 11 (of_decide_eq_true rfl) h 8 (List.Mem.head _)
                rw [show lQ 8 = false from hUN] at h1
                cases h1)
              have hc : W.cell? ⟨g, kq * 4 + 3, none⟩ = some (.slice ao no co) := (World.cell?_of_block (a := ⟨g, kq * 4 + 3, none⟩) (hJ.early hla HX.out.lg)).trans HX.out.cl
              exact opw_load1 30 91 rfl _ f _ (by simp [Instr.loadAt, go_sem, hc]) (hKQ.out _ _ ⟨hI.putF (ciw10_still gm g n d2 kq a2 c2 V1 ao no co (wd.heap.size)) 8 92 (fun j hj => by cases hj) rfl (by rw [hz]; decide) rfl hUN rfl hI.bel rfl, hJ.put 8 92 _ (by decide) (by decide)⟩)
            · rintro lQ b W ⟨hI, hJ⟩ hUN hED KQ hKQ
              have hg := (hJ.blk HX.out.l2 HX.out.q1 HX.out.q2).trans HX.out.sg
              refine wp_load_row 47 _ rfl gq ((hI.fr.same 11 (by decide)).trans gS) 47 #[.int .u64 V1.k, .int .i64 V1.at2, .slice a2 V1.sg.length c2, .slice none 0 0] (0, 0) _ hg Tryz.underlying47 rfl (by kernel_rfl) ?_
              exact hKQ.out _ _ ⟨hI.putF (ciw10_still gm g n d2 kq a2 c2 V1 ao no co (wd.heap.size)) 9 93 (fun j hj => by cases hj) rfl (by rw [hz]; decide) rfl hUN rfl hI.bel rfl, hJ.put 9 93 _ (by decide) (by decide)⟩
            · rintro lQ b W ⟨hI, hJ⟩ hUN hED KQ hKQ
              have f : aT b 93 = .agg #[.int .u64 V1.k, .int .i64 V1.at2, .slice a2 V1.sg.length c2, .slice none 0 0] := hI.got 9 (of_decide_eq_true rfl) (edge hED 9 (by kernel_rfl)) rfl
              have hW := hJ.s0 hUN
              have hJ2 := hJ.build hUN (by decide) (aT (b.put (some 94) (.slice (some ⟨wd.heap.size, 0, none⟩) 1 1)) 95)
              have hbl := hJ2.bel
              refine opw_buildSlice 30 1 _ rfl #[(0, .agg #[.int .u64 V1.k, .int .i64 V1.at2, .slice a2 V1.sg.length c2, .slice none 0 0])] (by simp [ev, f]) (.slice (some ⟨W.heap.size, 0, none⟩) 1 1) (W.alloc (.cells #[.int .u64 V1.k, .int .i64 V1.at2, .slice a2 V1.sg.length c2, .slice none 0 0] 47)) (by kernel_rfl) ?_
              have hz2 : W.heap.size = wd.heap.size := by rw [hW]
              rw [hz2]
              exact hKQ.out _ _ ⟨hI.putF (ciw10_still gm g n d2 kq a2 c2 V1 ao no co (wd.heap.size)) 10 94 (fun j hj => by cases hj) rfl (by rw [hz]; decide) rfl hUN rfl hbl rfl, hJ2⟩
            · rintro lQ b W ⟨hI, hJ⟩ hUN hED KQ hKQ
              have f0 : aT b 92 = .slice ao no co := hI.got 8 (of_decide_eq_true rfl) (edge hED 8 (by kernel_rfl)) rfl
              have f1 : aT b 94 = .slice (some ⟨wd.heap.size, 0, none⟩) 1 1 := hI.got 10 (of_decide_eq_true rfl) (edge hED 10 (by kernel_rfl)) rfl
              have hW := hJ.s1 (edge hED 10 (by kernel_rfl)) hUN
              have hz2 : W.heap.size = wd.heap.size + 1 := by rw [hW]; simp
              have hob : W.ownsRow 0 47 4 (.slice ao no co) no us := by rw [hW]; exact ownsRow_moveX (P := fun _ => False) (S := fun _ => True) HX.out.rw (fun _ _ => trivial) (fun _ _ h => h) (TouchX.of_below ((Below.refl _ _).alloc (Nat.le_refl _) _))
              have hnb : W.heap[wd.heap.size]? = some (.cells #[.int .u64 V1.k, .int .i64 V1.at2, .slice a2 V1.sg.length c2, .slice none 0 0] 47 (0, 0)) := by rw [hW]; exact heap_alloc_new wd _
              refine wp_append_lies W (.tmp 92) (.tmp 94) 30 rfl 0 47 i0 _ 4 64 Tryz.underlying30 hi hz0 hz1 hz3 rfl (by decide) (.slice ao no co) no us f0 hob ⟨wd.heap.size, 0, none⟩ 1 1 [.int .u64 V1.k, .int .i64 V1.at2, .slice a2 V1.sg.length c2, .slice none 0 0] f1 rfl (World.news_of_block hnb) (by intro u hu; simp only [List.mem_cons, List.not_mem_nil, or_false] at hu; rcases hu with rfl | rfl | rfl | rfl <;> rfl) (by decide) (by unfold maxLen; have := HX.out.n6; omega) (by have := HX.out.n6; omega) (Nat.zero_le _) _ rfl ?_
              intro g' c' w' hv hg hl hlt
              have hx : AppX wd #[.int .u64 V1.k, .int .i64 V1.at2, .slice a2 V1.sg.length c2, .slice none 0 0] (.slice ao no co) no us g' c' w' := ⟨hv, by rw [← hW]; exact hg, by rw [← hW]; exact hl⟩
              refine hKQ.out _ _ ⟨hI.putF (ciw10_still gm g n d2 kq a2 c2 V1 ao no co (wd.heap.size)) 11 95 (fun j hj => by rcases List.mem_singleton.1 hj with rfl; exact (edge hED 8 (by kernel_rfl))) rfl (by rw [hz]; decide) rfl hUN rfl hx.bel trivial, ?_⟩
              rw [aT_put_eq (by rw [hI.fr.size, hz]; decide)]
              exact hJ.app (edge hED 10 (by kernel_rfl)) hUN (by decide) hx
            · rintro lQ b W ⟨hI, hJ⟩ hUN hED KQ hKQ
              have f0 : aT b 85 = .slice (some ⟨g, 0, none⟩) n d2 := hI.got 1 (of_decide_eq_true rfl) (edge hED 1 (by kernel_rfl)) rfl
              have f1 : aT b 86 = .int .i64 (kq : Int) := hI.got 2 (of_decide_eq_true rfl) (edge hED 2 (by kernel_rfl)) rfl
              exact opw_indexX 30 85 86 rfl _ _ f0 f1 _ (indexSg0 g n d2 kq W HKN) (hKQ.out _ _ ⟨hI.putF (ciw10_still gm g n d2 kq a2 c2 V1 ao no co (wd.heap.size)) 12 96 (fun j hj => by cases hj) rfl (by rw [hz]; decide) rfl hUN rfl hI.bel rfl, hJ.put 12 96 _ (by decide) (by decide)⟩)
            · rintro lQ b W ⟨hI, hJ⟩ hUN hED KQ hKQ
              have f : aT b 96 = .pointer (some ⟨g, kq * 4, none⟩) := hI.got 12 (of_decide_eq_true rfl) (edge hED 12 (by kernel_rfl)) rfl
              exact opw_field 47 96 3 rfl _ f _ (by kernel_rfl) (hKQ.out _ _ ⟨hI.putF (ciw10_still gm g n d2 kq a2 c2 V1 ao no co (wd.heap.size)) 13 97 (fun j hj => by cases hj) rfl (by rw [hz]; decide) rfl hUN rfl hI.bel rfl, hJ.put 13 97 _ (by decide) (by decide)⟩)
            · rintro lQ b W ⟨hI, hJ⟩ hUN hED KQ hKQ
              have fp : aT b 97 = .pointer (some ⟨g, kq * 4 + 3, none⟩) := hI.got 13 (of_decide_eq_true rfl) (edge hED 13 (by kernel_rfl)) rfl
              have hla := (edge hED 11 (by kernel_rfl))
              obtain ⟨g', c', ev, hx⟩ := hJ.s2 hla hUN
              have hcc : W.cell? ⟨g, kq * 4 + 3, none⟩ = some (.slice ao no co) := (World.cell?_of_block (a := ⟨g, kq * 4 + 3, none⟩) (hJ.blk2 hUN HX.out.lg HX.out.og)).trans HX.out.cl
              have hfz : W.frozen? ⟨g, kq * 4 + 3, none⟩ = false := (World.frozen?_of_block (a := ⟨g, kq * 4 + 3, none⟩) (hJ.blk2 hUN HX.out.lg HX.out.og)).trans (HX.out.fz _)
              have hJ2 := hJ.stored hla hUN (by decide)
              rw [ev] at hJ2
              refine opw_storeX 30 97 95 rfl ⟨g, kq * 4 + 3, none⟩ _ fp ev (W.setCell ⟨g, kq * 4 + 3, none⟩ (.slice (some ⟨g', 0, none⟩) (no + 1) c')) (by simp [Instr.storeAt, go_sem, hcc, hfz]) ?_
              exact hKQ.out _ _ ⟨hI.storeF (ciw10_still gm g n d2 kq a2 c2 V1 ao no co (wd.heap.size)) 14 (fun j hj => by cases hj) hJ2.bel trivial, by rw [show aT (b.put none undef) 95 = _ from ev]; exact hJ2⟩
          · rintro l b W ⟨hI, hJ⟩ hall
            obtain ⟨g', c', W1, ev, hx, hW⟩ := hJ.s3 (hall 14)
            rw [hI.fr.eq]
            simp only [puts, Act.put, List.setIfInBounds_toArray, List.set_cons_zero, List.set_cons_succ, ev]
            clear ev
            clear hI hJ hall
            generalize aT b = AT
            clear b
            rw [hW]
            clear hW
            obtain ⟨S', HZ, hT⟩ := HD.out.put10 HKN hku HX.out.n6 HX.out.cl HX.out.rw HX.out.ow HX.out.sG hx
            clear hx
            obtain ⟨w9, hw9⟩ : ∃ w9, w9 = W1.setCell ⟨g, kq * 4 + 3, none⟩ (.slice (some ⟨g', 0, none⟩) (no + 1) c') := ⟨_, rfl⟩
            rw [← hw9] at HZ hT
            rw [← hw9]
            have HZZ : Hid (Tz D w.heap.size gm gt nn n b1 d1 g d2 V1 ws (xs.set kq (overT (xs.getD kq default) (sgTr V1))) U S' w9) := HZ
            have hb9 : Below w.heap.size w w9 := (hw6.trans HBD.out).trans ⟨hT.os, hT.tape, hT.output, hT.size, fun k hk => hT.block k (Nat.lt_of_lt_of_le hk (hw6.trans HBD.out).size) (fun e => by have := (HD.out.z.lt k (.inr e)).1; omega)⟩
            have hS9 : ¬ S (w.heap.size + 1 + 1) := fun e => by have := (HD.out.z.lt _ (.inr e)).1; omega
            clear HZ hT HX hw9 hS9
            go_upto_region 11 with fail
        
            have HBB : w.heap.size ≤ w9.heap.size := hb9.size
            refine wp_region_ri (ck11 D nn n b1 d1 (some ⟨g, 0, none⟩) d2 ws (xs.set kq (overT (xs.getD kq default) (sgTr V1))) U S' V1 gm gt w.heap.size (w.heap.size)) [10, 98, 99] (w.heap.size) (fun a0 => a0.tmps.size = 100 ∧ aT a0 8 = .pointer (some ⟨(w.heap.size + 1 + 1), 0, none⟩) ∧ aT a0 9 = .pointer (some ⟨(w.heap.size + 1 + 1 + 1), 0, none⟩) ∧ aT a0 12 = .pointer (some ⟨gt, 0, none⟩) ∧ aT a0 14 = .pointer (some ⟨gm, 0, none⟩)) (by kernel_rfl) rfl (by kernel_rfl) rfl ⟨rfl, rfl, rfl, rfl, rfl⟩ (ck11_stb D nn n b1 d1 (some ⟨g, 0, none⟩) d2 ws (xs.set kq (overT (xs.getD kq default) (sgTr V1))) U S' V1 gm gt w.heap.size (w.heap.size)) ?_ ?_ ?_
            · intro k hk hk2
              match k, hk, hk2 with
              | 5, _, _ => exact ⟨HZZ.out.box, HAP.out.1⟩
              | 6, _, _ => exact ⟨HZZ.out.sec, HAP.out.2⟩
              | 7, _, _ => exact HZZ.out.rm
              | 8, _, _ => exact HZZ.out.rs
              | 9, _, _ => exact ⟨HZZ.out.msg, HZZ.out.lt⟩
              | 0, hk, _ => exact absurd hk (by show ¬ (5 ≤ 0); omega)
              | 1, hk, _ => exact absurd hk (by show ¬ (5 ≤ 1); omega)
              | 2, hk, _ => exact absurd hk (by show ¬ (5 ≤ 2); omega)
              | 3, hk, _ => exact absurd hk (by show ¬ (5 ≤ 3); omega)
              | 4, hk, _ => exact absurd hk (by show ¬ (5 ≤ 4); omega)
              | k + 10, _, hk2 => exact absurd hk2 (by show ¬ (k + 10 < 10); omega)
            · rintro a0 ⟨hz, g8, g9, g12, g14⟩
              refine StepsRI.cons ?_ (StepsRI.cons ?_ (StepsRI.cons ?_ (StepsRI.cons ?_ (StepsRI.cons ?_ (StepsRI.nil)))))
              · intro lQ b W hI hUN hED KQ hKQ
                have hg := (hI.vot 5 (of_decide_eq_true rfl) (of_decide_eq_true rfl) rfl).1
                refine wp_load_row 32 _ rfl (gm) ((hI.fr.same 14 (by decide)).trans g14) 32 #[.slice b1 nn d1, .slice (some ⟨g, 0, none⟩) n d2] (0, 0) _ hg Tryz.underlying32 rfl (by kernel_rfl) ?_
                exact hKQ.out _ _ (hI.put 0 98 rfl rfl (by rw [hz]; decide) rfl hUN rfl HBB (ck11_stb D nn n b1 d1 (some ⟨g, 0, none⟩) d2 ws (xs.set kq (overT (xs.getD kq default) (sgTr V1))) U S' V1 gm gt w.heap.size (w.heap.size)) (Below.refl _ _) rfl)
              · intro lQ b W hI hUN hED KQ hKQ
                have hg := (hI.vot 6 (of_decide_eq_true rfl) (of_decide_eq_true rfl) rfl).1
                refine wp_load_row 33 _ rfl (gt) ((hI.fr.same 12 (by decide)).trans g12) 33 #[.int .i64 V1.t.1, .int .u64 V1.t.2.1, .int .i64 V1.t.2.2.1, .int .i64 V1.t.2.2.2] (0, 0) _ hg Tryz.underlying33 rfl (by kernel_rfl) ?_
                exact hKQ.out _ _ (hI.put 1 99 rfl rfl (by rw [hz]; decide) rfl hUN rfl HBB (ck11_stb D nn n b1 d1 (some ⟨g, 0, none⟩) d2 ws (xs.set kq (overT (xs.getD kq default) (sgTr V1))) U S' V1 gm gt w.heap.size (w.heap.size)) (Below.refl _ _) rfl)
              · intro lQ b W hI hUN hED KQ hKQ
                have hgb := (hI.vot1 7 2 (of_decide_eq_true rfl) (of_decide_eq_true rfl) hUN rfl)
                have fb := ((hI.fr.same 8 (by decide)).trans g8)
                have f := hI.got 0 (of_decide_eq_true rfl) (edge hED 0 (by kernel_rfl)) rfl
                refine wp_store_row 32 _ _ rfl ((w.heap.size + 1 + 1)) #[.slice b1 nn d1, .slice (some ⟨g, 0, none⟩) n d2] fb f 32 _ hgb (by kernel_rfl) rfl (by simp [Value.oneCell']) ?_
                have ht := setRow_touch W ((w.heap.size + 1 + 1)) #[.slice b1 nn d1, .slice (some ⟨g, 0, none⟩) n d2]
                exact hKQ.out _ _ (hI.store 2 (fun j hj => by cases hj) (hI.bel.trans (ht.below (by first | exact HGE8 | omega) (Nat.le_trans HBB hI.bel.size))) (ck11_st2 D nn n b1 d1 (some ⟨g, 0, none⟩) d2 ws (xs.set kq (overT (xs.getD kq default) (sgTr V1))) U S' V1 gm gt w.heap.size (w.heap.size) hgb ht) (setRow_heap W ((w.heap.size + 1 + 1)) _ _ _ _ hgb))
              · intro lQ b W hI hUN hED KQ hKQ
                have hgb := (hI.vot1 8 3 (of_decide_eq_true rfl) (of_decide_eq_true rfl) hUN rfl)
                have fb := ((hI.fr.same 9 (by decide)).trans g9)
                have f := hI.got 1 (of_decide_eq_true rfl) (edge hED 1 (by kernel_rfl)) rfl
                refine wp_store_row 33 _ _ rfl ((w.heap.size + 1 + 1 + 1)) #[.int .i64 V1.t.1, .int .u64 V1.t.2.1, .int .i64 V1.t.2.2.1, .int .i64 V1.t.2.2.2] fb f 33 _ hgb (by kernel_rfl) rfl (by simp [Value.oneCell']) ?_
                have ht := setRow_touch W ((w.heap.size + 1 + 1 + 1)) #[.int .i64 V1.t.1, .int .u64 V1.t.2.1, .int .i64 V1.t.2.2.1, .int .i64 V1.t.2.2.2]
                exact hKQ.out _ _ (hI.store 3 (fun j hj => by cases hj) (hI.bel.trans (ht.below (by first | exact HGE9 | omega) (Nat.le_trans HBB hI.bel.size))) (ck11_st3 D nn n b1 d1 (some ⟨g, 0, none⟩) d2 ws (xs.set kq (overT (xs.getD kq default) (sgTr V1))) U S' V1 gm gt w.heap.size (w.heap.size) hgb ht) (setRow_heap W ((w.heap.size + 1 + 1 + 1)) _ _ _ _ hgb))
              · intro lQ b W hI hUN hED KQ hKQ
                exact opw_const (.int .i64 0) rfl (hKQ.out _ _ (hI.put 4 10 rfl rfl (by rw [hz]; decide) rfl hUN rfl HBB (ck11_stb D nn n b1 d1 (some ⟨g, 0, none⟩) d2 ws (xs.set kq (overT (xs.getD kq default) (sgTr V1))) U S' V1 gm gt w.heap.size (w.heap.size)) (Below.refl _ _) rfl))
            · intro b W hf hb F
              have e8 : W.heap[w.heap.size + 1 + 1]? = some (.cells #[.slice b1 nn d1, .slice (some ⟨g, 0, none⟩) n d2] 32 (0, 0)) := F 2 (of_decide_eq_true rfl) rfl
              have e9 : W.heap[w.heap.size + 1 + 1 + 1]? = some (.cells #[.int .i64 V1.t.1, .int .u64 V1.t.2.1, .int .i64 V1.t.2.2.1, .int .i64 V1.t.2.2.2] 33 (0, 0)) := F 3 (of_decide_eq_true rfl) rfl
              have e10 := F 4 (of_decide_eq_true rfl) rfl
              have hm : MsgQ D w.heap.size U S' b1 nn d1 ws (some ⟨g, 0, none⟩) n d2 (xs.set kq (overT (xs.getD kq default) (sgTr V1))) W := F 9 (of_decide_eq_true rfl) rfl
              replace e10 : aT b 10 = _ := e10
              rw [hf.eq]
              simp only [puts, Act.put, List.setIfInBounds_toArray, List.set_cons_zero, List.set_cons_succ, e10]
              clear hf F e10
              generalize aT b = AT
              clear b
              go_wp2
              try simp only [Exit.inBlock, Exit.then]
              refine bodyPost_ret (results_cs rfl _ (w.heap.size + 1 + 1) (w.heap.size + 1 + 1 + 1) rfl rfl (.int .i64 0) rfl _ _ _ e8 e9 rfl rfl) rfl ?_
              have hgo : csGo ws xs ((kq : Int).toNat) V1 = ⟨ws, xs.set kq (overT (xs.getD kq default) (sgTr V1)), V1.t, 0⟩ := by rw [Int.toNat_natCast]; unfold csGo; rw [if_pos HCD.out]
              rw [hgo]
              have l1 : ws.length = nn := hm.1.ct.own.toRow.len
              have l2 : (xs.set kq (overT (xs.getD kq default) (sgTr V1))).length = n := hm.1.sg.1
              refine ⟨b1, d1, some ⟨g, 0, none⟩, d2, U, S', ?_, ?_, fun z hz => ⟨by have := (hm.2 z hz).1; omega, (hm.2 z hz).2⟩, hb9.trans hb⟩
              · simp only [csOut, l1, l2]
              · simp only [l1, l2]
                exact hm.1

end Go.Proofs.YtpnhhhhmonbajaaGreat

