import Derived.Test.YtpnaopmpiobemaaC6
namespace Go.Proofs.Ytpnaopmpiobemaa
open Go.RowKit

theorem alloc_old' (w : World) (o : Obj) (g : Nat) (hg : g < w.heap.size) : (w.alloc o).heap[g]? = w.heap[g]? := ((Below.refl w.heap.size w).alloc (Nat.le_refl _) o).block g hg
theorem three_blocks' (w : World) (o0 o1 o2 : Obj) : (((w.alloc o0).alloc o1).alloc o2).heap[w.heap.size]? = some o0 ∧ (((w.alloc o0).alloc o1).alloc o2).heap[w.heap.size + 1]? = some o1 ∧ (((w.alloc o0).alloc o1).alloc o2).heap[w.heap.size + 2]? = some o2 := by
  refine ⟨?_, ?_, ?_⟩
  · rw [alloc_old' _ _ _ (by simp; omega), alloc_old' _ _ _ (by simp)]; exact heap_alloc_new w _
  · rw [alloc_old' _ _ _ (by simp)]; have := heap_alloc_new (w.alloc o0) o1; simpa using this
  · have := heap_alloc_new ((w.alloc o0).alloc o1) o2; simpa using this
theorem touch_set' {p q : Nat} (w : World) (g j : Nat) (u : Value) (h1 : p ≤ g) (h2 : g < q) : Touch p q w (w.setCell ⟨g, j, none⟩ u) :=
  ⟨rfl, rfl, rfl, by simp [World.setCell], fun i _ ho => Below.heap_setCell _ _ _ _ (by show i ≠ g; omega)⟩
theorem heap_kept' {B : Nat} {w w' : World} (h : Below B w w') {g : Nat} (hg : g < B) {o : Obj} (e : w.heap[g]? = some o) : w'.heap[g]? = some o := (h.block g hg).trans e
theorem three_below (w : World) (o0 o1 o2 : Obj) : Below w.heap.size w (((w.alloc o0).alloc o1).alloc o2) := (((Below.refl _ _).alloc (Nat.le_refl _) _).alloc (by simp) _).alloc (by simp; omega) _
theorem Own.same {B : Nat} {w w' : World} {a : Option Addr} {n cap : Nat} {bs : List Int} (h : Own B w a n cap bs) (e : ∀ g, B ≤ g → w'.heap[g]? = w.heap[g]?) : Own B w' a n cap bs := by
  refine ⟨⟨h.row.1, ?_⟩, h.byte⟩
  rcases h.row.2 with q | ⟨g, c, cur, hv, hb, hg, r⟩
  · exact .inl q
  · exact .inr ⟨g, c, cur, hv, hb, (e g hb).trans hg, r⟩

theorem results_rw {fn : Func} {t : Tmp} (h : fn.results = #[.cell t 54]) (tmps : Array Value) (g : Nat) (ht : tmps.getD t undef = .pointer (some ⟨g, 0, none⟩)) (w : World) (c0 : Value)
    (hb : w.heap[g]? = some (.cells #[c0] 54 (0, 0))) : (results fn tmps).run Try.prog w = .ok (.agg #[c0]) w := by
  have d0 : w.cell? ⟨g, 0, none⟩ = some c0 := (cell_of_row _ g 0 _ 54 (0, 0) hb).trans rfl
  clear hb
  have ht' : tmps[t]?.getD undef = .pointer (some ⟨g, 0, none⟩) := by rw [← ht]; simp
  simp [results, h, go_sem, ht', d0]
theorem results_cs {fn : Func} {t : Tmp} (h : fn.results = #[.cell t 25]) (tmps : Array Value) (g : Nat) (ht : tmps.getD t undef = .pointer (some ⟨g, 0, none⟩)) (w : World) (c0 : Value)
    (hb : w.heap[g]? = some (.cells #[c0] 25 (0, 0))) : (results fn tmps).run Try.prog w = .ok (.agg #[c0]) w := by
  have d0 : w.cell? ⟨g, 0, none⟩ = some c0 := (cell_of_row _ g 0 _ 25 (0, 0) hb).trans rfl
  clear hb
  have ht' : tmps[t]?.getD undef = .pointer (some ⟨g, 0, none⟩) := by rw [← ht]; simp
  simp [results, h, go_sem, ht', d0]

set_option maxRecDepth 10000 in
set_option maxHeartbeats 1000000 in
theorem toRow_any (a : Option Addr) (n c : Nat) (bs : List Int) (w : World) (h : Row w a n bs) (hn : n ≤ 1048576) :
    Calls Try.prog 62 #[.agg #[.slice a n c]] w fun e w' => ∃ a', e = .returned (.agg #[.slice a' n n]) ∧ Own w.heap.size w' a' n n bs ∧ Below w.heap.size w w' := by
  have HK : Hid (Row w a n bs) := h
  clear h
  obtain ⟨W0, hW0⟩ : ∃ W0, W0 = (((w.alloc (.cells #[.slice a n c] 95)).alloc (.cells #[.slice none 0 0] 54)).alloc (.cells #[.slice none 0 0] 54)) := ⟨_, rfl⟩
  have hB0 : Below w.heap.size w W0 := by rw [hW0]; exact three_below _ _ _ _
  have hS0 : W0.heap.size = w.heap.size + 3 := by rw [hW0]; simp
  obtain ⟨_, b1, b2⟩ := three_blocks' w (.cells #[.slice a n c] 95) (.cells #[.slice none 0 0] 54) (.cells #[.slice none 0 0] 54)
  rw [← hW0] at b1 b2
  go_enter Try.func62, Try.ntmps62
  go_wp2_with fail
  rw [← hW0]
  clear hW0
  refine (toByteS_any a n c bs _ (HK.out.kept hB0) hn).mono ?_
  rintro e w1 ⟨a1, rfl, ho1, hb1⟩
  have hs1 := hb1.size
  replace b1 := heap_kept' hb1 (by omega) b1
  replace b2 := heap_kept' hb1 (by omega) b2
  have hB1 : Below w.heap.size w w1 := hB0.trans (hb1.mono (by omega))
  have r0 : w1.cell? ⟨w.heap.size + 1 + 1, 0, none⟩ = some (.slice none 0 0) := (cell_of_row _ (w.heap.size + 1 + 1) 0 _ 54 (0, 0) b2).trans rfl
  have s0 : w1.cell? ⟨w.heap.size + 1, 0, none⟩ = some (.slice none 0 0) := (cell_of_row _ (w.heap.size + 1) 0 _ 54 (0, 0) b1).trans rfl
  have fr0 : w1.frozen? ⟨w.heap.size + 1 + 1, 0, none⟩ = false := frozen_of_row w1 (w.heap.size + 1 + 1) 0 _ 54 b2
  have f0 : w1.frozen? ⟨w.heap.size + 1, 0, none⟩ = false := frozen_of_row w1 (w.heap.size + 1) 0 _ 54 b1
  have E1 : Hid (_ = _) := b1
  rw [hS0] at ho1
  have OB : Hid (Own (w.heap.size + 3) w1 a1 n n bs) := ho1
  have HB : Hid (_) := hB1
  have hgl : w.heap.size + 3 ≤ w1.heap.size := by omega
  clear b1 b2 ho1 hb1 hB0 hB1 hs1 hS0
  go_wp2
  have q0 := heap_setCell_other w1 ⟨w.heap.size + 1 + 1, 0, none⟩ (w.heap.size + 1) (.slice a1 n n) (by simp)
  have q1 := heap_setCell_same _ (w.heap.size + 1) 0 _ 54 (.slice a1 n n) (q0.trans E1.out)
  have tt : Touch (w.heap.size + 1) (w.heap.size + 3) w1 ((w1.setCell ⟨w.heap.size + 1 + 1, 0, none⟩ (.slice a1 n n)).setCell ⟨w.heap.size + 1, 0, none⟩ (.slice a1 n n)) := (touch_set' _ _ _ _ (by omega) (by omega)).trans (touch_set' _ _ _ _ (by omega) (by omega))
  try simp only [Exit.inBlock, Exit.then]
  refine bodyPost_ret (results_rw rfl _ (w.heap.size + 1) rfl _ _ q1) rfl ⟨_, rfl, (OB.out.same fun g hg => ?_).mono (by omega), HB.out.trans (tt.below (by omega) (by omega))⟩
  exact (heap_setCell_other _ _ _ _ (by simp; omega)).trans (heap_setCell_other _ _ _ _ (by simp; omega))

/-- Rows of our own, each in blocks of its own, one behind the other, of which k are laid. -/
structure LaidR (B : Nat) (w : World) (n k : Nat) (bss : List (List Int)) : Prop where
  owns : ∃ (vs : List Value) (p : Nat → Nat), w.ownsRow B 54 1 (.slice (some ⟨B, 0, none⟩) n n) n vs ∧ B < p 0 ∧ (∀ j, j < k → p j ≤ p (j + 1)) ∧ p k ≤ w.heap.size ∧ ∀ j, j < k → ∃ aj nj, vs[j]? = some (.slice aj nj nj) ∧ Own (p j) w aj nj nj (bss.getD j []) ∧ In aj nj (p j) (p (j + 1))
theorem ownsRow_lt {B t m g n c l : Nat} {w : World} {vs : List Value} (hv : w.ownsRow B t m (.slice (some ⟨g, 0, none⟩) n c) l vs) : g < w.heap.size := by
  rcases hv.2 with ⟨h', _⟩ | ⟨g', cap, cur, h', _, hg, _⟩
  · simp at h'
  · simp only [Value.slice.injEq, Option.some.injEq, Addr.mk.injEq, and_true] at h'
    obtain ⟨rfl, _⟩ := h'
    exact (Array.getElem?_eq_some_iff.1 hg).1
theorem mono_upto {p : Nat → Nat} {k : Nat} (h : ∀ j, j < k → p j ≤ p (j + 1)) : ∀ j, j ≤ k → p 0 ≤ p j ∧ p j ≤ p k := by
  intro j hj
  constructor
  · induction j with
    | zero => exact Nat.le_refl _
    | succ j ih => exact Nat.le_trans (ih (by omega)) (h j (by omega))
  · obtain ⟨d, rfl⟩ : ∃ d, k = j + d := ⟨k - j, by omega⟩
    clear hj
    induction d with
    | zero => exact Nat.le_refl _
    | succ d ih => exact Nat.le_trans (ih fun i hi => h i (by omega)) (h (j + d) (by omega))
theorem LaidR.kept {B n k : Nat} {w w1 : World} {bss : List (List Int)} (h : LaidR B w n k bss) (hb : Below w.heap.size w w1) : LaidR B w1 n k bss := by
  obtain ⟨vs, p, hv, h0, hm, hk, hr⟩ := h.owns
  refine ⟨vs, p, ownsRow_below hv hb, h0, hm, Nat.le_trans hk hb.size, fun j hj => ?_⟩
  obtain ⟨aj, nj, h1, h2, h3⟩ := hr j hj
  exact ⟨aj, nj, h1, h2.kept hb, h3⟩
theorem ownsRow_same {B t m n c l : Nat} {a : Option Addr} {w w' : World} {vs : List Value} (hv : w.ownsRow B t m (.slice a n c) l vs) (e : ∀ g, B ≤ g → w'.heap[g]? = w.heap[g]?) : w'.ownsRow B t m (.slice a n c) l vs := by
  refine ⟨hv.1, ?_⟩
  rcases hv.2 with q | ⟨g, c, cur, h1, hb, hg, r⟩
  · exact .inl q
  · exact .inr ⟨g, c, cur, h1, hb, (e g hb).trans hg, r⟩
theorem LaidR.same {B n k : Nat} {w w1 : World} {bss : List (List Int)} (h : LaidR B w n k bss) (e : ∀ g, B ≤ g → w1.heap[g]? = w.heap[g]?) (hs : w.heap.size ≤ w1.heap.size) : LaidR B w1 n k bss := by
  obtain ⟨vs, p, hv, h0, hm, hk, hr⟩ := h.owns
  refine ⟨vs, p, ownsRow_same hv e, h0, hm, Nat.le_trans hk hs, fun j hj => ?_⟩
  obtain ⟨aj, nj, h1, h2, h3⟩ := hr j hj
  have := mono_upto hm j (by omega)
  exact ⟨aj, nj, h1, h2.same fun g hg => e g (by omega), h3⟩
theorem LaidR.step {B n k : Nat} {w w1 : World} {bss : List (List Int)} {a : Option Addr} {m : Nat} (h : LaidR B w n k bss) (hk : k < n) (hb : Below w.heap.size w w1) (ho : Own w.heap.size w1 a m m (bss.getD k [])) :
    LaidR B (w1.setCell ⟨B, k, none⟩ (.slice a m m)) n (k + 1) bss := by
  obtain ⟨vs, p, hv, h0, hm, hpk, hr⟩ := h.owns
  have hv1 := ownsRow_below hv hb
  have hsz : (w1.setCell ⟨B, k, none⟩ (.slice a m m)).heap.size = w1.heap.size := by simp [World.setCell]
  have hB0 := (mono_upto hm k (Nat.le_refl _)).1
  refine ⟨vs.set k (.slice a m m), fun j => if j ≤ k then p j else w1.heap.size, (hv1.stored k _).1, by simpa using h0, fun j hj => ?_, ?_, fun j hj => ?_⟩
  · by_cases e : j < k
    · simp only [if_pos (show j ≤ k by omega), if_pos (show j + 1 ≤ k by omega)]; exact hm j e
    · obtain rfl : j = k := by omega
      simp only [if_pos (Nat.le_refl _), if_neg (show ¬ (j + 1 ≤ j) by omega)]
      exact Nat.le_trans hpk hb.size
  · simp only [if_neg (show ¬ (k + 1 ≤ k) by omega)]
    rw [hsz]; exact Nat.le_refl _
  · have hoth : ∀ g, B < g → (w1.setCell ⟨B, k, none⟩ (.slice a m m)).heap[g]? = w1.heap[g]? := fun g hg => Below.heap_setCell _ _ _ _ (by show g ≠ B; omega)
    by_cases e : j = k
    · subst e
      have hl : vs.length = n := by have := hv.1; omega
      simp only [if_pos (Nat.le_refl _), if_neg (show ¬ (j + 1 ≤ j) by omega)]
      refine ⟨a, m, by simp [hl, hk], ((ho.mono hpk).same fun g hg => hoth g (by omega)), ?_⟩
      intro b off hb' hm'
      have := ho.in_ b off hb' hm'
      omega
    · have ej : j < k := by omega
      obtain ⟨aj, nj, h1, h2, h3⟩ := hr j ej
      have := mono_upto hm j (by omega)
      simp only [if_pos (show j ≤ k by omega), if_pos (show j + 1 ≤ k by omega)]
      exact ⟨aj, nj, by rw [List.getElem?_set_ne (by omega)]; exact h1, (h2.kept hb).same fun g hg => hoth g (by omega), h3⟩
theorem LaidR.rows {B n : Nat} {w : World} {bss : List (List Int)} (h : LaidR B w n n bss) (hl : bss.length = n) : Rows2 w (some ⟨B, 0, none⟩) n bss := by
  obtain ⟨vs, p, hv, _, _, _, hr⟩ := h.owns
  refine ⟨hl, fun k hk => ?_⟩
  obtain ⟨aj, nj, h1, h2, h3⟩ := hr k hk
  exact ⟨B, 0, rfl, ownsRow_lt hv, aj, nj, nj, by rw [Nat.zero_add, hv.cellAt k (by omega), h1], h2.toRow, h2.nil⟩

set_option maxRecDepth 10000 in
set_option maxHeartbeats 1000000 in
theorem toRowS_any (a : Option Addr) (n cap : Nat) (bss : List (List Int)) (w : World) (h : Rows2 w a n bss) (hn : n ≤ 1048576) (ht : total bss ≤ 1048576) :
    Calls Try.prog 37 #[.slice a n cap] w fun e w' => e = .returned (.slice (some ⟨w.heap.size, 0, none⟩) n n) ∧ LaidR w.heap.size w' n n bss ∧ Below w.heap.size w w' := by
  obtain ⟨i0, hi, hz0, hz1, hz2⟩ := info_parts Try.infoRow
  have H0 : Hid (Rows2 w a n bss) := h
  have HL : Hid (bss.length = n) := h.len
  have HT : Hid (total bss ≤ 1048576) := ht
  clear h ht
  go_enter Try.func37, Try.ntmps37
  go_wp2_with (first | (at_make; refine wpList_make_full _ rfl _ _ 23 rfl w.heap.size 54 i0 _ 1 Try.underlying23 hi hz0 hz1 _ _ _ _ n rfl rfl rfl rfl (by rw [hz2]; omega) (by unfold maxLen; omega) (by exact Nat.le_refl _) ?_; intro w1 hown hgrow))
  have hbl : Below w.heap.size w w1 := (Below.refl _ _).grown hgrow (Nat.le_refl _) (by simp)
  have hl0 : LaidR w.heap.size w1 n 0 bss := ⟨_, fun _ => w.heap.size + 1, hown, Nat.lt_succ_self _, fun _ _ => Nat.le_refl _, ownsRow_lt hown, fun j hj => absurd hj (Nat.not_lt_zero _)⟩
  clear hown hgrow hi hz0 hz1 hz2
  go_loopw [4] (fun i wr => ∃ k : Nat, k ≤ n ∧ i = .int .i64 k ∧ LaidR w.heap.size wr n k bss ∧ Below w.heap.size w wr) (fun i _ => n - (intOf i).toNat)
  case atStart => exact ⟨0, Nat.zero_le _, rfl, hl0, hbl⟩
  case round =>
    obtain ⟨k, hk, rfl, hor, hbr⟩ := hrel
    have hws := hbr.size
    by_cases hlt : k < n
    · obtain ⟨b, off, rfl, hb, ak, nk, ck, hc, hrk, hnk⟩ := H0.out.get k hlt
      have hcr : wr.cell? ⟨b, off + k, none⟩ = some (.slice ak nk ck) := (hbr.cell (p := ⟨b, off + k, none⟩) hb).trans hc
      have hkl : k < bss.length := by have := HL.out; omega
      have hpk : nk ≤ 1048576 := by rw [← hrk.len]; exact part_le bss k hkl HT.out
      have hlti : (k : Int) < (n : Int) := by omega
      clear hc
      go_wp2_with fail
      refine (toRow_any ak nk ck (bss.getD k []) _ (hrk.kept hbr) hpk).mono ?_
      rintro e w2 ⟨a2, rfl, ho2, hb2⟩
      have HST : Hid (LaidR w.heap.size (w2.setCell ⟨w.heap.size, k, none⟩ (.slice a2 nk nk)) n (k + 1) bss) := hor.step hlt hb2 ho2
      have HB3 : Hid (Below w.heap.size w (w2.setCell ⟨w.heap.size, k, none⟩ (.slice a2 nk nk))) := (hbr.trans (hb2.mono hws)).setCell (Nat.le_refl _) _
      obtain ⟨vs, p, hv, _⟩ := hor.owns
      have hv2 := ownsRow_below hv hb2
      have hfr : w2.frozen? ⟨w.heap.size, k, none⟩ = false := hv2.frozenAt k
      obtain ⟨z, hz⟩ : ∃ z, w2.cell? ⟨w.heap.size, k, none⟩ = some z := ⟨_, (hv2.cellAt k (by omega)).trans (List.getElem?_eq_getElem (by have := hv.1; omega))⟩
      clear hor hv hv2 ho2
      go_wp2
      go_roundw
      case rel => exact ⟨k + 1, by omega, by go_num, HST.out, HB3.out⟩
      case measure => simp [intOf]; omega
    · have hkn : k = n := by omega
      subst hkn
      go_wp2
      go_ret
      exact ⟨rfl, hor, hbr⟩

set_option maxRecDepth 10000 in
set_option maxHeartbeats 1000000 in
theorem toCascade_any (a : Option Addr) (n c : Nat) (bss : List (List Int)) (w : World) (h : Rows2 w a n bss) (hn : n ≤ 1048576) (ht : total bss ≤ 1048576) :
    Calls Try.prog 17 #[.agg #[.slice a n c]] w fun e w' => ∃ g', e = .returned (.agg #[.slice (some ⟨g', 0, none⟩) n n]) ∧ w.heap.size ≤ g' ∧ LaidR g' w' n n bss ∧ Below w.heap.size w w' := by
  have HK : Hid (Rows2 w a n bss) := h
  clear h
  obtain ⟨W0, hW0⟩ : ∃ W0, W0 = (((w.alloc (.cells #[.slice a n c] 35)).alloc (.cells #[.slice none 0 0] 25)).alloc (.cells #[.slice none 0 0] 25)) := ⟨_, rfl⟩
  have hB0 : Below w.heap.size w W0 := by rw [hW0]; exact three_below _ _ _ _
  have hS0 : W0.heap.size = w.heap.size + 3 := by rw [hW0]; simp
  obtain ⟨_, b1, b2⟩ := three_blocks' w (.cells #[.slice a n c] 35) (.cells #[.slice none 0 0] 25) (.cells #[.slice none 0 0] 25)
  rw [← hW0] at b1 b2
  go_enter Try.func17, Try.ntmps17
  go_wp2_with fail
  rw [← hW0]
  clear hW0
  refine (toRowS_any a n c bss _ (HK.out.kept hB0) hn ht).mono ?_
  rintro e w1 ⟨rfl, ho1, hb1⟩
  obtain ⟨g1, hg1⟩ : ∃ g1, g1 = W0.heap.size := ⟨_, rfl⟩
  rw [← hg1] at ho1 ⊢
  have HG1 : Hid (g1 = w.heap.size + 3) := by show _ = _; omega
  have hs1 := hb1.size
  replace b1 := heap_kept' hb1 (by omega) b1
  replace b2 := heap_kept' hb1 (by omega) b2
  have hB1 : Below w.heap.size w w1 := hB0.trans (hb1.mono (by omega))
  have r0 : w1.cell? ⟨w.heap.size + 1 + 1, 0, none⟩ = some (.slice none 0 0) := (cell_of_row _ (w.heap.size + 1 + 1) 0 _ 25 (0, 0) b2).trans rfl
  have s0 : w1.cell? ⟨w.heap.size + 1, 0, none⟩ = some (.slice none 0 0) := (cell_of_row _ (w.heap.size + 1) 0 _ 25 (0, 0) b1).trans rfl
  have fr0 : w1.frozen? ⟨w.heap.size + 1 + 1, 0, none⟩ = false := frozen_of_row w1 (w.heap.size + 1 + 1) 0 _ 25 b2
  have f0 : w1.frozen? ⟨w.heap.size + 1, 0, none⟩ = false := frozen_of_row w1 (w.heap.size + 1) 0 _ 25 b1
  have E1 : Hid (_ = _) := b1
  have OB : Hid (_) := ho1
  have HB : Hid (_) := hB1
  have hgl : g1 ≤ w1.heap.size := by omega
  clear b1 b2 ho1 hb1 hB0 hB1 hg1 hs1 hS0
  go_wp2
  have hgg := HG1.out
  have q0 := heap_setCell_other w1 ⟨w.heap.size + 1 + 1, 0, none⟩ (w.heap.size + 1) (.slice (some ⟨g1, 0, none⟩) n n) (by simp)
  have q1 := heap_setCell_same _ (w.heap.size + 1) 0 _ 25 (.slice (some ⟨g1, 0, none⟩) n n) (q0.trans E1.out)
  have tt : Touch (w.heap.size + 1) (w.heap.size + 3) w1 ((w1.setCell ⟨w.heap.size + 1 + 1, 0, none⟩ (.slice (some ⟨g1, 0, none⟩) n n)).setCell ⟨w.heap.size + 1, 0, none⟩ (.slice (some ⟨g1, 0, none⟩) n n)) := (touch_set' _ _ _ _ (by omega) (by omega)).trans (touch_set' _ _ _ _ (by omega) (by omega))
  have hot : ∀ g, g1 ≤ g → ((w1.setCell ⟨w.heap.size + 1 + 1, 0, none⟩ (.slice (some ⟨g1, 0, none⟩) n n)).setCell ⟨w.heap.size + 1, 0, none⟩ (.slice (some ⟨g1, 0, none⟩) n n)).heap[g]? = w1.heap[g]? := fun g hg => (heap_setCell_other _ _ _ _ (by simp; omega)).trans (heap_setCell_other _ _ _ _ (by simp; omega))
  try simp only [Exit.inBlock, Exit.then]
  refine bodyPost_ret (results_cs rfl _ (w.heap.size + 1) rfl _ _ q1) rfl ⟨_, rfl, by omega, OB.out.same hot tt.size, HB.out.trans (tt.below (by omega) (by omega))⟩

end Go.Proofs.Ytpnaopmpiobemaa
