import Derived.Test.YtbfjkmlmnhphoaaDoorGMDEMDG
import Derived.Test.YtbfjkmlmnhphoaaDoorMD9
import Derived.Deep.AppendLies
set_option linter.unusedVariables false
namespace Go.Proofs.YtbfjkmlmnhphoaaDoor
open Go.RowKit Go.Sort

theorem ownsRow_clash {w : World} {B B' t t' s s' n n' c c' g : Nat} {a a' : Option Addr} {vs vs' : List Value} (h : w.ownsRow B t s (.slice a n c) n vs) (h' : w.ownsRow B' t' s' (.slice a' n' c') n' vs') (ht : t ≠ t') (e : a = some ⟨g, 0, none⟩) (e' : a' = some ⟨g, 0, none⟩) : False := by
  rcases h.2 with ⟨z, _⟩ | ⟨g1, k1, cur, y1, _, hg1, _⟩
  · simp only [Value.slice.injEq] at z; rw [e] at z; simp at z
  · rcases h'.2 with ⟨z, _⟩ | ⟨g3, k3, cur3, y3, _, hg3, _⟩
    · simp only [Value.slice.injEq] at z; rw [e'] at z; simp at z
    · simp only [Value.slice.injEq] at y1 y3
      have e1 := y1.1.symm.trans e
      have e3 := y3.1.symm.trans e'
      simp only [Option.some.injEq, Addr.mk.injEq] at e1 e3
      rw [e1.1] at hg1
      rw [e3.1, hg1] at hg3
      simp only [Option.some.injEq, Obj.cells.injEq] at hg3
      exact ht hg3.2.1
theorem ownsRow_succG {w : World} {B e s k : Nat} {v : Value} {xs : List Value} (h : w.ownsRow B e s v (k + 1) xs) : ∃ g c, v = .slice (some ⟨g, 0, none⟩) (k + 1) c := by
  rcases h.2 with ⟨_, h0⟩ | ⟨g, cap, cur, hv, _⟩
  · omega
  · exact ⟨g, cap, hv⟩

/-- The cells of the first k entries. -/
def flG (xs : List GP) (sl : Nat → Sl) : Nat → List Value
  | 0 => []
  | k + 1 => flG xs sl k ++ [.slice (sl k).1 (sl k).2.1 (sl k).2.2, .int .i64 (xs.getD k default).ser, .int .i64 (xs.getD k default).tm, .int .i64 (xs.getD k default).rs]
theorem flG_congr (xs : List GP) {sl sm : Nat → Sl} : ∀ k, (∀ j, j < k → sl j = sm j) → flG xs sl k = flG xs sm k := by
  intro k
  induction k with
  | zero => intro _; rfl
  | succ k ih => intro h; simp only [flG]; rw [ih (fun j hj => h j (by omega)), h k (by omega)]
structure EachQ (B : Nat) (w : World) (a : Option Addr) (k c : Nat) (xs : List GP) (sl : Nat → Sl) : Prop where
  row : w.ownsRow B 63 4 (.slice a k c) k (flG xs sl k)
  each : ∀ j, j < k → w.ownsRow B 107 2 (.slice (sl j).1 (sl j).2.1 (sl j).2.2) (sl j).2.1 (flPt (xs.getD j default).parts)
  apart : ∀ i j, i < j → j < k → ∀ g, (sl i).1 = some ⟨g, 0, none⟩ → (sl j).1 ≠ some ⟨g, 0, none⟩
theorem EachQ.empty (B : Nat) (w : World) (xs : List GP) (sl : Nat → Sl) : EachQ B w none 0 0 xs sl := ⟨World.ownsRow_nil _ _ _ _, fun j hj => absurd hj (Nat.not_lt_zero _), fun i j _ hj => absurd hj (Nat.not_lt_zero _)⟩
theorem EachQ.below {B : Nat} {w w' : World} {a : Option Addr} {k c : Nat} {xs : List GP} {sl : Nat → Sl} (h : EachQ B w a k c xs sl) (hb : Below w.heap.size w w') : EachQ B w' a k c xs sl := ⟨ownsRow_below h.row hb, fun j hj => ownsRow_below (h.each j hj) hb, h.apart⟩
theorem EachQ.appended {B : Nat} {w w7 : World} {a : Option Addr} {k c : Nat} {xs : List GP} {sl : Nat → Sl} (h : EachQ B w a k c xs sl) {a2 : Option Addr} {n2 c2 : Nat} (hn : w.ownsRow B 107 2 (.slice a2 n2 c2) n2 (flPt (xs.getD k default).parts)) (hf : ∀ j, j < k → ∀ g, (sl j).1 = some ⟨g, 0, none⟩ → a2 ≠ some ⟨g, 0, none⟩)
    {a7 : Option Addr} {c7 : Nat} (hv : w7.ownsRow B 63 4 (.slice a7 (k + 1) c7) (k + 1) (flG xs sl k ++ [.slice a2 n2 c2, .int .i64 (xs.getD k default).ser, .int .i64 (xs.getD k default).tm, .int .i64 (xs.getD k default).rs])) (hg : w.grownBy w7 (Value.slice a k c).ownBlock) : EachQ B w7 a7 (k + 1) c7 xs (fun j => if j = k then (a2, n2, c2) else sl j) := by
  have ht : TouchS (fun i => a = some ⟨i, 0, none⟩) w w7 := touchS_grown hg (ownsRow_ownBlock h.row)
  refine ⟨?_, fun j hj => ?_, fun i j hij hj g => ?_⟩
  · simp only [flG, if_true]
    rw [flG_congr xs (sl := fun j => if j = k then (a2, n2, c2) else sl j) (sm := sl) k (fun j hj => by simp only [if_neg (show ¬ j = k by omega)])]
    exact hv
  · by_cases e : j = k
    · subst e
      simp only [if_true]
      exact ownsRow_keepS hn ht (fun g e1 _ e2 => ownsRow_clash hn h.row (by decide) e1 e2)
    · simp only [if_neg e]
      exact ownsRow_keepS (h.each j (by omega)) ht (fun g e1 _ e2 => ownsRow_clash (h.each j (by omega)) h.row (by decide) e1 e2)
  · simp only [if_neg (show ¬ i = k by omega)]
    by_cases e : j = k
    · simp only [if_pos e]
      exact hf i (by omega) g
    · simp only [if_neg e]
      exact h.apart i j hij (by omega) g

set_option maxRecDepth 10000 in
set_option maxHeartbeats 4000000 in
theorem eachGone_any (a : Option Addr) (n c : Nat) (xs : List GP) (w : World) (h : Gns w a n xs) (hn : n ≤ 1048576) (hc0 : ∀ k, k < n → ∀ b off an nn cn, a = some ⟨b, off, none⟩ → w.cell? ⟨b, off + k * 4, none⟩ = some (.slice an nn cn) → (an = none → cn = 0) ∧ nn ≤ 1048576) :
    Calls Tryd.prog 95 #[.slice a n c, .func (Fn.func 96) #[] #[]] w fun e w' => ∃ a' c' sl, e = .returned (.slice a' n c') ∧ EachQ w.heap.size w' a' n c' xs sl ∧ (∀ j, j < n → (sl j).2.1 = (xs.getD j default).parts.length) ∧ Below w.heap.size w w' := by
  obtain ⟨i0, hi, hz0, hz1, hz2⟩ := info_parts Tryd.infoGone
  have H0 : Hid (Gns w a n xs) := h
  have HC0 : Hid (∀ k, k < n → ∀ b off an nn cn, a = some ⟨b, off, none⟩ → w.cell? ⟨b, off + k * 4, none⟩ = some (.slice an nn cn) → (an = none → cn = 0) ∧ nn ≤ 1048576) := hc0
  clear h hc0
  go_enter Tryd.func95, Tryd.ntmps95
  go_wp2
  go_loopw [5, 10] (fun o i wr => ∃ (k : Nat) (ao : Option Addr) (cc : Nat), k ≤ n ∧ i = .int .i64 k ∧ o = .slice ao k cc ∧ Hid (∃ sl, EachQ w.heap.size wr ao k cc xs sl ∧ ∀ j, j < k → (sl j).2.1 = (xs.getD j default).parts.length) ∧ Below w.heap.size w wr) (fun _ i _ => n - (intOf i).toNat)
  case atStart => exact ⟨0, none, 0, Nat.zero_le _, rfl, rfl, ⟨fun _ => (none, 0, 0), EachQ.empty _ _ _ _, fun j hj => absurd hj (Nat.not_lt_zero _)⟩, Below.refl _ _⟩
  case round =>
    obtain ⟨k, ao, cc, hk, rfl, rfl, HO, hbr⟩ := hrel
    have hws := hbr.size
    by_cases hlt : k < n
    · obtain ⟨b, off, a1, n1, d1, rfl, hlb, hc, hp⟩ := H0.out.get k hlt
      obtain ⟨hnl, hn1⟩ := HC0.out k hlt b off a1 n1 d1 rfl hc.c0
      obtain ⟨y, hy⟩ : ∃ y, y = xs.getD k default := ⟨_, rfl⟩
      rw [← hy] at hc hp
      have HY : Hid (y = xs.getD k default) := hy
      obtain ⟨c0, c1, c2, c3⟩ := hc.of (w' := wr) (fun i => hbr.cell (p := ⟨b, i, none⟩) hlb)
      have hkni : (k : Int) < (n : Int) := by omega
      have hbw : b < wr.heap.size := by omega
      have HPL : Hid (y.parts.length = n1) := hp.len
      have HRW : Hid (Pts wr a1 n1 y.parts) := hp.kept hbr
      clear hc hy hp
      have M := fun W hb => cloneGone_any a1 n1 d1 y W (HRW.out.kept hb) hnl hn1
      unfold gov at M
      go_wp2_with fail
      refine (M _ ((Below.refl _ _).alloc (Nat.le_refl _) _)).mono ?_
      rintro e w2 ⟨a2, cc2, rfl, ho2, hc2, hb2⟩
      have hbz : Below wr.heap.size wr (wr.alloc (.cells #[.slice a1 n1 d1, .int .i64 y.ser, .int .i64 y.tm, .int .i64 y.rs] 63)) := (Below.refl _ _).alloc (Nat.le_refl _) _
      have hb2r : Below wr.heap.size wr w2 := hbz.trans (hb2.mono hbz.size)
      have B2 : Below w.heap.size w w2 := hbr.trans (hb2r.mono hws)
      have hw2 := B2.size
      obtain ⟨sl, hps, hcn⟩ := HO.out
      have HAP : Hid (∀ j, j < k → ∀ g, (sl j).1 = some ⟨g, 0, none⟩ → a2 ≠ some ⟨g, 0, none⟩) := by
        intro j hj g h1 h2
        have e1 := (ownsRow_in (hps.each j hj) g h1).2
        have e2 := (ownsRow_in ho2 g h2).1
        have e3 := hbz.size
        omega
      have hal : Below w2.heap.size w2 (w2.alloc (.cells #[.slice a2 n1 cc2, .int .i64 y.ser, .int .i64 y.tm, .int .i64 y.rs] 63)) := (Below.refl _ _).alloc (Nat.le_refl _) _
      have HQ3 : Hid (EachQ w.heap.size (w2.alloc (.cells #[.slice a2 n1 cc2, .int .i64 y.ser, .int .i64 y.tm, .int .i64 y.rs] 63)) ao k cc xs sl) := (hps.below hb2r).below hal
      have HON : Hid ((w2.alloc (.cells #[.slice a2 n1 cc2, .int .i64 y.ser, .int .i64 y.tm, .int .i64 y.rs] 63)).ownsRow w.heap.size 107 2 (.slice a2 n1 cc2) n1 (flPt (xs.getD k default).parts)) := by
        show World.ownsRow _ _ _ _ _ _ _
        rw [← HY.out]
        exact ownsRow_below (ownsRow_lower ho2 (by have := hbz.size; omega)) hal
      have B6 : Below w.heap.size w (w2.alloc (.cells #[.slice a2 n1 cc2, .int .i64 y.ser, .int .i64 y.tm, .int .i64 y.rs] 63)) := B2.trans (hal.mono B2.size)
      have HCN : Hid (∀ j, j < k → (sl j).2.1 = (xs.getD j default).parts.length) := hcn
      have HAPP : Hid (∀ a7 c7 w7, w7.ownsRow w.heap.size 63 4 (.slice a7 (k + 1) c7) (k + 1) (flG xs sl k ++ [.slice a2 n1 cc2, .int .i64 y.ser, .int .i64 y.tm, .int .i64 y.rs]) → (w2.alloc (.cells #[.slice a2 n1 cc2, .int .i64 y.ser, .int .i64 y.tm, .int .i64 y.rs] 63)).grownBy w7 (Value.slice ao k cc).ownBlock → (∃ sl, EachQ w.heap.size w7 a7 (k + 1) c7 xs sl ∧ ∀ j, j < k + 1 → (sl j).2.1 = (xs.getD j default).parts.length) ∧ Below w.heap.size w w7) := by
        intro a7 c7 w7 hv7 hg7
        rw [HY.out] at hv7
        refine ⟨⟨_, HQ3.out.appended HON.out HAP.out hv7 hg7, fun j hj => ?_⟩, B6.grown hg7 B6.size (fun kx hx => (HQ3.out.row.lt kx hx).1)⟩
        by_cases e : j = k
        · simp only [if_pos e]
          rw [e, ← HY.out]
          exact HPL.out.symm
        · simp only [if_neg e]
          exact HCN.out j (by omega)
      clear c0 c1 c2 c3 ho2 hb2 hb2r B2 hal hbz hps hcn HO M
      go_wp2_with (at_builtin; refine wpList_append_own _ rfl (.tmp 14) (.tmp 18) 34 rfl w.heap.size 63 i0 _ 4 48 Tryd.underlying34 hi hz0 hz1 hz2 rfl (by decide) _ k _ rfl HQ3.out.row ⟨w2.heap.size, 0, none⟩ 1 1 [.slice a2 n1 cc2, .int .i64 y.ser, .int .i64 y.tm, .int .i64 y.rs] rfl rfl (World.news_of_block (heap_alloc_new w2 (.cells #[.slice a2 n1 cc2, .int .i64 y.ser, .int .i64 y.tm, .int .i64 y.rs] 63))) (by intro u hu; simp only [List.mem_cons, List.not_mem_nil, or_false] at hu; rcases hu with rfl | rfl | rfl | rfl <;> rfl) (by unfold maxLen; omega) (by omega) (by simp; omega) ?_; intro v7 w7 hv7 hg7 hs7; obtain ⟨g7, c7, rfl⟩ := ownsRow_succG hv7; have HN7 := HAPP.out _ c7 w7 hv7 hg7; have HO7 : Hid (_) := HN7.1; have B7 := HN7.2; clear hv7 hg7 hs7 HN7 HAPP HQ3 HON)
      go_roundw
      case rel => exact ⟨k + 1, _, c7, by omega, by go_num, rfl, HO7, B7⟩
      case measure => simp [intOf]; omega
    · obtain rfl : k = n := by omega
      go_wp2
      go_ret
      obtain ⟨sl, h1, h2⟩ := HO.out
      exact ⟨ao, cc, sl, rfl, h1, h2, hbr⟩

end Go.Proofs.YtbfjkmlmnhphoaaDoor

set_option linter.unusedVariables false
namespace Go.Proofs.YtbfjkmlmnhphoaaDoor
open Go.RowKit Go.Sort

theorem flG_len (xs : List GP) (sl : Nat → Sl) : ∀ k, (flG xs sl k).length = k * 4 := by
  intro k
  induction k with
  | zero => rfl
  | succ k ih => simp only [flG, List.length_append, ih, List.length_cons, List.length_nil]; omega
theorem flG_get (xs : List GP) (sl : Nat → Sl) : ∀ n j, j < n → (flG xs sl n)[j * 4]? = some (.slice (sl j).1 (sl j).2.1 (sl j).2.2) ∧ (flG xs sl n)[j * 4 + 1]? = some (.int .i64 (xs.getD j default).ser) ∧ (flG xs sl n)[j * 4 + 2]? = some (.int .i64 (xs.getD j default).tm) ∧ (flG xs sl n)[j * 4 + 3]? = some (.int .i64 (xs.getD j default).rs) := by
  intro n
  induction n with
  | zero => intro j hj; omega
  | succ n ih =>
    intro j hj
    have hl := flG_len xs sl n
    simp only [flG]
    by_cases e : j = n
    · subst e
      refine ⟨?_, ?_, ?_, ?_⟩
      · rw [List.getElem?_append_right (by omega), hl, Nat.sub_self]; rfl
      · rw [List.getElem?_append_right (by omega), hl, show j * 4 + 1 - j * 4 = 1 by omega]; rfl
      · rw [List.getElem?_append_right (by omega), hl, show j * 4 + 2 - j * 4 = 2 by omega]; rfl
      · rw [List.getElem?_append_right (by omega), hl, show j * 4 + 3 - j * 4 = 3 by omega]; rfl
    · obtain ⟨h0, h1, h2, h3⟩ := ih j (by omega)
      refine ⟨?_, ?_, ?_, ?_⟩
      · rw [List.getElem?_append_left (by omega)]; exact h0
      · rw [List.getElem?_append_left (by omega)]; exact h1
      · rw [List.getElem?_append_left (by omega)]; exact h2
      · rw [List.getElem?_append_left (by omega)]; exact h3

/-- The clone of the entries is ours, to be marked. -/
theorem EachQ.own {B : Nat} {w : World} {a : Option Addr} {n c : Nat} {xs : List GP} {sl : Nat → Sl} (h : EachQ B w a n c xs sl) : OwnQ B w a n c sl (fun j => flPt (xs.getD j default).parts) (flG xs sl n) := by
  refine ⟨h.row, fun j hj => (flG_get xs sl n j hj).1, fun j hj _ => h.each j hj, fun i j hi hj hne hpi hpj e => ?_⟩
  obtain ⟨g, hg, _, _⟩ := ownsRow_shape (h.each i hi) hpi
  rcases Nat.lt_or_gt_of_ne hne with q | q
  · exact h.apart i j q hj g hg (e ▸ hg)
  · exact h.apart j i q hi g (e ▸ hg) hg
/-- And it says what the entries say. -/
theorem EachQ.gns {B : Nat} {w : World} {a : Option Addr} {n c : Nat} {xs : List GP} {sl : Nat → Sl} (h : EachQ B w a n c xs sl) (hl : xs.length = n) (hn : n ≤ 1048576) (hp : ∀ j, j < n → (sl j).2.1 = (xs.getD j default).parts.length) (hz : ∀ j, j < n → GpOk (xs.getD j default)) : Gns w a n xs := by
  refine ⟨hl, by omega, fun k hk => ?_⟩
  obtain ⟨g, rfl, _, hg⟩ := ownsRow_shape h.row (by omega)
  obtain ⟨f0, f1, f2, f3⟩ := flG_get xs sl n k hk
  have hzk := hz k hk
  have e := hp k hk
  refine ⟨g, 0, (sl k).1, (sl k).2.1, (sl k).2.2, rfl, hg, ⟨?_, ?_, ?_, ?_⟩, pts_of_row (h.each k hk) e.symm (by have := hzk.1; omega) (fun i hi => Nat.le_trans (hzk.2 i (by omega)) (by omega))⟩
  · rw [Nat.zero_add]; exact (h.row.cellAt (k * 4) (by omega)).trans f0
  · rw [Nat.zero_add]; exact (h.row.cellAt (k * 4 + 1) (by omega)).trans f1
  · rw [Nat.zero_add]; exact (h.row.cellAt (k * 4 + 2) (by omega)).trans f2
  · rw [Nat.zero_add]; exact (h.row.cellAt (k * 4 + 3) (by omega)).trans f3

/-- A list's clone: its name, its entries, its signature are ours and lie apart. -/
theorem cloned_of {B : Nat} {w : World} {a1 : Option Addr} {n1 c1 : Nat} {a2 : Option Addr} {n2 c2 : Nat} {a3 : Option Addr} {n3 c3 : Nat} {x : CP} {sl : Nat → Sl} (h1 : w.ownsRow B 107 2 (.slice a1 n1 c1) n1 (flPt x.parts)) (h2 : EachQ B w a2 n2 c2 x.ents sl) (h3 : Own B w a3 n3 c3 x.sig) (hp : ∀ j, j < n2 → (sl j).2.1 = (x.ents.getD j default).parts.length) (l1 : x.parts.length = n1) (l2 : x.ents.length = n2) (hr : Row w a3 n3 x.sig) (hz : CpOk n1 n2 n3 x)
    (ha : ∀ j, j < n2 → ∀ g, (sl j).1 = some ⟨g, 0, none⟩ → a1 ≠ some ⟨g, 0, none⟩) : Crs w a1 n1 a2 n2 a3 n3 x ∧ OwnC B w a1 n1 c1 a2 n2 c2 a3 n3 c3 (flPt x.parts) sl (fun j => flPt (x.ents.getD j default).parts) (flG x.ents sl n2) x.sig := by
  obtain ⟨z1, z2, z3, z4, z5⟩ := hz
  refine ⟨⟨pts_of_row h1 l1 (by omega) (fun k hk => Nat.le_trans (z2 k hk) (by omega)), h2.gns l2 z3 hp z4, hr, by omega⟩, ⟨fun _ => h1, h2.own, h3, fun j hj hq hs e => ?_⟩⟩
  obtain ⟨g, hg, _, _⟩ := ownsRow_shape h1 hq
  exact ha j hj g (e ▸ hg) hg

end Go.Proofs.YtbfjkmlmnhphoaaDoor
