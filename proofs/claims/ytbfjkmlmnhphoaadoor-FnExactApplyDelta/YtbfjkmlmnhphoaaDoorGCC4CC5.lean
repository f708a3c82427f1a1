import Derived.Test.YtbfjkmlmnhphoaaDoorGCC2CC3
set_option linter.unusedVariables false
namespace Go.Proofs.YtbfjkmlmnhphoaaDoor
open Go.RowKit Go.Sort

set_option maxRecDepth 10000 in
set_option maxHeartbeats 4000000 in
theorem l10Copy_any (a1 : Option Addr) (n1 c1 : Nat) (a2 : Option Addr) (n2 c2 : Nat) (a3 : Option Addr) (n3 c3 : Nat) (x : CP) (w : World) (h : Crs w a1 n1 a2 n2 a3 n3 x) (hz : CpOk n1 n2 n3 x) (hn1 : a1 = none → c1 = 0) (hn3 : a3 = none → c3 = 0)
    (hc0 : ∀ k, k < n2 → ∀ b off an nn cn, a2 = some ⟨b, off, none⟩ → w.cell? ⟨b, off + k * 4, none⟩ = some (.slice an nn cn) → (an = none → cn = 0) ∧ nn ≤ 1048576) :
    Calls Tryd.prog 43 #[crv a1 n1 c1 a2 n2 c2 a3 n3 c3 x] w fun e w' => ∃ p1 d1 p2 d2 p3 d3, e = .returned (crv p1 n1 d1 p2 n2 d2 p3 n3 d3 x) ∧ CrsT w.heap.size w' p1 n1 p2 n2 p3 n3 x ∧ w'.ownsRow w.heap.size 107 2 (.slice p1 n1 d1) n1 (flPt x.parts) ∧ Below w.heap.size w w' := by
  obtain ⟨i5, hi5, hz50, hz51, hz52⟩ := info_parts Tryd.info5
  obtain ⟨w1, hw1⟩ : ∃ w1, w1 = (w.alloc (.cells #[.slice a1 n1 c1, .int .i64 x.num, .int .i64 x.base, .int .i64 x.tm, .int .i64 x.next, .int .i64 x.scope, .bool x.ind, .slice a2 n2 c2, .slice a3 n3 c3] 36)).alloc (.cells #[.slice none 0 0, .int .i64 0, .int .i64 0, .int .i64 0, .int .i64 0, .int .i64 0, .bool false, .slice none 0 0, .slice none 0 0] 36) := ⟨_, rfl⟩
  have hbb : Below w.heap.size w w1 := by rw [hw1]; exact ((Below.refl _ _).alloc (Nat.le_refl _) _).alloc (by simp) _
  have hB1 : w1.heap[w.heap.size]? = some (.cells #[.slice a1 n1 c1, .int .i64 x.num, .int .i64 x.base, .int .i64 x.tm, .int .i64 x.next, .int .i64 x.scope, .bool x.ind, .slice a2 n2 c2, .slice a3 n3 c3] 36 (0, 0)) ∧ w1.heap[w.heap.size + 1]? = some (.cells #[.slice none 0 0, .int .i64 0, .int .i64 0, .int .i64 0, .int .i64 0, .int .i64 0, .bool false, .slice none 0 0, .slice none 0 0] 36 (0, 0)) := by rw [hw1]; exact two_blocks w _ _
  have hs1 : w1.heap.size = w.heap.size + 2 := by rw [hw1]; simp
  have HZ : Hid (CpOk n1 n2 n3 x) := hz
  have HRK : Hid (∀ W, Below w.heap.size w W → Crs W a1 n1 a2 n2 a3 n3 x ∧ ∀ k, k < n2 → ∀ b off an nn cn, a2 = some ⟨b, off, none⟩ → W.cell? ⟨b, off + k * 4, none⟩ = some (.slice an nn cn) → (an = none → cn = 0) ∧ nn ≤ 1048576) := fun W hb2 => by
    refine ⟨h.kept hb2, fun k hk b off an nn cn e hc => hc0 k hk b off an nn cn e ?_⟩
    obtain ⟨b', off', _, _, _, e', hlt, _⟩ := h.en.get k hk
    rw [e] at e'
    simp only [Option.some.injEq, Addr.mk.injEq] at e'
    obtain ⟨rfl, _, _⟩ := e'
    rw [← hb2.cell (p := ⟨b, off + k * 4, none⟩) hlt]
    exact hc
  have HL : Hid (x.parts.length = n1 ∧ x.ents.length = n2) := ⟨h.nm.len, h.en.len⟩
  have HB1 : Hid (_ ∧ _) := hB1
  have HBW : Hid (Below w.heap.size w w1) := hbb
  have HW : Hid (_ = _) := hw1
  clear hw1 h hc0 hz hB1 hbb
  unfold crv
  go_enter Tryd.func43, Tryd.ntmps43
  go_upto_region 1 with fail
  rw [← HW.out]
  clear HW
  have x0 : w1.cell? ⟨w.heap.size, 0, none⟩ = some (.slice a1 n1 c1) := (cell_of_row _ _ 0 _ _ (0, 0) HB1.out.1).trans rfl
  go_wp2_with fail
  refine (l9CopyName_any a1 n1 c1 x.parts w1 (HRK.out _ HBW.out).1.nm hn1 HZ.out.1).mono ?_
  rintro e w2 ⟨p1, d1, rfl, ho1, hb2⟩
  have hbx2 := (hb2.block w.heap.size (by omega)).trans HB1.out.1
  have hbr2 := (hb2.block (w.heap.size + 1) (by omega)).trans HB1.out.2
  have x0 : w2.cell? ⟨w.heap.size, 0, none⟩ = some (.slice a1 n1 c1) := (cell_of_row _ _ 0 _ _ (0, 0) hbx2).trans rfl
  have f0 : w2.frozen? ⟨w.heap.size, 0, none⟩ = false := frozen_of_row w2 _ 0 _ _ hbx2
  obtain ⟨w3, hw3⟩ : ∃ w3, w3 = w2.setCell ⟨w.heap.size, 0, none⟩ (.slice p1 n1 d1) := ⟨_, rfl⟩
  have t3 : Touch w.heap.size (w.heap.size + 1) w2 w3 := by rw [hw3]; exact touch_setC _ _ _ _ (Nat.le_refl _) (Nat.lt_succ_self _)
  have hbx3 : w3.heap[w.heap.size]? = some (.cells #[.slice p1 n1 d1, .int .i64 x.num, .int .i64 x.base, .int .i64 x.tm, .int .i64 x.next, .int .i64 x.scope, .bool x.ind, .slice a2 n2 c2, .slice a3 n3 c3] 36 (0, 0)) := by rw [hw3]; exact (heap_setCell_same w2 w.heap.size 0 _ _ _ hbx2).trans rfl
  have hbr3 := (t3.block (w.heap.size + 1) (Array.getElem?_eq_some_iff.1 hbr2).1 (.inr (Nat.le_refl _))).trans hbr2
  have ho3 := owns_touchC ho1 t3 (by omega)
  have B2 := HBW.out.trans (hb2.mono HBW.out.size)
  have HB3 : Hid (Below w.heap.size w w3) := B2.trans (t3.below (Nat.le_refl _) B2.size)
  have hs3 : w.heap.size + 2 ≤ w3.heap.size := by have := hb2.size; have := t3.size; omega
  have HX3 : Hid (_ ∧ _) := ⟨hbx3, hbr3⟩
  have HO3 : Hid (_) := ho3
  have HW3 : Hid (_ = _) := hw3
  clear ho1 hb2 hbx2 hbr2 hw3 t3 hbx3 hbr3 ho3 B2
  go_upto_region 2 with fail
  rw [← HW3.out]
  clear HW3 x0 f0 HB1 HBW
  have x7 : w3.cell? ⟨w.heap.size, 7, none⟩ = some (.slice a2 n2 c2) := (cell_of_row _ _ 7 _ _ (0, 0) HX3.out.1).trans rfl
  go_wp2_with fail
  refine (l10Gones_any a2 n2 c2 x.ents w3 (HRK.out _ HB3.out).1.en HZ.out.2.2.1 (HRK.out _ HB3.out).2).mono ?_
  rintro e w4 ⟨p2, d2, sl, rfl, hE, hEl, hb4⟩
  have hbx4 := (hb4.block w.heap.size (by omega)).trans HX3.out.1
  have hbr4 := (hb4.block (w.heap.size + 1) (by omega)).trans HX3.out.2
  have x7 : w4.cell? ⟨w.heap.size, 7, none⟩ = some (.slice a2 n2 c2) := (cell_of_row _ _ 7 _ _ (0, 0) hbx4).trans rfl
  have f7 : w4.frozen? ⟨w.heap.size, 7, none⟩ = false := frozen_of_row w4 _ 7 _ _ hbx4
  obtain ⟨w5, hw5⟩ : ∃ w5, w5 = w4.setCell ⟨w.heap.size, 7, none⟩ (.slice p2 n2 d2) := ⟨_, rfl⟩
  have t5 : Touch w.heap.size (w.heap.size + 1) w4 w5 := by rw [hw5]; exact touch_setC _ _ _ _ (Nat.le_refl _) (Nat.lt_succ_self _)
  have hbx5 : w5.heap[w.heap.size]? = some (.cells #[.slice p1 n1 d1, .int .i64 x.num, .int .i64 x.base, .int .i64 x.tm, .int .i64 x.next, .int .i64 x.scope, .bool x.ind, .slice p2 n2 d2, .slice a3 n3 c3] 36 (0, 0)) := by rw [hw5]; exact (heap_setCell_same w4 w.heap.size 7 _ _ _ hbx4).trans rfl
  have hbr5 := (t5.block (w.heap.size + 1) (Array.getElem?_eq_some_iff.1 hbr4).1 (.inr (Nat.le_refl _))).trans hbr4
  have hap : ∀ j, j < n2 → ∀ g, (sl j).1 = some ⟨g, 0, none⟩ → p1 ≠ some ⟨g, 0, none⟩ := fun j hj g h1 h2 => by
    have e1 := (ownsRow_in (hE.each j hj) g h1).1
    have e2 := (ownsRow_in HO3.out g h2).2
    omega
  have B4 := HB3.out.trans (hb4.mono HB3.out.size)
  have HB5 : Hid (Below w.heap.size w w5) := B4.trans (t5.below (Nat.le_refl _) B4.size)
  have hs5 : w.heap.size + 2 ≤ w5.heap.size := by have := hb4.size; have := t5.size; omega
  have HX5 : Hid (_ ∧ _) := ⟨hbx5, hbr5⟩
  have HO5 : Hid (w5.ownsRow (w.heap.size + 2) 107 2 (.slice p1 n1 d1) n1 (flPt x.parts)) := owns_touchC (ownsRow_below (owns_monoC HO3.out (by omega)) hb4) t5 (by omega)
  have HE5 : Hid (EachQ (w.heap.size + 2) w5 p2 n2 d2 x.ents sl) := (hE.monoC hs3).touchC t5 (by omega)
  have HEL : Hid (_) := hEl
  have HAP : Hid (_) := hap
  have HW5 : Hid (_ = _) := hw5
  clear hb4 hbx4 hbr4 hw5 t5 hbx5 hbr5 B4 hE hEl hap HO3 HX3 HB3
  go_upto_region 3 with fail
  rw [← HW5.out]
  clear HW5 x7 f7
  have hal : Below w5.heap.size w5 (w5.alloc (.cells #[] 5)) := (Below.refl _ _).alloc (Nat.le_refl _) _
  have HO6 : Hid (Own w5.heap.size (w5.alloc (.cells #[] 5)) (some ⟨w5.heap.size, 0, none⟩) 0 0 []) := ⟨World.ownsRow_lit w5 #[] 0 (Nat.le_refl _) (by decide) rfl, by simp⟩
  have hbx6 := (hal.block w.heap.size (by omega)).trans HX5.out.1
  have x8 : w5.cell? ⟨w.heap.size, 8, none⟩ = some (.slice a3 n3 c3) := (cell_of_row _ _ 8 _ _ (0, 0) HX5.out.1).trans rfl
  have y8 : (w5.alloc (.cells #[] 5)).cell? ⟨w.heap.size, 8, none⟩ = some (.slice a3 n3 c3) := (cell_of_row _ _ 8 _ _ (0, 0) hbx6).trans rfl
  have HSG : Hid (Row (w5.alloc (.cells #[] 5)) a3 n3 x.sig) := (HRK.out _ HB5.out).1.sg.kept hal
  have HAL : Hid (Below w5.heap.size w5 (w5.alloc (.cells #[] 5))) := hal
  have hn3m := HZ.out.2.2.2.2
  clear hal hbx6
  go_upto_region 4 with (at_builtin; refine wpList_append_row _ rfl (.tmp 11) (.tmp 13) 26 rfl w5.heap.size i5 Tryd.underlying26 hi5 hz50 hz51 hz52 _ _ _ rfl HO6.out.row a3 n3 c3 x.sig rfl HSG.out hn3 (by omega) (by simp) ?_; intro v6 w6 hv6 hg6; obtain ⟨p3, d3, rfl, ho6⟩ := own_appended (xs := []) (ys := x.sig) hv6 HO6.out.byte HSG.out.byte; rw [Nat.zero_add] at ho6 ⊢; have hb6 := below_appended HAL.out HAL.out.size HO6.out.row hg6; have HF : Hid (_ ∧ _ ∧ _) := ⟨ho6, hb6, (hb6.block w.heap.size (by omega)).trans HX5.out.1⟩; have hbx7 := (hb6.block w.heap.size (by omega)).trans HX5.out.1; have z8 : w6.cell? ⟨w.heap.size, 8, none⟩ = some (.slice a3 n3 c3) := (cell_of_row _ _ 8 _ _ (0, 0) hbx7).trans rfl; have fz8 : w6.frozen? ⟨w.heap.size, 8, none⟩ = false := frozen_of_row w6 _ 8 _ _ hbx7; clear hv6 hg6 ho6 hb6 hbx7)
  obtain ⟨w7, hw7⟩ : ∃ w7, w7 = w6.setCell ⟨w.heap.size, 8, none⟩ (.slice p3 n3 d3) := ⟨_, rfl⟩
  have t7 : Touch w.heap.size (w.heap.size + 1) w6 w7 := by rw [hw7]; exact touch_setC _ _ _ _ (Nat.le_refl _) (Nat.lt_succ_self _)
  have hbx7 : w7.heap[w.heap.size]? = some (.cells #[.slice p1 n1 d1, .int .i64 x.num, .int .i64 x.base, .int .i64 x.tm, .int .i64 x.next, .int .i64 x.scope, .bool x.ind, .slice p2 n2 d2, .slice p3 n3 d3] 36 (0, 0)) := by rw [hw7]; exact (heap_setCell_same w6 w.heap.size 8 _ _ _ HF.out.2.2).trans rfl
  have hbr6 := (HF.out.2.1.block (w.heap.size + 1) (by omega)).trans HX5.out.2
  have hbr7 := (t7.block (w.heap.size + 1) (Array.getElem?_eq_some_iff.1 hbr6).1 (.inr (Nat.le_refl _))).trans hbr6
  have B6 := HB5.out.trans (HF.out.2.1.mono HB5.out.size)
  have HB7 : Hid (Below w.heap.size w w7) := B6.trans (t7.below (Nat.le_refl _) B6.size)
  have HX7 : Hid (w7.heap[w.heap.size]? = some (.cells #[.slice p1 n1 d1, .int .i64 x.num, .int .i64 x.base, .int .i64 x.tm, .int .i64 x.next, .int .i64 x.scope, .bool x.ind, .slice p2 n2 d2, .slice p3 n3 d3] 36 (0, 0)) ∧ w7.heap[w.heap.size + 1]? = some (.cells #[.slice none 0 0, .int .i64 0, .int .i64 0, .int .i64 0, .int .i64 0, .int .i64 0, .bool false, .slice none 0 0, .slice none 0 0] 36 (0, 0))) := ⟨hbx7, hbr7⟩
  have HN7 : Hid (w7.ownsRow (w.heap.size + 2) 107 2 (.slice p1 n1 d1) n1 (flPt x.parts) ∧ EachQ (w.heap.size + 2) w7 p2 n2 d2 x.ents sl ∧ Own (w.heap.size + 2) w7 p3 n3 d3 x.sig) := ⟨owns_touchC (ownsRow_below HO5.out HF.out.2.1) t7 (by omega), (HE5.out.below HF.out.2.1).touchC t7 (by omega), ⟨owns_touchC (owns_monoC HF.out.1.row hs5) t7 (by omega), HF.out.1.byte⟩⟩
  have HW7 : Hid (_ = _) := hw7
  rw [← hw7]
  clear hw7 t7 hbx7 hbr6 hbr7 B6 HF HO5 HE5 HX5 HB5 x8 y8 HW7
  go_wp2_with (first | (refine wpList_load_row rfl 36 _ rfl w.heap.size rfl 36 #[.slice p1 n1 d1, .int .i64 x.num, .int .i64 x.base, .int .i64 x.tm, .int .i64 x.next, .int .i64 x.scope, .bool x.ind, .slice p2 n2 d2, .slice p3 n3 d3] (0, 0) _ HX7.out.1 Tryd.underlying36 rfl infoSizeCrl ?_) | (refine wpList_store_rowTo rfl 36 _ _ rfl rfl (w.heap.size + 1) #[.slice p1 n1 d1, .int .i64 x.num, .int .i64 x.base, .int .i64 x.tm, .int .i64 x.next, .int .i64 x.scope, .bool x.ind, .slice p2 n2 d2, .slice p3 n3 d3] rfl rfl 36 #[.slice none 0 0, .int .i64 0, .int .i64 0, .int .i64 0, .int .i64 0, .int .i64 0, .bool false, .slice none 0 0, .slice none 0 0] HX7.out.2 infoSizeCrl rfl (by simp [Value.oneCell']) ?_))
  have q6 := setRow_heap w7 (w.heap.size + 1) _ #[.slice p1 n1 d1, .int .i64 x.num, .int .i64 x.base, .int .i64 x.tm, .int .i64 x.next, .int .i64 x.scope, .bool x.ind, .slice p2 n2 d2, .slice p3 n3 d3] 36 (0, 0) HX7.out.2
  have tt := setRow_touch w7 (w.heap.size + 1) #[.slice p1 n1 d1, .int .i64 x.num, .int .i64 x.base, .int .i64 x.tm, .int .i64 x.next, .int .i64 x.scope, .bool x.ind, .slice p2 n2 d2, .slice p3 n3 d3]
  try simp only [Exit.inBlock, Exit.then]
  have hown : Own (w.heap.size + 2) (w7.setRow (w.heap.size + 1) #[.slice p1 n1 d1, .int .i64 x.num, .int .i64 x.base, .int .i64 x.tm, .int .i64 x.next, .int .i64 x.scope, .bool x.ind, .slice p2 n2 d2, .slice p3 n3 d3]) p3 n3 d3 x.sig := ⟨owns_touchC HN7.out.2.2.row tt (by omega), HN7.out.2.2.byte⟩
  have hcl := cloned_of (owns_touchC HN7.out.1 tt (by omega)) (HN7.out.2.1.touchC tt (by omega)) hown HEL.out HL.out.1 HL.out.2 hown.toRow HZ.out HAP.out
  have hct : CrsT w.heap.size (w7.setRow (w.heap.size + 1) #[.slice p1 n1 d1, .int .i64 x.num, .int .i64 x.base, .int .i64 x.tm, .int .i64 x.next, .int .i64 x.scope, .bool x.ind, .slice p2 n2 d2, .slice p3 n3 d3]) p1 n1 p2 n2 p3 n3 x := fun W' lo hi t2 h3 => by
    have ho2 : Own (w.heap.size + 2) W' p3 n3 d3 x.sig := ⟨owns_touchC hown.row t2 (by omega), hown.byte⟩
    exact (cloned_of (owns_touchC (owns_touchC HN7.out.1 tt (by omega)) t2 (by omega)) ((HN7.out.2.1.touchC tt (by omega)).touchC t2 (by omega)) ho2 HEL.out HL.out.1 HL.out.2 ho2.toRow HZ.out HAP.out).1
  exact bodyPost_ret (results_cell_row (by rfl) _ _ (w.heap.size + 1) _ _ (0, 0) _ rfl q6 Tryd.underlying36 rfl infoSizeCrl) rfl ⟨p1, d1, p2, d2, p3, d3, rfl, hct, owns_monoC (owns_touchC HN7.out.1 tt (by omega)) (by omega), HB7.out.trans (tt.below (by omega) HB7.out.size)⟩

end Go.Proofs.YtbfjkmlmnhphoaaDoor

set_option linter.unusedVariables false
namespace Go.Proofs.YtbfjkmlmnhphoaaDoor
open Go.RowKit Go.Sort

/-- Where the first entry like y stands. -/
def AtP (xs : List GP) (y : GP) (v : Int) : Prop := (v = -1 ∧ ∀ k, k < xs.length → ¬ likeP (xs.getD k default) y) ∨ ∃ k : Nat, k < xs.length ∧ v = k ∧ likeP (xs.getD k default) y ∧ ∀ j, j < k → ¬ likeP (xs.getD j default) y

set_option maxRecDepth 10000 in
set_option maxHeartbeats 4000000 in
theorem l10At_any (a : Option Addr) (n c : Nat) (xs : List GP) (ae : Option Addr) (ne ce : Nat) (y : GP) (w : World) (h : Gns w a n xs) (hn : n ≤ 1048576) (hz : ∀ k, k < n → GpOk (xs.getD k default)) (he : Pts w ae ne y.parts) (hy : GpOk y) :
    Calls Tryd.prog 44 #[.slice a n c, gov ae ne ce y] w fun e w' => ∃ v : Int, e = .returned (.int .i64 v) ∧ Hid (AtP xs y v) ∧ Below w.heap.size w w' := by
  have H0 : Hid (Gns w a n xs) := h
  have HZ : Hid (∀ k, k < n → GpOk (xs.getD k default)) := hz
  have HE : Hid (Pts w ae ne y.parts) := he
  have HY : Hid (GpOk y) := hy
  have HL : Hid (xs.length = n) := h.len
  have hB1 : Below w.heap.size w (w.alloc (.cells #[.slice ae ne ce, .int .i64 y.ser, .int .i64 y.tm, .int .i64 y.rs] 63)) := (Below.refl _ _).alloc (Nat.le_refl _) _
  have HX : Hid ((w.alloc (.cells #[.slice ae ne ce, .int .i64 y.ser, .int .i64 y.tm, .int .i64 y.rs] 63)).heap[w.heap.size]? = some (.cells #[.slice ae ne ce, .int .i64 y.ser, .int .i64 y.tm, .int .i64 y.rs] 63 (0, 0))) := heap_alloc_new w _
  clear h hz he hy
  unfold gov
  go_enter Tryd.func44, Tryd.ntmps44
  go_wp2_with fail
  obtain ⟨W, hW⟩ : ∃ W, W = w.alloc (.cells #[.slice ae ne ce, .int .i64 y.ser, .int .i64 y.tm, .int .i64 y.rs] 63) := ⟨_, rfl⟩
  rw [← hW] at hB1 HX ⊢
  clear hW
  go_loopw [5] (fun i wr => ∃ k : Nat, k ≤ n ∧ i = .int .i64 k ∧ Hid (∀ j, j < k → ¬ likeP (xs.getD j default) y) ∧ Below W.heap.size W wr) (fun i _ => n - (intOf i).toNat)
  case atStart => exact ⟨0, Nat.zero_le _, rfl, (fun j hj => absurd hj (Nat.not_lt_zero _)), Below.refl _ _⟩
  case round =>
    obtain ⟨k, hk, rfl, hno, hbr⟩ := hrel
    have hws := hB1.size
    have hwr := hbr.size
    by_cases hlt : k < n
    · have hbw : Below w.heap.size w wr := hB1.trans (hbr.mono hws)
      obtain ⟨b, off, a1, n1, d1, rfl, hlb, hc, hp⟩ := H0.out.get k hlt
      have hzk := HZ.out k hlt
      obtain ⟨z, hz⟩ : ∃ z, z = xs.getD k default := ⟨_, rfl⟩
      rw [← hz] at hc hp hzk
      have HZZ : Hid (z = xs.getD k default) := hz
      obtain ⟨c0, c1, c2, c3⟩ := hc.of (w' := wr) (fun i => hbw.cell (p := ⟨b, i, none⟩) hlb)
      have hkni : (k : Int) < (n : Int) := by omega
      have hx := (hbr.block w.heap.size (Array.getElem?_eq_some_iff.1 HX.out).1).trans HX.out
      have e0 : wr.cell? ⟨w.heap.size, 0, none⟩ = some (.slice ae ne ce) := (cell_of_row _ _ 0 _ _ (0, 0) hx).trans rfl
      have e1 : wr.cell? ⟨w.heap.size, 1, none⟩ = some (.int .i64 y.ser) := (cell_of_row _ _ 1 _ _ (0, 0) hx).trans rfl
      have e2 : wr.cell? ⟨w.heap.size, 2, none⟩ = some (.int .i64 y.tm) := (cell_of_row _ _ 2 _ _ (0, 0) hx).trans rfl
      have e3 : wr.cell? ⟨w.heap.size, 3, none⟩ = some (.int .i64 y.rs) := (cell_of_row _ _ 3 _ _ (0, 0) hx).trans rfl
      have M := l10Like_any a1 n1 d1 z ae ne ce y wr.drew (hp.kept hbw.drew) (HE.out.kept hbw.drew) (fun k hk => hzk.2 k (by rw [hp.len]; exact hk)) (fun k hk => HY.out.2 k (by rw [HE.out.len]; exact hk))
      unfold gov at M
      have HM : Hid (_) := M
      clear hc hp hz hzk hx M
      go_upto_region 4 with fail
      go_cut [17] (fun c wx => ∃ b : Bool, c = .bool b ∧ Hid ((b = true ↔ likeP z y) ∧ Below W.heap.size W wx))
      case first =>
        go_region_with (go_at_call 32; refine Calls.mono HM.out ?_; rintro e w2 ⟨bq, rfl, hbq, hb2⟩)
        all_goals
          have b5 : Below W.heap.size W w2 := hbr.drew.trans (hb2.mono (by simpa using hwr))
          go_wp2_with fail
          go_meet
          exact ⟨bq, rfl, ⟨hbq.out, b5⟩⟩
      case rest =>
      obtain ⟨bq, rfl, hb⟩ := hcut
      obtain ⟨hb1, hb2⟩ := hb.out
      clear hb HM
      cases bq with
      | true =>
        have HL1 : Hid (likeP z y) := hb1.1 rfl
        clear hb1
        go_wp2
        go_ret
        exact ⟨k, rfl, .inr ⟨k, by rw [HL.out]; exact hlt, rfl, by rw [← HZZ.out]; exact HL1.out, hno.out⟩, hB1.trans (hb2.mono hws)⟩
      | false =>
        have HN : Hid (∀ j, j < k + 1 → ¬ likeP (xs.getD j default) y) := by
          intro j hj
          by_cases e : j = k
          · rw [e, ← HZZ.out]
            intro q
            exact absurd (hb1.2 q) (by decide)
          · exact hno.out j (by omega)
        clear hb1 hno
        go_wp2
        go_roundw
        case rel => exact ⟨k + 1, by omega, by go_num, HN, hb2⟩
        case measure => simp [intOf]; omega
    · have hkn : k = n := by omega
      have HN : Hid (AtP xs y (-1)) := .inl ⟨rfl, fun j hj => hno.out j (by rw [HL.out] at hj; omega)⟩
      clear hkn hno
      go_wp2
      go_ret
      exact ⟨-1, rfl, HN, hB1.trans (hbr.mono hws)⟩

open Classical in
/-- Why the second list does not follow the first. -/
noncomputable def fitV (x y : CP) : Int := if ¬ sameP x.parts y.parts ∨ x.scope ≠ y.scope ∨ x.ind ≠ y.ind then 2 else if y.num ≤ x.num then 3 else 0

end Go.Proofs.YtbfjkmlmnhphoaaDoor
