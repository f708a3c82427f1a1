import Derived.Test.YtglpbgebcpijaaaGreatFS1
import Derived.Test.YtglpbgebcpijaaaGreatERP
namespace Go.Proofs.YtglpbgebcpijaaaGreat
open Go.RowKit

structure RoP where
  ks : List (Int × Int × Int)
  need : Int
  deriving Inhabited
def PuW (ks : List (Int × Int × Int)) : Prop := ∀ j, (ks.getD j (0, 0, 0)).1 ≤ 9223372036854775807 ∧ (ks.getD j (0, 0, 0)).2.2 ≤ 9223372036854775807
theorem OwnPu.touch5 {B lo hi : Nat} {w w' : World} {a : Option Addr} {n cap : Nat} {ps : List (Int × Int × Int)} (h : OwnPu B w a n cap ps) (ht : Touch lo hi w w') (hd : hi ≤ B) : OwnPu B w' a n cap ps := by
  refine ⟨⟨h.row.1, ?_⟩, h.rng⟩
  rcases h.row.2 with h0 | ⟨g, cap', cur, hv, hb, hh, rest⟩
  · exact .inl h0
  · exact .inr ⟨g, cap', cur, hv, hb, (ht.block g (Array.getElem?_eq_some_iff.1 hh).1 (.inr (by omega))).trans hh, rest⟩

set_option maxRecDepth 10000 in
set_option maxHeartbeats 1000000 in
theorem szRole_gen (x : RoP) (a : Option Addr) (n cap : Nat) (l : Int) (w : World) (hn : n ≤ 9223372036854775807) (h0 : 0 ≤ l) (h1 : l ≤ 1048576) :
    Calls Tryz.prog 85 #[.agg #[.slice a n cap, .int .i64 x.need], .int .i64 l] w fun e w' => ∃ r, e = .returned (.int .i64 r) ∧ (r < 0 ∨ (0 ≤ r ∧ r ≤ 1048576 ∧ n ≤ 1048576)) ∧ Below w.heap.size w w' := by
  have hbb : Below w.heap.size w (w.alloc (.cells #[.slice a n cap, .int .i64 x.need] 146)) := (Below.refl _ _).alloc (Nat.le_refl _) _
  go_enter Tryz.func85, Tryz.ntmps85
  go_wp2_with fail
  refine (szPuS_any a n cap l _ hn h0 h1).mono ?_
  rintro e w1 ⟨rfl, hw⟩
  have hw := hw.symm
  subst hw
  by_cases hneg : l < n
  · rw [if_pos hneg]
    go_wp2
    go_ret
    exact ⟨_, rfl, .inl (by decide), hbb⟩
  · rw [if_neg hneg]
    have hz : ¬ (l - (n : Int) < 0) := by omega
    go_wp2
    go_ret
    exact ⟨_, rfl, .inr ⟨by omega, by omega, by omega⟩, hbb⟩

theorem results_Ro {fn : Func} {t : Tmp} (h : fn.results = #[.cell t 113]) (tmps : Array Value) (g : Nat) (ht : tmps.getD t undef = .pointer (some ⟨g, 0, none⟩)) (w : World) (c0 c1 : Value)
    (hb : w.heap[g]? = some (.cells #[c0, c1] 113 (0, 0))) : (results fn tmps).run Tryz.prog w = .ok (.agg #[c0, c1]) w := by
  have d0 : w.cell? ⟨g, 0, none⟩ = some c0 := (cell_of_row _ g 0 _ 113 (0, 0) hb).trans rfl
  have d1 : w.cell? ⟨g, 1, none⟩ = some c1 := (cell_of_row _ g 1 _ 113 (0, 0) hb).trans rfl
  clear hb
  have ht' : tmps[t]?.getD undef = .pointer (some ⟨g, 0, none⟩) := by rw [← ht]; simp
  simp [results, h, go_sem, ht', d0, d1]
def putRo (w : World) (g o : Nat) (u0 u1 : Value) : World := (w.setCell ⟨g, o, none⟩ u0).setCell ⟨g, o + 1, none⟩ u1
theorem putRo_touch (w : World) (g o : Nat) (u0 u1 : Value) : Touch g (g + 1) w (putRo w g o u0 u1) := (touch_set1 w g _ u0).trans (touch_set1 _ g _ u1)
theorem putRo_heap {w : World} {g t : Nat} {c0 c1 : Value} (h : w.heap[g]? = some (.cells #[c0, c1] t (0, 0))) (u0 u1 : Value) : (putRo w g 0 u0 u1).heap[g]? = some (.cells #[u0, u1] t (0, 0)) :=
  heap_setCell_same _ _ 1 _ t _ (heap_setCell_same _ _ 0 _ t _ h)

set_option maxRecDepth 10000 in
set_option maxHeartbeats 4000000 in
theorem toRole_any (x : RoP) (a : Option Addr) (n c : Nat) (w : World) (h : RowPu w a n x.ks) (hn : n ≤ 1048576) :
    Calls Tryz.prog 94 #[.agg #[.slice a n c, .int .i64 x.need]] w fun e w' => ∃ a1, e = .returned (.agg #[.slice a1 n n, .int .i64 x.need]) ∧ OwnPu w.heap.size w' a1 n n x.ks ∧ Below w.heap.size w w' := by
  obtain ⟨w1, hw1⟩ : ∃ w1, w1 = ((w.alloc (.cells #[.slice a n c, .int .i64 x.need] 146)).alloc (.cells #[.slice none 0 0, .int .i64 0] 113)).alloc (.cells #[.slice none 0 0, .int .i64 0] 113) := ⟨_, rfl⟩
  have hbb : Below w.heap.size w w1 := by rw [hw1]; exact (((Below.refl _ _).alloc (Nat.le_refl _) _).alloc (by simp) _).alloc (by simp; omega) _
  have hsz : w1.heap.size = w.heap.size + 3 := by rw [hw1]; simp
  obtain ⟨B0, B1, B2⟩ := heap_alloc2_newH w (.cells #[.slice a n c, .int .i64 x.need] 146) (.cells #[.slice none 0 0, .int .i64 0] 113) (.cells #[.slice none 0 0, .int .i64 0] 113)
  rw [← hw1] at B0 B1 B2
  have HW : Hid (_ = _) := hw1
  have HE : Hid (RowPu w a n x.ks) := h
  clear hw1 h
  have l0 : w1.cell? ⟨w.heap.size, 0, none⟩ = some (.slice a n c) := (cell_of_row _ _ 0 _ 146 (0, 0) B0).trans rfl
  go_enter Tryz.func94, Tryz.ntmps94
  go_upto_region 2 with fail
  rw [← HW.out]
  clear HW
  go_wp2_with fail
  refine (toPuS_any a n c x.ks _ (HE.out.kept hbb) (by omega)).mono ?_
  rintro e w2 ⟨a1, rfl, hr1, hb2⟩
  clear l0
  have B02 := (hb2.block _ (by omega)).trans B0
  have B12 := (hb2.block _ (by omega)).trans B1
  have B22 := (hb2.block _ (by omega)).trans B2
  have l1 : w2.cell? ⟨w.heap.size, 1, none⟩ = some (.int .i64 x.need) := (cell_of_row _ _ 1 _ 146 (0, 0) B02).trans rfl
  have x0 : w2.cell? ⟨w.heap.size + 1 + 1, 0, none⟩ = some (.slice none 0 0) := (cell_of_row _ _ 0 _ 113 (0, 0) B22).trans rfl
  have x1 : w2.cell? ⟨w.heap.size + 1 + 1, 1, none⟩ = some (.int .i64 0) := (cell_of_row _ _ 1 _ 113 (0, 0) B22).trans rfl
  have y0 : w2.frozen? ⟨w.heap.size + 1 + 1, 0, none⟩ = false := frozen_of_row w2 _ 0 _ 113 B22
  have y1 : w2.frozen? ⟨w.heap.size + 1 + 1, 1, none⟩ = false := frozen_of_row w2 _ 1 _ 113 B22
  have r0 : w2.cell? ⟨w.heap.size + 1, 0, none⟩ = some (.slice none 0 0) := (cell_of_row _ _ 0 _ 113 (0, 0) B12).trans rfl
  have f0 : w2.frozen? ⟨w.heap.size + 1, 0, none⟩ = false := frozen_of_row w2 _ 0 _ 113 B12
  have r1 : w2.cell? ⟨w.heap.size + 1, 1, none⟩ = some (.int .i64 0) := (cell_of_row _ _ 1 _ 113 (0, 0) B12).trans rfl
  have f1 : w2.frozen? ⟨w.heap.size + 1, 1, none⟩ = false := frozen_of_row w2 _ 1 _ 113 B12
  have HD1 : Hid (_ = _) := B12
  have HR2 : Hid (OwnPu w1.heap.size w2 a1 n n x.ks) := hr1
  have HB2 : Hid (Below w.heap.size w w2) := keepT hbb hb2
  have hs2 := hb2.size
  clear hr1 hb2 B02 B12 B22 B0 B1 B2
  go_wp2_with fail
  try simp only [Exit.inBlock, Exit.then]
  have T1 : Touch (w.heap.size + 1) (w.heap.size + 3) w2 (putRo w2 (w.heap.size + 1 + 1) 0 (.slice a1 n n) (.int .i64 x.need)) := (putRo_touch w2 (w.heap.size + 1 + 1) 0 _ _).mono (by omega) (by omega)
  have T2 : Touch (w.heap.size + 1) (w.heap.size + 3) w2 (putRo (putRo w2 (w.heap.size + 1 + 1) 0 (.slice a1 n n) (.int .i64 x.need)) (w.heap.size + 1) 0 (.slice a1 n n) (.int .i64 x.need)) := T1.trans ((putRo_touch _ (w.heap.size + 1) 0 _ _).mono (by omega) (by omega))
  refine bodyPost_ret (results_Ro rfl _ (w.heap.size + 1) rfl _ _ _ (putRo_heap ((Below.heap_setCell _ _ _ _ (by simp)).trans ((Below.heap_setCell _ _ _ _ (by simp)).trans HD1.out)) _ _)) rfl ⟨_, rfl, ?_, ?_⟩
  · exact (HR2.out.touch5 T2 (by omega)).mono (by omega)
  · exact HB2.out.trans (T2.below (by omega) (by omega))

set_option maxRecDepth 10000 in
set_option maxHeartbeats 2000000 in
theorem eqRole_same (x : RoP) (a b : Option Addr) (n ca cb : Nat) (w : World) (h : RowPu w a n x.ks) (h2 : RowPu w b n x.ks) (hn : n ≤ maxLen) :
    Calls Tryz.prog 97 #[.agg #[.slice a n ca, .int .i64 x.need], .agg #[.slice b n cb, .int .i64 x.need]] w fun e w' => e = .returned (.bool true) ∧ Below w.heap.size w w' := by
  obtain ⟨w1, hw1⟩ : ∃ w1, w1 = (w.alloc (.cells #[.slice a n ca, .int .i64 x.need] 113)).alloc (.cells #[.slice b n cb, .int .i64 x.need] 113) := ⟨_, rfl⟩
  have hbb : Below w.heap.size w w1 := by rw [hw1]; exact ((Below.refl _ _).alloc (Nat.le_refl _) _).alloc (by simp) _
  have HA : Hid (RowPu w1 a n x.ks) := h.kept hbb
  have HB : Hid (RowPu w1 b n x.ks) := h2.kept hbb
  have s1 : (w.alloc (.cells #[.slice a n ca, .int .i64 x.need] 113)).heap.size = w.heap.size + 1 := by simp
  have B0 : w1.heap[w.heap.size]? = some (.cells #[.slice a n ca, .int .i64 x.need] 113 (0, 0)) := by rw [hw1]; exact (alloc_oldT _ _ _ (by simp)).trans (heap_alloc_new w _)
  have B1 : w1.heap[w.heap.size + 1]? = some (.cells #[.slice b n cb, .int .i64 x.need] 113 (0, 0)) := by rw [hw1, ← s1]; exact heap_alloc_new _ _
  have HB0 : Hid (_ = _) := B0
  have HB1 : Hid (_ = _) := B1
  have x0 : w1.cell? ⟨w.heap.size, 0, none⟩ = some (.slice a n ca) := (cell_of_row _ _ 0 _ 113 (0, 0) B0).trans rfl
  have y0 : w1.cell? ⟨w.heap.size + 1, 0, none⟩ = some (.slice b n cb) := (cell_of_row _ _ 0 _ 113 (0, 0) B1).trans rfl
  have z0 : (x.need != x.need) = false := by simp
  have HW : Hid (_ = _) := hw1
  clear hw1 s1 B0 B1 h h2
  go_enter Tryz.func97, Tryz.ntmps97
  go_upto_region 1 with fail
  rw [← HW.out]
  clear HW
  go_wp2_with fail
  refine (eqPuS_same a b n ca cb x.ks _ HA.out HB.out hn).mono ?_
  rintro e w2 ⟨rfl, hb2⟩
  clear x0 y0
  have x1 : w2.cell? ⟨w.heap.size, 1, none⟩ = some (.int .i64 x.need) := (cell_of_row _ _ 1 _ 113 (0, 0) (below_kept HB0.out hb2)).trans rfl
  have y1 : w2.cell? ⟨w.heap.size + 1, 1, none⟩ = some (.int .i64 x.need) := (cell_of_row _ _ 1 _ 113 (0, 0) (below_kept HB1.out hb2)).trans rfl
  go_wp2
  go_ret
  exact ⟨rfl, keepT hbb hb2⟩

end Go.Proofs.YtglpbgebcpijaaaGreat
