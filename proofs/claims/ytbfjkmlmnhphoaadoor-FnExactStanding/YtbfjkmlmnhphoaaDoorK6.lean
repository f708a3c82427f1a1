import Derived.Test.YtbfjkmlmnhphoaaDoorK5
namespace Go.Proofs.YtbfjkmlmnhphoaaDoor
open Go.RowKit

set_option maxRecDepth 10000 in
set_option maxHeartbeats 4000000 in
theorem eqCrl_same (a1 : Option Addr) (n1 c1 : Nat) (a2 : Option Addr) (n2 c2 : Nat) (a3 : Option Addr) (n3 c3 : Nat) (b1 : Option Addr) (d1 : Nat) (b2 : Option Addr) (d2 : Nat) (b3 : Option Addr) (d3 : Nat) (x : CP) (w : World) (h : Crs w a1 n1 a2 n2 a3 n3 x) (h2 : Crs w b1 n1 b2 n2 b3 n3 x) (hm : n3 ≤ 1048576) :
    Calls Tryd.prog 11 #[crv a1 n1 c1 a2 n2 c2 a3 n3 c3 x, crv b1 n1 d1 b2 n2 d2 b3 n3 d3 x] w fun e w' => e = .returned (.bool true) ∧ Below w.heap.size w w' := by
  have H1 : Hid (Crs w a1 n1 a2 n2 a3 n3 x) := h
  have H2 : Hid (Crs w b1 n1 b2 n2 b3 n3 x) := h2
  clear h h2
  unfold crv
  obtain ⟨W0, hW0⟩ : ∃ W0, W0 = ((w.alloc (.cells #[.slice a1 n1 c1, .int .i64 x.num, .int .i64 x.base, .int .i64 x.tm, .int .i64 x.next, .int .i64 x.scope, .bool x.ind, .slice a2 n2 c2, .slice a3 n3 c3] 36)).alloc (.cells #[.slice b1 n1 d1, .int .i64 x.num, .int .i64 x.base, .int .i64 x.tm, .int .i64 x.next, .int .i64 x.scope, .bool x.ind, .slice b2 n2 d2, .slice b3 n3 d3] 36)) := ⟨_, rfl⟩
  have hbl : Below w.heap.size w W0 := by rw [hW0]; exact ((Below.refl _ _).alloc (Nat.le_refl _) _).alloc (by simp) _
  have b0 := two_blocks w (.cells #[.slice a1 n1 c1, .int .i64 x.num, .int .i64 x.base, .int .i64 x.tm, .int .i64 x.next, .int .i64 x.scope, .bool x.ind, .slice a2 n2 c2, .slice a3 n3 c3] 36) (.cells #[.slice b1 n1 d1, .int .i64 x.num, .int .i64 x.base, .int .i64 x.tm, .int .i64 x.next, .int .i64 x.scope, .bool x.ind, .slice b2 n2 d2, .slice b3 n3 d3] 36)
  rw [← hW0] at b0
  have t1 : (x.num != x.num) = false := by simp
  have t2 : (x.base != x.base) = false := by simp
  have t3 : (x.tm != x.tm) = false := by simp
  have t4 : (x.next != x.next) = false := by simp
  have t5 : (x.scope != x.scope) = false := by simp
  have t6 : (x.ind != x.ind) = false := by simp
  go_enter Tryd.func11, Tryd.ntmps11
  go_wp2_with fail
  rw [← hW0]
  clear hW0
  refine (eqName_same a1 b1 n1 c1 d1 x.parts _ (H1.out.kept hbl).nm (H2.out.kept hbl).nm).mono ?_
  rintro e w1 ⟨rfl, hb1⟩
  have l0 := (Array.getElem?_eq_some_iff.1 b0.2).1
  have y0 := (hb1.block _ (by omega)).trans b0.1
  have y1 := (hb1.block _ l0).trans b0.2
  have p1 : w1.cell? ⟨w.heap.size, 1, none⟩ = some (.int .i64 x.num) := (cell_of_row _ _ 1 _ 36 (0, 0) y0).trans rfl
  have q1 : w1.cell? ⟨w.heap.size + 1, 1, none⟩ = some (.int .i64 x.num) := (cell_of_row _ _ 1 _ 36 (0, 0) y1).trans rfl
  have p2 : w1.cell? ⟨w.heap.size, 2, none⟩ = some (.int .i64 x.base) := (cell_of_row _ _ 2 _ 36 (0, 0) y0).trans rfl
  have q2 : w1.cell? ⟨w.heap.size + 1, 2, none⟩ = some (.int .i64 x.base) := (cell_of_row _ _ 2 _ 36 (0, 0) y1).trans rfl
  have p3 : w1.cell? ⟨w.heap.size, 3, none⟩ = some (.int .i64 x.tm) := (cell_of_row _ _ 3 _ 36 (0, 0) y0).trans rfl
  have q3 : w1.cell? ⟨w.heap.size + 1, 3, none⟩ = some (.int .i64 x.tm) := (cell_of_row _ _ 3 _ 36 (0, 0) y1).trans rfl
  have p4 : w1.cell? ⟨w.heap.size, 4, none⟩ = some (.int .i64 x.next) := (cell_of_row _ _ 4 _ 36 (0, 0) y0).trans rfl
  have q4 : w1.cell? ⟨w.heap.size + 1, 4, none⟩ = some (.int .i64 x.next) := (cell_of_row _ _ 4 _ 36 (0, 0) y1).trans rfl
  have p5 : w1.cell? ⟨w.heap.size, 5, none⟩ = some (.int .i64 x.scope) := (cell_of_row _ _ 5 _ 36 (0, 0) y0).trans rfl
  have q5 : w1.cell? ⟨w.heap.size + 1, 5, none⟩ = some (.int .i64 x.scope) := (cell_of_row _ _ 5 _ 36 (0, 0) y1).trans rfl
  have p6 : w1.cell? ⟨w.heap.size, 6, none⟩ = some (.bool x.ind) := (cell_of_row _ _ 6 _ 36 (0, 0) y0).trans rfl
  have q6 : w1.cell? ⟨w.heap.size + 1, 6, none⟩ = some (.bool x.ind) := (cell_of_row _ _ 6 _ 36 (0, 0) y1).trans rfl
  have p7 : w1.cell? ⟨w.heap.size, 7, none⟩ = some (.slice a2 n2 c2) := (cell_of_row _ _ 7 _ 36 (0, 0) y0).trans rfl
  have q7 : w1.cell? ⟨w.heap.size + 1, 7, none⟩ = some (.slice b2 n2 d2) := (cell_of_row _ _ 7 _ 36 (0, 0) y1).trans rfl
  have HB1 : Hid (Below w.heap.size w w1) := hbl.trans (hb1.mono hbl.size)
  have Y0 : Hid (_ = _) := y0
  have Y1 : Hid (_ = _) := y1
  have l1 : w.heap.size + 1 < w1.heap.size := (Array.getElem?_eq_some_iff.1 y1).1
  clear hb1 hbl b0 y0 y1 l0
  go_wp2_with fail
  refine (eqGoneS_same a2 b2 n2 c2 d2 x.ents _ (H1.out.kept HB1.out).en (H2.out.kept HB1.out).en).mono ?_
  rintro e w2 ⟨rfl, hb2⟩
  have y0 := (hb2.block _ (by omega)).trans Y0.out
  have y1 := (hb2.block _ l1).trans Y1.out
  clear p1 p2 p3 p4 p5 p6 p7 q1 q2 q3 q4 q5 q6 q7
  have p8 : w2.cell? ⟨w.heap.size, 8, none⟩ = some (.slice a3 n3 c3) := (cell_of_row _ _ 8 _ 36 (0, 0) y0).trans rfl
  have q8 : w2.cell? ⟨w.heap.size + 1, 8, none⟩ = some (.slice b3 n3 d3) := (cell_of_row _ _ 8 _ 36 (0, 0) y1).trans rfl
  have HB2 : Hid (Below w.heap.size w w2) := HB1.out.trans (hb2.mono HB1.out.size)
  clear hb2 y0 y1 Y0 Y1 HB1
  go_wp2_with fail
  refine (eqByteS_any a3 b3 n3 n3 c3 d3 x.sig x.sig _ (H1.out.kept HB2.out).sg (H2.out.kept HB2.out).sg (by unfold maxLen; omega) (by unfold maxLen; omega)).mono ?_
  rintro e w3 ⟨rfl, hb3⟩
  have HB3 : Hid (Below w.heap.size w w3) := HB2.out.trans (hb3.mono HB2.out.size)
  rw [decide_eq_true (rfl : x.sig = x.sig)]
  clear hb3 HB2 p8 q8
  go_wp2
  go_ret
  exact ⟨rfl, HB3.out⟩

end Go.Proofs.YtbfjkmlmnhphoaaDoor
