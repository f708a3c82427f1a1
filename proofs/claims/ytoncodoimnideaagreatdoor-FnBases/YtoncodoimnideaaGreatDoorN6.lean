import Derived.Test.YtoncodoimnideaaGreatDoorN5
import Derived.Deep.RegionHeldLaw
namespace Go.Proofs.YtoncodoimnideaaGreatDoor
open Go.RowKit

/-- A text's Fold, as a text. -/
def FS (s : ByteArray) : ByteArray := strOfNums (foldL s)
def ptf (x : PT) : PT := ⟨x.attr, FS x.val⟩

/-- A variable that holds a part. -/
structure BoxP (t g : Nat) (W : World) (x : PT) : Prop where
  heap : W.heap[g]? = some (.cells #[.int .i64 x.attr, .string x.val] t (0, 0))
theorem BoxP.cells {t g : Nat} {W : World} {x : PT} (h : BoxP t g W x) : Cells2 W g 0 x := ⟨(cell_of_row _ g 0 _ t (0, 0) h.heap).trans rfl, (cell_of_row _ g 1 _ t (0, 0) h.heap).trans rfl⟩
theorem BoxP.kept {t g : Nat} {W W' : World} {x : PT} (h : BoxP t g W x) (hb : Below W.heap.size W W') : BoxP t g W' x := ⟨(hb.block _ (Array.getElem?_eq_some_iff.1 h.heap).1).trans h.heap⟩
theorem BoxP.lt {t g : Nat} {W : World} {x : PT} (h : BoxP t g W x) : g < W.heap.size := (Array.getElem?_eq_some_iff.1 h.heap).1
theorem BoxP.fr {t g : Nat} {W : World} {x : PT} (h : BoxP t g W x) (j : Nat) : W.frozen? ⟨g, j, none⟩ = false := frozen_of_row W g j _ t h.heap
theorem boxP_new (t : Nat) (w : World) (x : PT) : BoxP t w.heap.size (w.alloc (.cells #[.int .i64 x.attr, .string x.val] t)) x := ⟨heap_alloc_new w _⟩
theorem BoxN.lt {t g : Nat} {W : World} {a : Option Addr} {n c : Nat} (h : BoxN t g W a n c) : g < W.heap.size := (Array.getElem?_eq_some_iff.1 h.heap).1
theorem two_below (w : World) (o0 o1 : Obj) : Below w.heap.size w ((w.alloc o0).alloc o1) := ((Below.refl _ _).alloc (Nat.le_refl _) _).alloc (by simp) _
theorem two_blocks (w : World) (o0 o1 : Obj) : ((w.alloc o0).alloc o1).heap[w.heap.size]? = some o0 ∧ ((w.alloc o0).alloc o1).heap[w.heap.size + 1]? = some o1 := by
  have s1 : (w.alloc o0).heap.size = w.heap.size + 1 := by simp
  exact ⟨(alloc_old' _ o1 _ (by omega)).trans (heap_alloc_new w o0), by rw [← s1]; exact heap_alloc_new _ o1⟩

theorem drew_below' {W w1 : World} (h : Below W.drew.heap.size W.drew w1) : Below W.heap.size W w1 := (Below.refl _ _).drew.trans (h.mono (by simp))
theorem fold_after {w W0 w1 : World} {x : PT} (t : ByteArray) (hB0 : Below w.heap.size w W0) (X0 : BoxP 80 w.heap.size W0 x) (R0 : BoxP 80 (w.heap.size + 1) W0 ⟨0, { data := #[] }⟩) (D1 : Below W0.heap.size W0 w1) :
    w1.frozen? ⟨w.heap.size + 1, 0, none⟩ = false ∧ w1.frozen? ⟨w.heap.size + 1, 1, none⟩ = false ∧ w1.cell? ⟨w.heap.size + 1, 0, none⟩ = some (.int .i64 0) ∧ w1.cell? ⟨w.heap.size + 1, 1, none⟩ = some (.string { data := #[] }) ∧ BoxP 80 w.heap.size w1 x ∧ BoxP 80 w.heap.size ((w1.setCell ⟨w.heap.size + 1, 0, none⟩ (.int .i64 x.attr)).setCell ⟨w.heap.size + 1, 1, none⟩ (.string t)) x ∧
    ((w1.setCell ⟨w.heap.size + 1, 0, none⟩ (.int .i64 x.attr)).setCell ⟨w.heap.size + 1, 1, none⟩ (.string t)).heap[w.heap.size + 1]? = some (.cells #[.int .i64 x.attr, .string t] 80 (0, 0)) ∧ Below w.heap.size w ((w1.setCell ⟨w.heap.size + 1, 0, none⟩ (.int .i64 x.attr)).setCell ⟨w.heap.size + 1, 1, none⟩ (.string t)) := by
  have X := X0.kept D1
  have R := R0.kept D1
  have q1 := heap_setCell_same _ (w.heap.size + 1) 0 _ 80 (.int .i64 x.attr) R.heap
  have q2 := heap_setCell_same _ (w.heap.size + 1) 1 _ 80 (.string t) q1
  have hB1 := hB0.trans (D1.mono hB0.size)
  exact ⟨R.fr 0, R.fr 1, R.cells.c0, R.cells.c1, X, ⟨((heap_setCell_other _ _ _ _ (by simp)).trans (heap_setCell_other _ _ _ _ (by simp))).trans X.heap⟩, q2, (hB1.setCell (by simp) _).setCell (by simp) _⟩

set_option maxRecDepth 10000 in
set_option maxHeartbeats 2000000 in
theorem folded_any (x : PT) (w : World) (hs : x.val.size ≤ 1048576) :
    Calls Tryz.prog 101 #[ptv x] w fun e w' => e = .returned (ptv (ptf x)) ∧ Below w.heap.size w w' := by
  obtain ⟨W0, hW0⟩ : ∃ W0, W0 = ((w.alloc (.cells #[.int .i64 x.attr, .string x.val] 80)).alloc (.cells #[.int .i64 0, .string { data := #[] }] 80)) := ⟨_, rfl⟩
  have hB0 : Below w.heap.size w W0 := by rw [hW0]; exact two_below _ _ _
  have hS0 : W0.heap.size = w.heap.size + 1 + 1 := by rw [hW0]; simp
  have b0 := two_blocks w (.cells #[.int .i64 x.attr, .string x.val] 80) (.cells #[.int .i64 0, .string { data := #[] }] 80)
  rw [← hW0] at b0
  have BX : BoxP 80 w.heap.size W0 x := ⟨b0.1⟩
  have BR : BoxP 80 (w.heap.size + 1) W0 ⟨0, { data := #[] }⟩ := ⟨b0.2⟩
  have HSX : Hid (∀ w', BoxP 80 w.heap.size w' x → (fun w' => w'.cell? ⟨w.heap.size, 0, none⟩ = some (.int .i64 x.attr) ∧ w'.cell? ⟨w.heap.size, 1, none⟩ = some (.string x.val)) w') := fun w' X => ⟨X.cells.c0, X.cells.c1⟩
  have SS := HSX.out _ BX
  have FX : Hid (_ ∧ _) := ⟨BX, BR⟩
  clear b0 BX BR
  obtain ⟨t, ht⟩ : ∃ t, t = FS x.val := ⟨_, rfl⟩
  have HT : Hid (t = FS x.val) := ht
  clear ht
  unfold ptv
  go_enter Tryz.func101, Tryz.ntmps101
  go_upto_region 1 with fail
  rw [← hW0]
  clear hW0
  go_region_held_law (fun w' => w'.cell? ⟨w.heap.size, 0, none⟩ = some (.int .i64 x.attr) ∧ w'.cell? ⟨w.heap.size, 1, none⟩ = some (.string x.val)) (first | assumption | exact SS | exact SS1 | exact SS2)
    ((go_at_call 106; refine (implFold_any x.val _ hs).mono ?_; rintro e w1 ⟨rfl, hb_w1⟩; rw [show strOfNums (foldL x.val) = t from HT.out.symm]; obtain ⟨f0, f1, z0, z1, X, Y, q2, hB2⟩ := fold_after t hB0 FX.out.1 FX.out.2 (drew_below' hb_w1); have SS1 := HSX.out _ X; have SS2 := HSX.out _ Y; have F2 : Hid (_ ∧ _) := ⟨q2, hB2⟩; clear hb_w1 X Y q2 hB2))
  all_goals (
    go_wp2
    try simp only [Exit.inBlock, Exit.then]
    exact bodyPost_ret (results_pt rfl _ (w.heap.size + 1) rfl _ _ _ F2.out.1) rfl ⟨by unfold ptf; rw [← HT.out], F2.out.2⟩)

end Go.Proofs.YtoncodoimnideaaGreatDoor
