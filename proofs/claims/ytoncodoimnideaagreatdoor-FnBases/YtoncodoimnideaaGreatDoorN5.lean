import Derived.Test.YtoncodoimnideaaGreatDoorN4
namespace Go.Proofs.YtoncodoimnideaaGreatDoor
open Go.RowKit

/-- A variable that holds a name. -/
structure BoxN (t g : Nat) (W : World) (a : Option Addr) (n c : Nat) : Prop where
  heap : W.heap[g]? = some (.cells #[.slice a n c] t (0, 0))
theorem BoxN.cell {t g : Nat} {W : World} {a : Option Addr} {n c : Nat} (h : BoxN t g W a n c) : W.cell? ⟨g, 0, none⟩ = some (.slice a n c) := (cell_of_row _ g 0 _ t (0, 0) h.heap).trans rfl
theorem BoxN.kept {t g : Nat} {W W' : World} {a : Option Addr} {n c : Nat} (h : BoxN t g W a n c) (hb : Below W.heap.size W W') : BoxN t g W' a n c := ⟨(hb.block _ (Array.getElem?_eq_some_iff.1 h.heap).1).trans h.heap⟩
theorem boxN_new (t : Nat) (w : World) (a : Option Addr) (n c : Nat) : BoxN t w.heap.size (w.alloc (.cells #[.slice a n c] t)) a n c := ⟨heap_alloc_new w _⟩

theorem says_one {P : Prop} {a b : Bool} (h : Hid (a = true ↔ P)) (k : Hid (b = true ↔ P)) : a = b := by
  have h2 := h.out.trans k.out.symm
  cases a <;> cases b <;> simp_all

end Go.Proofs.YtoncodoimnideaaGreatDoor
