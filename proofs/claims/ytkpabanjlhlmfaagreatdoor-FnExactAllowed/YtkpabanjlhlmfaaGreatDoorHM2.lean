import Derived.Test.YtkpabanjlhlmfaaGreatDoorHM1
namespace Go.Proofs.YtkpabanjlhlmfaaGreatDoor
open Go.RowKit

theorem toList_same (a b : ByteArray) : (a.toList == b.toList) = true ↔ a = b := by
  rw [ByteArray.toList_eq, ByteArray.toList_eq, beq_iff_eq]
  constructor
  · intro h
    have e := Lib.mk_data a
    rw [h, Lib.mk_data b] at e
    exact e.symm
  · intro h; rw [h]

end Go.Proofs.YtkpabanjlhlmfaaGreatDoor
