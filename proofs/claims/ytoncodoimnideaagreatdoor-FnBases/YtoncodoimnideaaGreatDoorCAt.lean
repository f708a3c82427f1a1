import Derived.Test.YtoncodoimnideaaGreatDoorBase
namespace Go.Proofs.YtoncodoimnideaaGreatDoor
open Go.RowKit

/-- The byte at a place of a text. -/
def cAt (s : ByteArray) (j : Nat) : Int := ((s.data.toList.getD j 0).toNat : Int)
theorem cAt_get (s : ByteArray) (j : Nat) (h : j < s.size) : cAt s j = (s[j].toNat : Int) := by
  have h' : j < s.data.toList.length := by simpa using h
  unfold cAt
  rw [List.getD_eq_getElem?_getD, List.getElem?_eq_getElem h']
  rfl
def SaysW (P : Prop) (w : World) (e : Ending) (w' : World) : Prop := ∃ b, e = .returned (.bool b) ∧ Hid (b = true ↔ P) ∧ w = w'
theorem saysW_t {P : Prop} {w : World} (h : P) : SaysW P w (.returned (.bool true)) w := ⟨true, rfl, ⟨fun _ => h, fun _ => rfl⟩, rfl⟩
theorem saysW_f {P : Prop} {w : World} (h : ¬ P) : SaysW P w (.returned (.bool false)) w := ⟨false, rfl, ⟨fun e => (by cases e), fun e => absurd e h⟩, rfl⟩

end Go.Proofs.YtoncodoimnideaaGreatDoor
