import Derived.Test.YtoncodoimnideaaGreatDoorH7
namespace Go.Proofs.YtoncodoimnideaaGreatDoor
open Go.RowKit

theorem two_say {P : Prop} {b c : Bool} (h1 : b = true ↔ P) (h2 : c = true ↔ P) : b = c := by
  cases b <;> cases c <;> simp_all

end Go.Proofs.YtoncodoimnideaaGreatDoor
