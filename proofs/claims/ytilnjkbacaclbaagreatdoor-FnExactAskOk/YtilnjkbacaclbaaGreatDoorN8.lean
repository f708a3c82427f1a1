import Derived.Test.YtilnjkbacaclbaaGreatDoorN7
import Derived.BigQuiet
import Derived.Deep.QuietTactic
namespace Go.Proofs.YtilnjkbacaclbaaGreatDoor
open Go.RowKit

theorem below_drewN' {B : Nat} {w w' : World} (h : Below B w w') (n : Nat) : Below B w (w'.drewN n) := by
  induction n with
  | zero => simpa [World.drewN] using h
  | succ n ih => exact ih.drew

end Go.Proofs.YtilnjkbacaclbaaGreatDoor
