import Derived.Test.YtkngnmnfkedfcaaGreatTT9
import Derived.Test.YtkngnmnfkedfcaaGreatGB
namespace Go.Proofs.YtkngnmnfkedfcaaGreat
open Go.RowKit

theorem below_dn {B : Nat} {w w' : World} (h : Below B w w') (n : Nat) : Below B w (w'.drewN n) := by
  induction n with
  | zero => simpa [World.drewN] using h
  | succ n ih => exact ih.drew
def kP (h n : Int) : Prop := (0 ≤ h ∧ h ≤ 5) ∧ (0 ≤ n ∧ n ≤ ((2 ^ h.toNat : Nat) : Int))
instance (h n : Int) : Decidable (kP h n) := by unfold kP; infer_instance

end Go.Proofs.YtkngnmnfkedfcaaGreat
