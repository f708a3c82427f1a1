import Derived.Test.YtgbjleapaioemaaGreatTV2
namespace Go.Proofs.YtgbjleapaioemaaGreat
open Go.RowKit

/-- The way up from a leaf's digest, by what stands beside it. -/
def climb (v : Int) (L : Nat) (ps : List Int) : Nat → Int
  | 0 => v
  | k + 1 => if L / 2 ^ k % 2 = 0 then hashD ndW [climb v L ps k, ps.getD k 0] else hashD ndW [ps.getD k 0, climb v L ps k]
theorem climb_bd (v : Int) (hv : U64 v) (L : Nat) (ps : List Int) (k : Nat) : U64 (climb v L ps k) := by
  cases k with
  | zero => exact hv
  | succ k => rw [climb]; split <;> exact hashD_bd _ _

end Go.Proofs.YtgbjleapaioemaaGreat
