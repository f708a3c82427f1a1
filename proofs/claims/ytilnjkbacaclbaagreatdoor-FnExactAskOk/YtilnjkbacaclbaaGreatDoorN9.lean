import Derived.Test.YtilnjkbacaclbaaGreatDoorN8
namespace Go.Proofs.YtilnjkbacaclbaaGreatDoor
open Go.RowKit

def sameP (xs ys : List PT) : Prop := xs.length = ys.length ∧ underP xs ys

end Go.Proofs.YtilnjkbacaclbaaGreatDoor
