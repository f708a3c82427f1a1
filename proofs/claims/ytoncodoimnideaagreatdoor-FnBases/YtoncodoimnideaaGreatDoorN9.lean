import Derived.Test.YtoncodoimnideaaGreatDoorN8
namespace Go.Proofs.YtoncodoimnideaaGreatDoor
open Go.RowKit

def sameP (xs ys : List PT) : Prop := xs.length = ys.length ∧ underP xs ys

end Go.Proofs.YtoncodoimnideaaGreatDoor
