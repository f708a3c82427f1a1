import Derived.Test.YtkpabanjlhlmfaaGreatDoorN7N8
namespace Go.Proofs.YtkpabanjlhlmfaaGreatDoor
open Go.RowKit

def sameP (xs ys : List PT) : Prop := xs.length = ys.length ∧ underP xs ys

end Go.Proofs.YtkpabanjlhlmfaaGreatDoor
