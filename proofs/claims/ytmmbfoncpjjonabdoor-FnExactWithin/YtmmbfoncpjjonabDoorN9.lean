import Derived.Test.YtmmbfoncpjjonabDoorN8
namespace Go.Proofs.YtmmbfoncpjjonabDoor
open Go.RowKit

def sameP (xs ys : List PT) : Prop := xs.length = ys.length ∧ underP xs ys

end Go.Proofs.YtmmbfoncpjjonabDoor
