import Derived.Test.YtoldngiclmidaaaGreatDoorN8
namespace Go.Proofs.YtoldngiclmidaaaGreatDoor
open Go.RowKit

def sameP (xs ys : List PT) : Prop := xs.length = ys.length ∧ underP xs ys

end Go.Proofs.YtoldngiclmidaaaGreatDoor
