import Derived.Test.YtkngnmnfkedfcaaGreatTTA
namespace Go.Proofs.YtkngnmnfkedfcaaGreat
open Go.RowKit

def rootN (seed h : Int) : Int := (lev (leavesN seed (2 ^ h.toNat)) h.toNat).getD 0 0
def rootR (seed h next : Int) : Int × Bool := if kP h next then (rootN seed h, true) else (0, false)
def pairU (t : Int × Bool) : Value := .tuple #[.int .u64 t.1, .bool t.2]

end Go.Proofs.YtkngnmnfkedfcaaGreat
