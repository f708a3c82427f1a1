import Derived.Test.YtkngnmnfkedfcaaGreatTT6
namespace Go.Proofs.YtkngnmnfkedfcaaGreat
open Go.RowKit

end Go.Proofs.YtkngnmnfkedfcaaGreat
