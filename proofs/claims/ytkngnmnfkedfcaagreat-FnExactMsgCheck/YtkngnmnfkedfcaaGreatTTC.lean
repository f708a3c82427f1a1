import Derived.Test.YtkngnmnfkedfcaaGreatTTB
namespace Go.Proofs.YtkngnmnfkedfcaaGreat
open Go.RowKit

end Go.Proofs.YtkngnmnfkedfcaaGreat
