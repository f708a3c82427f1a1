import Derived.Test.YtkngnmnfkedfcaaGreatTTC
namespace Go.Proofs.YtkngnmnfkedfcaaGreat
open Go.RowKit

end Go.Proofs.YtkngnmnfkedfcaaGreat
