import Derived.Test.YtkngnmnfkedfcaaGreatTV6
namespace Go.Proofs.YtkngnmnfkedfcaaGreat
open Go.RowKit

end Go.Proofs.YtkngnmnfkedfcaaGreat
