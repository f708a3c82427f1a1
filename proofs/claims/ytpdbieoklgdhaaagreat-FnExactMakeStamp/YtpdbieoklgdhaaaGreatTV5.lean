import Derived.Test.YtpdbieoklgdhaaaGreatTV4
namespace Go.Proofs.YtpdbieoklgdhaaaGreat
open Go.RowKit

end Go.Proofs.YtpdbieoklgdhaaaGreat
