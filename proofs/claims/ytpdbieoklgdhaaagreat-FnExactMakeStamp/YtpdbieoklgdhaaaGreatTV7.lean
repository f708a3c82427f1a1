import Derived.Test.YtpdbieoklgdhaaaGreatTV6
namespace Go.Proofs.YtpdbieoklgdhaaaGreat
open Go.RowKit

end Go.Proofs.YtpdbieoklgdhaaaGreat
