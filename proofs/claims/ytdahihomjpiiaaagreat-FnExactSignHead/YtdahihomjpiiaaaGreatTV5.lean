import Derived.Test.YtdahihomjpiiaaaGreatTV4
namespace Go.Proofs.YtdahihomjpiiaaaGreat
open Go.RowKit

end Go.Proofs.YtdahihomjpiiaaaGreat
