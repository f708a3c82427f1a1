import Derived.Test.YtdahihomjpiiaaaGreatTV6
namespace Go.Proofs.YtdahihomjpiiaaaGreat
open Go.RowKit

end Go.Proofs.YtdahihomjpiiaaaGreat
