import Derived.Test.YtmhijbcbckljmaaGreatTV4
namespace Go.Proofs.YtmhijbcbckljmaaGreat
open Go.RowKit

end Go.Proofs.YtmhijbcbckljmaaGreat
