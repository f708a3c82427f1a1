import Derived.Test.YtmhijbcbckljmaaGreatTV6
namespace Go.Proofs.YtmhijbcbckljmaaGreat
open Go.RowKit

end Go.Proofs.YtmhijbcbckljmaaGreat
