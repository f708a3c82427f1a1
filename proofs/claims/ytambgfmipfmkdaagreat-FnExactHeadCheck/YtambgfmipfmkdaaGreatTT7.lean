import Derived.Test.YtambgfmipfmkdaaGreatTT6
namespace Go.Proofs.YtambgfmipfmkdaaGreat
open Go.RowKit

end Go.Proofs.YtambgfmipfmkdaaGreat
