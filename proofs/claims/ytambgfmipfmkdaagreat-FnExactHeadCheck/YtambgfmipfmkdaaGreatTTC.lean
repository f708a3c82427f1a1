import Derived.Test.YtambgfmipfmkdaaGreatTTB
namespace Go.Proofs.YtambgfmipfmkdaaGreat
open Go.RowKit

end Go.Proofs.YtambgfmipfmkdaaGreat
