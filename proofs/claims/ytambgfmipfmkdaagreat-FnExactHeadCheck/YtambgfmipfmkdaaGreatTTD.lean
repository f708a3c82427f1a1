import Derived.Test.YtambgfmipfmkdaaGreatTTC
namespace Go.Proofs.YtambgfmipfmkdaaGreat
open Go.RowKit

end Go.Proofs.YtambgfmipfmkdaaGreat
