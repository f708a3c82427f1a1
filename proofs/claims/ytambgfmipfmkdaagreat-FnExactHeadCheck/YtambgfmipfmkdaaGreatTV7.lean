import Derived.Test.YtambgfmipfmkdaaGreatTV6
namespace Go.Proofs.YtambgfmipfmkdaaGreat
open Go.RowKit

end Go.Proofs.YtambgfmipfmkdaaGreat
