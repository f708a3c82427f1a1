import Derived.Test.YtifdcfchliaipaaTV4
namespace Go.Proofs.Ytifdcfchliaipaa
open Go.RowKit

end Go.Proofs.Ytifdcfchliaipaa
