import Derived.Test.YtifdcfchliaipaaTV7
namespace Go.Proofs.Ytifdcfchliaipaa
open Go.RowKit

end Go.Proofs.Ytifdcfchliaipaa
