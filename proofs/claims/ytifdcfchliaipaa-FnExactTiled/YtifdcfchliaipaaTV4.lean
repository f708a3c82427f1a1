import Derived.Test.YtifdcfchliaipaaTV3
namespace Go.Proofs.Ytifdcfchliaipaa
open Go.RowKit

end Go.Proofs.Ytifdcfchliaipaa
