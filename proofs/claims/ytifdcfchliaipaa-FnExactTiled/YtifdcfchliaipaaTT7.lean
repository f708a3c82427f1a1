import Derived.Test.YtifdcfchliaipaaTT6
namespace Go.Proofs.Ytifdcfchliaipaa
open Go.RowKit

end Go.Proofs.Ytifdcfchliaipaa
