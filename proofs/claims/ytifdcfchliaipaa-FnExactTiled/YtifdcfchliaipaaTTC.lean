import Derived.Test.YtifdcfchliaipaaTTB
namespace Go.Proofs.Ytifdcfchliaipaa
open Go.RowKit

end Go.Proofs.Ytifdcfchliaipaa
