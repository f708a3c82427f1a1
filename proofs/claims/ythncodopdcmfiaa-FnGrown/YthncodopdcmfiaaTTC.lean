import Derived.Test.YthncodopdcmfiaaTTB
namespace Go.Proofs.Ythncodopdcmfiaa
open Go.RowKit

end Go.Proofs.Ythncodopdcmfiaa
