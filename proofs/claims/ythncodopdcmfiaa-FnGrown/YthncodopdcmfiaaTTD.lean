import Derived.Test.YthncodopdcmfiaaTTC
namespace Go.Proofs.Ythncodopdcmfiaa
open Go.RowKit

end Go.Proofs.Ythncodopdcmfiaa
