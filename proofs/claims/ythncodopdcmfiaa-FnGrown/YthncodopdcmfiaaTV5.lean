import Derived.Test.YthncodopdcmfiaaTV4
namespace Go.Proofs.Ythncodopdcmfiaa
open Go.RowKit

end Go.Proofs.Ythncodopdcmfiaa
