import Derived.Test.YthncodopdcmfiaaTV3
namespace Go.Proofs.Ythncodopdcmfiaa
open Go.RowKit

end Go.Proofs.Ythncodopdcmfiaa
