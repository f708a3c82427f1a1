import Derived.Test.YthncodopdcmfiaaTV6
namespace Go.Proofs.Ythncodopdcmfiaa
open Go.RowKit

end Go.Proofs.Ythncodopdcmfiaa
