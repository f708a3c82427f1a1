import Derived.Test.YteemdeggdcoenaaTV6
namespace Go.Proofs.Yteemdeggdcoenaa
open Go.RowKit

end Go.Proofs.Yteemdeggdcoenaa
