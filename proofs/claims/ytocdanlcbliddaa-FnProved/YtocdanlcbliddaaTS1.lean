import Derived.Test.YtocdanlcbliddaaTV7
namespace Go.Proofs.Ytocdanlcbliddaa
open Go.RowKit

end Go.Proofs.Ytocdanlcbliddaa
