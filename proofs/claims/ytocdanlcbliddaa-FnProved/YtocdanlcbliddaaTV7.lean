import Derived.Test.YtocdanlcbliddaaTV6
namespace Go.Proofs.Ytocdanlcbliddaa
open Go.RowKit

end Go.Proofs.Ytocdanlcbliddaa
