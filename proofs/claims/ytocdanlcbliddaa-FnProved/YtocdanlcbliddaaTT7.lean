import Derived.Test.YtocdanlcbliddaaTT6
namespace Go.Proofs.Ytocdanlcbliddaa
open Go.RowKit

end Go.Proofs.Ytocdanlcbliddaa
