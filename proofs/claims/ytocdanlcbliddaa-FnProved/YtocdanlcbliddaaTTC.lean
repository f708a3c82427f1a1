import Derived.Test.YtocdanlcbliddaaTTB
namespace Go.Proofs.Ytocdanlcbliddaa
open Go.RowKit

end Go.Proofs.Ytocdanlcbliddaa
