import Derived.Test.YtocdanlcbliddaaTTC
namespace Go.Proofs.Ytocdanlcbliddaa
open Go.RowKit

end Go.Proofs.Ytocdanlcbliddaa
