import Derived.Test.YtflioloegppnmaaTTB
namespace Go.Proofs.Ytflioloegppnmaa
open Go.RowKit

end Go.Proofs.Ytflioloegppnmaa
