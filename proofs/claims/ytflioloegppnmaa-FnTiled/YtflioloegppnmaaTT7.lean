import Derived.Test.YtflioloegppnmaaTT6
namespace Go.Proofs.Ytflioloegppnmaa
open Go.RowKit

end Go.Proofs.Ytflioloegppnmaa
