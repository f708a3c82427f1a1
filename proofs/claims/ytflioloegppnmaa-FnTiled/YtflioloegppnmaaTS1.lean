import Derived.Test.YtflioloegppnmaaTV7
namespace Go.Proofs.Ytflioloegppnmaa
open Go.RowKit

end Go.Proofs.Ytflioloegppnmaa
