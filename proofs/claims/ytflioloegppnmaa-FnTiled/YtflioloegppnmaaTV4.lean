import Derived.Test.YtflioloegppnmaaTV3
namespace Go.Proofs.Ytflioloegppnmaa
open Go.RowKit

end Go.Proofs.Ytflioloegppnmaa
