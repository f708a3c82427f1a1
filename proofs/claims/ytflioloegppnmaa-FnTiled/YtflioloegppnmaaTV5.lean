import Derived.Test.YtflioloegppnmaaTV4
namespace Go.Proofs.Ytflioloegppnmaa
open Go.RowKit

end Go.Proofs.Ytflioloegppnmaa
