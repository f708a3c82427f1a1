import Derived.Test.YtmoekmonkpihhaaGreatTV6
namespace Go.Proofs.YtmoekmonkpihhaaGreat
open Go.RowKit

end Go.Proofs.YtmoekmonkpihhaaGreat
