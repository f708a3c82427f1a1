import Derived.Test.YtjkkokjojaknkaaDoorWWk
import Derived.Deep.RegionWith
namespace Go.Proofs.YtjkkokjojaknkaaDoor
open Go.RowKit

end Go.Proofs.YtjkkokjojaknkaaDoor
