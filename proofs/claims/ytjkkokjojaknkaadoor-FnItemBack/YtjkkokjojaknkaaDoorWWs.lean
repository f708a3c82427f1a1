import Derived.Test.YtjkkokjojaknkaaDoorFM
import Derived.Deep.RegionWith
namespace Go.Proofs.YtjkkokjojaknkaaDoor
open Go.RowKit

end Go.Proofs.YtjkkokjojaknkaaDoor
