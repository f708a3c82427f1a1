import Derived.Test.YtbjlihahinelpaaTT6
namespace Go.Proofs.Ytbjlihahinelpaa
open Go.RowKit

end Go.Proofs.Ytbjlihahinelpaa
