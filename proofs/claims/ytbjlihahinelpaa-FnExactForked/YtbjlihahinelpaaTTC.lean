import Derived.Test.YtbjlihahinelpaaTTB
namespace Go.Proofs.Ytbjlihahinelpaa
open Go.RowKit

end Go.Proofs.Ytbjlihahinelpaa
