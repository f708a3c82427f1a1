import Derived.Test.YtbjlihahinelpaaTTC
namespace Go.Proofs.Ytbjlihahinelpaa
open Go.RowKit

end Go.Proofs.Ytbjlihahinelpaa
