import Derived.Test.YtgaheamgkaipnaaTV6
namespace Go.Proofs.Ytgaheamgkaipnaa
open Go.RowKit

end Go.Proofs.Ytgaheamgkaipnaa
