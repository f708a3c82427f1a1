import Derived.Test.YthncodopdcmfiaaMG2
import Derived.Test.YthncodopdcmfiaaMG4
namespace Go.Proofs.Ythncodopdcmfiaa
open Go.RowKit Go.Sort

theorem growAny : GrowAny := fun m n own old a l c ps w h0 h1 h2 h3 h4 h5 h6 h7 => grow_any n m n own old a l c ps w (Nat.le_refl _) h0 h1 h2 h3 h4 h5 h6 h7

end Go.Proofs.Ythncodopdcmfiaa

