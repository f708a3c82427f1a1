import Derived.Test.YtcgmcdelgfemkaaW1W2
import Derived.Test.YtcgmcdelgfemkaaTouch
namespace Go.Proofs.Ytcgmcdelgfemkaa
open Go.RowKit

theorem Touch.refl (lo hi : Nat) (w : World) : Touch lo hi w w := ⟨rfl, rfl, rfl, Nat.le_refl _, fun _ _ _ => rfl⟩

end Go.Proofs.Ytcgmcdelgfemkaa
