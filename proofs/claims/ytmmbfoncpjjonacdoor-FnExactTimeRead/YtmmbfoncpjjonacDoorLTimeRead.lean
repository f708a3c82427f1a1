import Derived.Test.YtmmbfoncpjjonacDoorT5
import Derived.Test.YtmmbfoncpjjonacDoorT6
namespace Go.Proofs.YtmmbfoncpjjonacDoor
open Go.RowKit

set_option maxHeartbeats 1000000 in
theorem lawTimeRead_walk (s : ByteArray) (hs : s.size ≤ maxLen) (w : World) (hT : TabW w) :
    Calls Tryd.prog 3 #[.string s] w fun e w' => e = .returned (.bool true) ∧ Below w.heap.size w w' := by
  unfold maxLen at hs
  by_cases hbig : 1048576 < s.size
  · go_enter Tryd.func3, Tryd.ntmps3
    go_wp2
    go_ret
    exact ⟨rfl, Below.refl _ _⟩
  · have HT : Hid (TabW w) := hT
    clear hT
    go_enter Tryd.func3, Tryd.ntmps3
    go_wp2_with fail
    refine (specTimeRead_any s _).mono ?_
    rintro e w1 ⟨v1, ok1, rfl, hr1, hb1⟩
    have HR1 : Hid (timeR s v1 ok1) := hr1
    clear hr1
    go_wp2_with fail
    refine (implTimeRead_any s _ (HT.out.kept hb1)).mono ?_
    rintro e w2 ⟨v2, ok2, rfl, hr2, hb2⟩
    obtain ⟨e1, e2⟩ := timeR_one hr2 HR1.out
    subst e1
    subst e2
    clear hr2 HR1
    have t1 : (v2 != v2) = false := by simp
    have t2 : (ok2 != ok2) = false := by simp
    go_wp2_with fail
    go_ret
    exact ⟨rfl, hb1.trans (hb2.mono hb1.size)⟩

end Go.Proofs.YtmmbfoncpjjonacDoor
