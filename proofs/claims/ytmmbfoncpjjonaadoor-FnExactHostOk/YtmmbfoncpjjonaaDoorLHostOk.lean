import Derived.Test.YtmmbfoncpjjonaaDoorH7
namespace Go.Proofs.YtmmbfoncpjjonaaDoor
open Go.RowKit

theorem two_say {P : Prop} {b c : Bool} (h1 : b = true ↔ P) (h2 : c = true ↔ P) : b = c := by
  cases b <;> cases c <;> simp_all

set_option maxHeartbeats 1000000 in
theorem lawHostOk_walk (s : ByteArray) (hs : s.size ≤ maxLen) (wild : Bool) (w : World) (hm : MaxW w) :
    Calls Tryd.prog 3 #[.string s, .bool wild] w fun e w' => e = .returned (.bool true) ∧ Below w.heap.size w w' := by
  unfold maxLen at hs
  by_cases hbig : 1048576 < s.size
  · go_enter Tryd.func3, Tryd.ntmps3
    go_wp2
    go_ret
    exact ⟨rfl, Below.refl _ _⟩
  · have HM : Hid (MaxW w) := hm
    clear hm
    go_enter Tryd.func3, Tryd.ntmps3
    go_wp2_with fail
    refine (specHostOk_any s wild _).mono ?_
    rintro e w1 ⟨b1, rfl, HV1, hb1⟩
    go_wp2_with fail
    refine (implHostOk_any s wild _ (HM.out.kept hb1)).mono ?_
    rintro e w2 ⟨b2, rfl, HV2, hb2⟩
    have e1 := two_say HV1.out HV2.out
    subst e1
    clear HV1 HV2
    have t1 : (b1 != b1) = false := by simp
    go_wp2_with fail
    go_ret
    exact ⟨rfl, hb1.trans (hb2.mono hb1.size)⟩

end Go.Proofs.YtmmbfoncpjjonaaDoor
