import Derived.Test.YtoncodoimnideaaGreatDoorH1
namespace Go.Proofs.YtoncodoimnideaaGreatDoor
open Go.RowKit

set_option maxRecDepth 10000 in
set_option maxHeartbeats 1000000 in
theorem labelOk_any (s : ByteArray) (w : World) (hs : s.size ≤ 1048576) : Calls Tryz.prog 31 #[.string s] w (SaysW (labP s) w) := by
  go_enter Tryz.func31, Tryz.ntmps31
  go_wp2_with fail
  refine (wordLabel_any s _ hs).mono ?_
  rintro e w1 ⟨b, rfl, HV, rfl⟩
  cases b with
  | false =>
    have HN : Hid (¬ labP s) := fun h => Bool.false_ne_true (HV.out.2 ⟨h.1, h.2.2⟩)
    clear HV
    go_wp2
    go_ret
    exact saysW_f HN.out
  | true =>
    have hV := HV.out.1 rfl
    have HO : Hid ((1 ≤ s.size ∧ s.size ≤ 20) ∧ allB labB s s.size) := hV
    obtain ⟨⟨h1, h2⟩, _⟩ := hV
    obtain ⟨m, hm⟩ : ∃ m : Nat, s.size = m + 1 := ⟨s.size - 1, by omega⟩
    have h0 : 0 < s.size := by omega
    have hl : m < s.size := by omega
    have x0 := cAt_get s 0 h0
    have x1 := cAt_get s m hl
    have HM : Hid (s.size - 1 = m) := by show _ = _; omega
    have e1 : (s.size : Int) - 1 = (m : Int) := by omega
    clear HV
    by_cases c0 : (s[0].toNat : Int) = 45
    · have HN : Hid (¬ labP s) := fun h => h.2.1.1 (by rw [x0]; exact c0)
      have z0 : ((s[0].toNat : Int) != 45) = false := by simp [c0]
      clear c0 x0 x1 hm
      go_wp2
      go_ret
      exact saysW_f HN.out
    · have z0 : ((s[0].toNat : Int) != 45) = true := bne_iff_ne.2 c0
      by_cases c1 : (s[m].toNat : Int) = 45
      · have HN : Hid (¬ labP s) := fun h => h.2.1.2 (by rw [HM.out, x1]; exact c1)
        have z1 : ((s[m].toNat : Int) != 45) = false := by simp [c1]
        clear c0 c1 x0 x1 hm
        go_wp2
        go_ret
        exact saysW_f HN.out
      · have HN : Hid (labP s) := ⟨HO.out.1, ⟨by rw [x0]; exact c0, by rw [HM.out, x1]; exact c1⟩, HO.out.2⟩
        have z1 : ((s[m].toNat : Int) != 45) = true := bne_iff_ne.2 c1
        clear c0 c1 x0 x1 hm
        go_wp2
        go_ret
        exact saysW_t HN.out

end Go.Proofs.YtoncodoimnideaaGreatDoor
