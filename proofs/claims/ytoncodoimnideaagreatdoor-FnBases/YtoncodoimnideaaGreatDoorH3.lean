import Derived.Test.YtoncodoimnideaaGreatDoorH2
namespace Go.Proofs.YtoncodoimnideaaGreatDoor
open Go.RowKit

set_option maxRecDepth 10000 in
set_option maxHeartbeats 2000000 in
theorem l6Label_any (s : ByteArray) (w : World) : Calls Tryz.prog 38 #[.string s] w (SaysW (labP s) w) := by
  by_cases c1 : (s.size : Int) < 1
  · have HN : Hid (¬ labP s) := fun h => by have := h.1.1; omega
    go_enter Tryz.func38, Tryz.ntmps38
    go_wp2
    go_ret
    exact saysW_f HN.out
  by_cases c2 : 20 < (s.size : Int)
  · have HN : Hid (¬ labP s) := fun h => by have := h.1.2; omega
    go_enter Tryz.func38, Tryz.ntmps38
    go_wp2
    go_ret
    exact saysW_f HN.out
  obtain ⟨m, hm⟩ : ∃ m : Nat, s.size = m + 1 := ⟨s.size - 1, by omega⟩
  have h0 : 0 < s.size := by omega
  have hl : m < s.size := by omega
  have x0 := cAt_get s 0 h0
  have x1 := cAt_get s m hl
  have HM : Hid (s.size - 1 = m) := by show _ = _; omega
  have e1 : (s.size : Int) - 1 = (m : Int) := by omega
  clear hm
  by_cases c3 : (s[0].toNat : Int) = 45
  · have HN : Hid (¬ labP s) := fun h => h.2.1.1 (by rw [x0]; exact c3)
    have z0 : ((s[0].toNat : Int) == 45) = true := beq_iff_eq.2 c3
    clear c3 x0 x1
    go_enter Tryz.func38, Tryz.ntmps38
    go_wp2
    go_ret
    exact saysW_f HN.out
  have z0 : ((s[0].toNat : Int) == 45) = false := beq_false_of_ne c3
  by_cases c4 : (s[m].toNat : Int) = 45
  · have HN : Hid (¬ labP s) := fun h => h.2.1.2 (by rw [HM.out, x1]; exact c4)
    have z1 : ((s[m].toNat : Int) == 45) = true := beq_iff_eq.2 c4
    clear c3 c4 x0 x1
    go_enter Tryz.func38, Tryz.ntmps38
    go_wp2
    go_ret
    exact saysW_f HN.out
  have z1 : ((s[m].toNat : Int) == 45) = false := beq_false_of_ne c4
  have HO : Hid ((1 ≤ s.size ∧ s.size ≤ 20) ∧ (cAt s 0 ≠ 45 ∧ cAt s (s.size - 1) ≠ 45)) := ⟨⟨by omega, by omega⟩, by rw [x0]; exact c3, by rw [HM.out, x1]; exact c4⟩
  clear c3 c4 x0 x1
  go_enter Tryz.func38, Tryz.ntmps38
  go_wp2
  clear e1
  go_loopw [3] (fun i wr => ∃ k : Nat, k ≤ s.size ∧ i = .int .i64 k ∧ Hid (allB labB s k) ∧ w = wr) (fun i _ => s.size - (intOf i).toNat)
  case atStart => exact ⟨0, Nat.zero_le _, rfl, (fun j hj => absurd hj (Nat.not_lt_zero _)), rfl⟩
  case round =>
    obtain ⟨k, hk, rfl, HP, rfl⟩ := hrel
    by_cases hlt : k < s.size
    · have hx := cAt_get s k hlt
      have GOOD : Hid (labB (s[k].toNat : Int) → allB labB s (k + 1)) := fun h => allB_succ HP.out (by rw [hx]; exact h)
      have BAD : Hid (¬ labB (s[k].toNat : Int) → ¬ labP s) := fun h q => h (by rw [← hx]; exact q.2.2 k hlt)
      clear HP hx
      by_cases hb : labB (s[k].toNat : Int)
      · have HN : Hid (allB labB s (k + 1)) := GOOD.out hb
        have hc : (97 ≤ (s[k].toNat : Int) ∧ (s[k].toNat : Int) ≤ 122) ∨ ((s[k].toNat : Int) < 97 ∧ 48 ≤ (s[k].toNat : Int) ∧ (s[k].toNat : Int) ≤ 57) ∨ ((s[k].toNat : Int) < 97 ∧ (s[k].toNat : Int) < 48 ∧ ((s[k].toNat : Int) == 45) = true) := by
          rcases hb with (hb | hb) | hb
          · exact .inl hb
          · exact .inr (.inl ⟨by omega, hb.1, hb.2⟩)
          · exact .inr (.inr ⟨by omega, by omega, beq_iff_eq.2 hb⟩)
        clear GOOD BAD hb
        rcases hc with ⟨q1, q2⟩ | ⟨q1, q2, q3⟩ | ⟨q1, q2, q3⟩
        all_goals
          go_wp2
          go_roundw
          case rel => exact ⟨k + 1, by omega, by go_num, HN, by trivial⟩
          case measure => simp [intOf]; omega
      · have HN : Hid (¬ labP s) := BAD.out hb
        have z5 : ((s[k].toNat : Int) == 45) = false := beq_false_of_ne (fun h => hb (.inr h))
        have hc : (97 ≤ (s[k].toNat : Int) ∧ decide ((s[k].toNat : Int) ≤ 122) = false ∧ 48 ≤ (s[k].toNat : Int) ∧ decide ((s[k].toNat : Int) ≤ 57) = false) ∨ ((s[k].toNat : Int) < 97 ∧ 48 ≤ (s[k].toNat : Int) ∧ decide ((s[k].toNat : Int) ≤ 57) = false) ∨ ((s[k].toNat : Int) < 97 ∧ (s[k].toNat : Int) < 48) := by
          unfold labB wordB at hb
          by_cases q : 97 ≤ (s[k].toNat : Int)
          · exact .inl ⟨q, decide_eq_false (by omega), by omega, decide_eq_false (by omega)⟩
          · by_cases q2 : 48 ≤ (s[k].toNat : Int)
            · exact .inr (.inl ⟨by omega, q2, decide_eq_false (by omega)⟩)
            · exact .inr (.inr ⟨by omega, by omega⟩)
        clear GOOD BAD hb
        rcases hc with ⟨q1, q2, q3, q4⟩ | ⟨q1, q2, q3⟩ | ⟨q1, q2⟩
        all_goals
          go_wp2
          go_ret
          exact saysW_f HN.out
    · obtain rfl : k = s.size := by omega
      have HN : Hid (labP s) := ⟨HO.out.1, HO.out.2, HP.out⟩
      clear HP
      go_wp2
      go_ret
      exact saysW_t HN.out

end Go.Proofs.YtoncodoimnideaaGreatDoor
