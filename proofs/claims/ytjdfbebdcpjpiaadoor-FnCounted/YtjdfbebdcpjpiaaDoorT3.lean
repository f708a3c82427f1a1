import Derived.Test.YtjdfbebdcpjpiaaDoorT2
namespace Go.Proofs.YtjdfbebdcpjpiaaDoor
open Go.RowKit

def tform : ByteArray := { data := #[48, 48, 48, 48, 45, 48, 48, 45, 48, 48, 32, 48, 48, 58, 48, 48, 58, 48, 48] }
def formV (j : Nat) : Int := cAt tform j
theorem formV_cases (j : Nat) (h : j < 19) : (formV j = 48 ∧ tsign.getD j 0 = 0) ∨ ((formV j < 48 ∨ 57 < formV j) ∧ 0 ≤ formV j ∧ formV j ≤ 255 ∧ tsign.getD j 0 = formV j ∧ tsign.getD j 0 ≠ 0) := by
  have hj : j = 0 ∨ j = 1 ∨ j = 2 ∨ j = 3 ∨ j = 4 ∨ j = 5 ∨ j = 6 ∨ j = 7 ∨ j = 8 ∨ j = 9 ∨ j = 10 ∨ j = 11 ∨ j = 12 ∨ j = 13 ∨ j = 14 ∨ j = 15 ∨ j = 16 ∨ j = 17 ∨ j = 18 := by omega
  rcases hj with rfl | rfl | rfl | rfl | rfl | rfl | rfl | rfl | rfl | rfl | rfl | rfl | rfl | rfl | rfl | rfl | rfl | rfl | rfl <;> decide
theorem index_form (k : Nat) (h : k < 19) (w : World) : (Instr.index 9 (.string { data := #[48, 48, 48, 48, 45, 48, 48, 45, 48, 48, 32, 48, 48, 58, 48, 48, 58, 48, 48] }) (.int .i64 k)).run Tryd.prog w = .ok (.int .u8 (formV k)) w := by
  have hj : k = 0 ∨ k = 1 ∨ k = 2 ∨ k = 3 ∨ k = 4 ∨ k = 5 ∨ k = 6 ∨ k = 7 ∨ k = 8 ∨ k = 9 ∨ k = 10 ∨ k = 11 ∨ k = 12 ∨ k = 13 ∨ k = 14 ∨ k = 15 ∨ k = 16 ∨ k = 17 ∨ k = 18 := by omega
  rcases hj with rfl | rfl | rfl | rfl | rfl | rfl | rfl | rfl | rfl | rfl | rfl | rfl | rfl | rfl | rfl | rfl | rfl | rfl | rfl
  all_goals (change _ = _; kernel_rfl)

set_option maxRecDepth 10000 in
set_option maxHeartbeats 8000000 in
theorem hasTimeForm_any (s : ByteArray) (w : World) :
    Calls Tryd.prog 36 #[.string s] w (Says (timeF s) w) := by
  by_cases h19 : s.size = 19
  · go_enter Tryd.func36, Tryd.ntmps36
    go_wp2
    go_loopw [3] (fun i wr => ∃ k : Nat, k ≤ 19 ∧ i = .int .i64 k ∧ Hid (∀ j, j < k → fits j (cAt s j)) ∧ Below w.heap.size w wr) (fun i _ => 19 - (intOf i).toNat)
    case atStart => exact ⟨0, Nat.zero_le _, rfl, (fun j hj => absurd hj (Nat.not_lt_zero _)), Below.refl _ _⟩
    case round =>
      obtain ⟨k, hk, rfl, HA, hbr⟩ := hrel
      by_cases hlt : k < 19
      · have NX : Hid (fits k (cAt s k) → ∀ j, j < k + 1 → fits j (cAt s j)) := fun h j hj => by
          by_cases e : j = k
          · rw [e]; exact h
          · exact HA.out j (by omega)
        have BD : Hid (¬ fits k (cAt s k) → ¬ timeF s) := fun h h2 => h (h2.2 k hlt)
        have hj : k < s.size := by omega
        have hji : (k : Int) < (s.size : Int) := by omega
        have hbx := s[k].toNat_lt
        have hx := cAt_get s k hj
        rw [hx] at NX BD
        have ix := index_form k hlt
        have hfc := formV_cases k hlt
        obtain ⟨f, hf⟩ : ∃ f, f = formV k := ⟨_, rfl⟩
        rw [← hf] at ix hfc
        obtain ⟨cc, hcc⟩ : ∃ cc, cc = (s[k].toNat : Int) := ⟨_, rfl⟩
        clear hf HA hx
        rcases hfc with ⟨hf48, ht0⟩ | ⟨hfr, hf0, hf1, htf, ht0⟩
        · subst hf48
          by_cases hd : 48 ≤ (s[k].toNat : Int) ∧ (s[k].toNat : Int) ≤ 57
          · have HN : Hid (∀ q, q < k + 1 → fits q (cAt s q)) := NX.out (by unfold fits; rw [if_pos ht0]; exact hd)
            obtain ⟨d0, d1⟩ := hd
            clear NX BD ht0 hcc
            go_wp2_with fail
            go_quiet (fail)
            go_wp2
            go_roundw
            case rel => exact ⟨k + 1, by omega, by go_num, HN, below_drewN' hbr _⟩
            case measure => simp [intOf]; omega
          · have HN : Hid (¬ timeF s) := BD.out (by unfold fits; rw [if_pos ht0]; exact hd)
            have hc : (s[k].toNat : Int) < 48 ∨ (48 ≤ (s[k].toNat : Int) ∧ 57 < (s[k].toNat : Int)) := by omega
            clear NX BD hd ht0 hcc
            rcases hc with hc | ⟨hc, hc2⟩
            all_goals
              try have z57 : decide ((s[k].toNat : Int) ≤ 57) = false := decide_eq_false (by omega)
              try have z48 : decide (48 ≤ (s[k].toNat : Int)) = false := decide_eq_false (by omega)
              go_wp2_with fail
              go_quiet (fail)
              go_wp2
              go_ret
              exact says_f HN.out (below_drewN' hbr _)
        · have z1 : (f == 48) = false := beq_false_of_ne (by omega)
          have z2 : (f != 48) = true := bne_iff_ne.2 (by omega)
          by_cases hd : (s[k].toNat : Int) = f
          · have HN : Hid (∀ q, q < k + 1 → fits q (cAt s q)) := NX.out (by unfold fits; rw [if_neg ht0, htf]; exact hd)
            have z3 : ((s[k].toNat : Int) != f) = false := by simp [hd]
            have hc : (s[k].toNat : Int) < 48 ∨ (48 ≤ (s[k].toNat : Int) ∧ 57 < (s[k].toNat : Int)) := by omega
            clear NX BD hd ht0 hcc htf hfr
            rcases hc with hc | ⟨hc, hc2⟩
            all_goals
              try have z57 : decide ((s[k].toNat : Int) ≤ 57) = false := decide_eq_false (by omega)
              try have z48 : decide (48 ≤ (s[k].toNat : Int)) = false := decide_eq_false (by omega)
              go_wp2_with fail
              go_quiet (fail)
              go_wp2
              go_roundw
              case rel => exact ⟨k + 1, by omega, by go_num, HN, below_drewN' hbr _⟩
              case measure => simp [intOf]; omega
          · have HN : Hid (¬ timeF s) := BD.out (by unfold fits; rw [if_neg ht0, htf]; exact hd)
            have z3 : ((s[k].toNat : Int) != f) = true := bne_iff_ne.2 hd
            have hc : (s[k].toNat : Int) < 48 ∨ (48 ≤ (s[k].toNat : Int) ∧ 57 < (s[k].toNat : Int)) ∨ (48 ≤ (s[k].toNat : Int) ∧ (s[k].toNat : Int) ≤ 57) := by omega
            clear NX BD hd ht0 hcc htf hfr
            rcases hc with hc | ⟨hc, hc2⟩ | ⟨hc, hc2⟩
            all_goals
              try have z57 : decide ((s[k].toNat : Int) ≤ 57) = false := decide_eq_false (by omega)
              try have z48 : decide (48 ≤ (s[k].toNat : Int)) = false := decide_eq_false (by omega)
              go_wp2_with fail
              go_quiet (fail)
              go_wp2
              go_ret
              exact says_f HN.out (below_drewN' hbr _)
      · obtain rfl : k = 19 := by omega
        have HN : Hid (timeF s) := ⟨h19, HA.out⟩
        clear HA
        go_wp2
        go_ret
        exact says_t HN.out hbr
  · have HN : Hid (¬ timeF s) := fun h => h19 h.1
    have z : ((s.size : Int) != 19) = true := bne_iff_ne.2 (by omega)
    clear h19
    go_enter Tryd.func36, Tryd.ntmps36
    go_wp2
    go_ret
    exact says_f HN.out (Below.refl _ _)

end Go.Proofs.YtjdfbebdcpjpiaaDoor
