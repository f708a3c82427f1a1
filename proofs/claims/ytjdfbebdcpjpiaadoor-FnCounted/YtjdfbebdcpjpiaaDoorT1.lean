import Derived.Test.YtjdfbebdcpjpiaaDoorCAt
import Derived.Test.YtjdfbebdcpjpiaaDoorBase
import Derived.Test.YtjdfbebdcpjpiaaDoorChecked
import Derived.BigQuiet
import Derived.Deep.QuietTactic
namespace Go.Proofs.YtjdfbebdcpjpiaaDoor
open Go.RowKit


def digP (s : ByteArray) (k : Nat) : Prop := ∀ j, j < k → 48 ≤ cAt s j ∧ cAt s j ≤ 57
/-- The number of the first digits. -/
def dgs (s : ByteArray) : Nat → Int
  | 0 => 0
  | k + 1 => 10 * dgs s k + (cAt s k - 48)
theorem dgs_bd (s : ByteArray) (k : Nat) (h : digP s k) : 0 ≤ dgs s k ∧ dgs s k < 10 ^ k := by
  induction k with
  | zero => exact ⟨Int.le_refl _, by show (0 : Int) < 1; decide⟩
  | succ k ih =>
    have h1 := ih (fun j hj => h j (by omega))
    have h2 := h k (by omega)
    have e : (10 : Int) ^ (k + 1) = 10 * 10 ^ k := by rw [Int.pow_succ, Int.mul_comm]
    rw [dgs, e]
    omega
theorem dgs_bd4 (s : ByteArray) (k : Nat) (hk : k ≤ 4) (h : digP s k) : 0 ≤ dgs s k ∧ dgs s k < 10000 := by
  have h1 := dgs_bd s k h
  have h2 : (10 : Int) ^ k ≤ 10 ^ 4 := by
    have := Nat.pow_le_pow_right (n := 10) (by decide) hk
    exact_mod_cast this
  have h3 : (10 : Int) ^ 4 = 10000 := by decide
  omega

set_option maxRecDepth 10000 in
set_option maxHeartbeats 1000000 in
theorem digitsOf_any (s : ByteArray) (w : World) (hs : s.size ≤ 4) (hd : digP s s.size) :
    Calls Tryd.prog 37 #[.string s] w fun e w' => e = .returned (.int .i64 (dgs s s.size)) ∧ w' = w := by
  have HD : Hid (digP s s.size) := hd
  clear hd
  go_enter Tryd.func37, Tryd.ntmps37
  go_wp2
  go_loopw [3, 4] (fun n i wr => ∃ (k : Nat) (v : Int), k ≤ s.size ∧ i = .int .i64 k ∧ n = .int .i64 v ∧ Hid (v = dgs s k) ∧ 0 ≤ v ∧ v < 10000 ∧ w = wr) (fun _ i _ => s.size - (intOf i).toNat)
  case atStart => exact ⟨0, 0, Nat.zero_le _, rfl, rfl, rfl, by decide, by decide, rfl⟩
  case round =>
    obtain ⟨k, v, hk, rfl, rfl, HV, hv0, hv1, rfl⟩ := hrel
    by_cases hlt : k < s.size
    · have hbx := s[k].toNat_lt
      have hx := cAt_get s k hlt
      have hdk := HD.out k hlt
      rw [hx] at hdk
      have hnx := dgs_bd4 s (k + 1) (by omega) (fun j hj => HD.out j (by omega))
      have HN : Hid (10 * v + ((s[k].toNat : Int) - 48) = dgs s (k + 1)) := by show _ = _; rw [dgs, HV.out, hx]
      rw [← HN.out] at hnx
      clear hx HV
      go_wp2
      go_roundw
      case rel => exact ⟨k + 1, _, by omega, by go_num, rfl, HN.out, hnx.1, hnx.2, by trivial⟩
      case measure => simp [intOf]; omega
    · obtain rfl : k = s.size := by omega
      go_wp2
      go_ret
      exact ⟨by rw [HV.out]; rfl, rfl⟩

instance (s : ByteArray) (k : Nat) : Decidable (digP s k) := by unfold digP; infer_instance
def dig1 (s : ByteArray) : Int := if digP s s.size then dgs s s.size else -1

set_option maxRecDepth 10000 in
set_option maxHeartbeats 1000000 in
theorem l6Digits_any (s : ByteArray) (w : World) (hs : s.size ≤ 4) :
    Calls Tryd.prog 41 #[.string s] w fun e w' => e = .returned (.int .i64 (dig1 s)) ∧ w' = w := by
  go_enter Tryd.func41, Tryd.ntmps41
  go_wp2
  go_loopw [3, 4] (fun n i wr => ∃ (k : Nat) (v : Int), k ≤ s.size ∧ i = .int .i64 k ∧ n = .int .i64 v ∧ Hid (v = dgs s k ∧ digP s k) ∧ 0 ≤ v ∧ v < 10000 ∧ w = wr) (fun _ i _ => s.size - (intOf i).toNat)
  case atStart => exact ⟨0, 0, Nat.zero_le _, rfl, rfl, ⟨rfl, fun j hj => absurd hj (Nat.not_lt_zero _)⟩, by decide, by decide, rfl⟩
  case round =>
    obtain ⟨k, v, hk, rfl, rfl, HV, hv0, hv1, rfl⟩ := hrel
    by_cases hlt : k < s.size
    · have hbx := s[k].toNat_lt
      have hx := cAt_get s k hlt
      by_cases hd : 48 ≤ (s[k].toNat : Int) ∧ (s[k].toNat : Int) ≤ 57
      · have HP : Hid (digP s (k + 1)) := fun j hj => by
          by_cases e : j = k
          · rw [e, hx]; exact hd
          · exact HV.out.2 j (by omega)
        have hnx := dgs_bd4 s (k + 1) (by omega) HP.out
        have HN : Hid (v * 10 + ((s[k].toNat : Int) - 48) = dgs s (k + 1)) := by show _ = _; rw [dgs, HV.out.1, hx, Int.mul_comm]
        rw [← HN.out] at hnx
        obtain ⟨hd0, hd1⟩ := hd
        clear hx HV
        go_wp2
        go_roundw
        case rel => exact ⟨k + 1, _, by omega, by go_num, rfl, ⟨HN.out, HP.out⟩, hnx.1, hnx.2, by trivial⟩
        case measure => simp [intOf]; omega
      · have HE : Hid (dig1 s = -1) := by
          show _ = _
          unfold dig1
          rw [if_neg (fun h => hd (by rw [← hx]; exact h k hlt))]
        have hc : (s[k].toNat : Int) < 48 ∨ (48 ≤ (s[k].toNat : Int) ∧ 57 < (s[k].toNat : Int)) := by omega
        clear hd hx HV
        rcases hc with hc | ⟨hc, hc2⟩
        all_goals
          go_wp2
          go_ret
          exact ⟨by rw [HE.out]; rfl, rfl⟩
    · obtain rfl : k = s.size := by omega
      have HE : Hid (v = dig1 s) := by
        show _ = _
        unfold dig1
        rw [if_pos HV.out.2]
        exact HV.out.1
      clear HV
      go_wp2
      go_ret
      exact ⟨by rw [← HE.out]; rfl, rfl⟩

def longY (y : Int) : Int := (y - 1) / 4 - (y - 1) / 100 + (y - 1) / 400
def ldays (y : Int) : Int := if y % 4 = 0 ∧ (y % 100 ≠ 0 ∨ y % 400 = 0) then 366 else 365
theorem longY_next (y : Int) : longY (y + 1) - longY y = ldays y - 365 := by
  unfold longY ldays
  split <;> omega
def mtab : List Int := [31, 28, 31, 30, 31, 30, 31, 31, 30, 31, 30, 31]
def mdays (y m : Int) : Int := if m = 2 then ldays y - 337 else mtab.getD (m - 1).toNat 0

set_option maxRecDepth 10000 in
set_option maxHeartbeats 400000 in
theorem longYears_any (y : Int) (w : World) (h0 : 1 ≤ y) (h1 : y ≤ 100000) :
    Calls Tryd.prog 50 #[.int .i64 y] w fun e w' => e = .returned (.int .i64 (longY y)) ∧ w' = w := by
  have HE : Hid ((y - 1) / 4 - (y - 1) / 100 + (y - 1) / 400 = longY y) := rfl
  go_enter Tryd.func50, Tryd.ntmps50
  go_wp2
  go_ret
  exact ⟨by rw [← HE.out]; rfl, rfl⟩

set_option maxRecDepth 10000 in
set_option maxHeartbeats 400000 in
theorem l6Days_any (y : Int) (w : World) (h0 : 0 ≤ y) (h1 : y ≤ 100000) :
    Calls Tryd.prog 44 #[.int .i64 y] w fun e w' => e = .returned (.int .i64 (ldays y)) ∧ w' = w := by
  by_cases h4 : y % 4 = 0
  · by_cases h100 : y % 100 = 0
    · by_cases h400 : y % 400 = 0
      · have HE : Hid (ldays y = 366) := by show _ = _; unfold ldays; rw [if_pos (by omega)]
        have z1 : (y % 4 == 0) = true := beq_iff_eq.2 h4
        have z2 : (y % 100 != 0) = false := by simp [h100]
        have z3 : (y % 400 == 0) = true := beq_iff_eq.2 h400
        clear h4 h100 h400
        go_enter Tryd.func44, Tryd.ntmps44
        go_wp2
        go_ret
        exact ⟨by rw [HE.out]; rfl, rfl⟩
      · have HE : Hid (ldays y = 365) := by show _ = _; unfold ldays; rw [if_neg (by omega)]
        have z1 : (y % 4 == 0) = true := beq_iff_eq.2 h4
        have z2 : (y % 100 != 0) = false := by simp [h100]
        have z3 : (y % 400 == 0) = false := beq_false_of_ne h400
        clear h4 h100 h400
        go_enter Tryd.func44, Tryd.ntmps44
        go_wp2
        go_ret
        exact ⟨by rw [HE.out]; rfl, rfl⟩
    · have HE : Hid (ldays y = 366) := by show _ = _; unfold ldays; rw [if_pos (by omega)]
      have z1 : (y % 4 == 0) = true := beq_iff_eq.2 h4
      have z2 : (y % 100 != 0) = true := bne_iff_ne.2 h100
      clear h4 h100
      go_enter Tryd.func44, Tryd.ntmps44
      go_wp2
      go_ret
      exact ⟨by rw [HE.out]; rfl, rfl⟩
  · have HE : Hid (ldays y = 365) := by show _ = _; unfold ldays; rw [if_neg (by omega)]
    have z1 : (y % 4 == 0) = false := beq_false_of_ne h4
    clear h4
    go_enter Tryd.func44, Tryd.ntmps44
    go_wp2
    go_ret
    exact ⟨by rw [HE.out]; rfl, rfl⟩

end Go.Proofs.YtjdfbebdcpjpiaaDoor
