import Derived.Test.YtmmbfoncpjjonabDoorBase
import Derived.Test.YtmmbfoncpjjonabDoorChecked
import Derived.BigQuiet
import Derived.Deep.QuietTactic
namespace Go.Proofs.YtmmbfoncpjjonabDoor
open Go.RowKit

/-- The byte at a place of a text. -/
def cAt (s : ByteArray) (j : Nat) : Int := ((s.data.toList.getD j 0).toNat : Int)
theorem cAt_get (s : ByteArray) (j : Nat) (h : j < s.size) : cAt s j = (s[j].toNat : Int) := by
  have h' : j < s.data.toList.length := by simpa using h
  unfold cAt
  rw [List.getD_eq_getElem?_getD, List.getElem?_eq_getElem h']
  rfl

def digP (s : ByteArray) (k : Nat) : Prop := ∀ j, j < k → 48 ≤ cAt s j ∧ cAt s j ≤ 57
/-- The number of the first digits. -/
def dgs (s : ByteArray) : Nat → Int
  | 0 => 0
  | k + 1 => 10 * dgs s k + (cAt s k - 48)
theorem dgs_bd (s : ByteArray) (k : Nat) (h : digP s k) : 0 ≤ dgs s k ∧ dgs s k < 10 ^ k := by
  induction k with
  | zero => exact ⟨Int.le_refl _, by show (0 : Int) < 1; decide⟩
  | succ k ih =>
    have h1 := ih (fun j hj => h j (by omega))
    have h2 := h k (by omega)
    have e : (10 : Int) ^ (k + 1) = 10 * 10 ^ k := by rw [Int.pow_succ, Int.mul_comm]
    rw [dgs, e]
    omega
theorem dgs_bd4 (s : ByteArray) (k : Nat) (hk : k ≤ 4) (h : digP s k) : 0 ≤ dgs s k ∧ dgs s k < 10000 := by
  have h1 := dgs_bd s k h
  have h2 : (10 : Int) ^ k ≤ 10 ^ 4 := by
    have := Nat.pow_le_pow_right (n := 10) (by decide) hk
    exact_mod_cast this
  have h3 : (10 : Int) ^ 4 = 10000 := by decide
  omega

instance (s : ByteArray) (k : Nat) : Decidable (digP s k) := by unfold digP; infer_instance
def dig1 (s : ByteArray) : Int := if digP s s.size then dgs s s.size else -1

def longY (y : Int) : Int := (y - 1) / 4 - (y - 1) / 100 + (y - 1) / 400
def ldays (y : Int) : Int := if y % 4 = 0 ∧ (y % 100 ≠ 0 ∨ y % 400 = 0) then 366 else 365
theorem longY_next (y : Int) : longY (y + 1) - longY y = ldays y - 365 := by
  unfold longY ldays
  split <;> omega
def mtab : List Int := [31, 28, 31, 30, 31, 30, 31, 31, 30, 31, 30, 31]
def mdays (y m : Int) : Int := if m = 2 then ldays y - 337 else mtab.getD (m - 1).toNat 0

set_option maxHeartbeats 400000 in
theorem longYears_any (y : Int) (w : World) (h0 : 1 ≤ y) (h1 : y ≤ 100000) :
    Calls Tryd.prog 79 #[.int .i64 y] w fun e w' => e = .returned (.int .i64 (longY y)) ∧ w' = w := by
  have HE : Hid ((y - 1) / 4 - (y - 1) / 100 + (y - 1) / 400 = longY y) := rfl
  go_enter Tryd.func79, Tryd.ntmps79
  go_wp2
  go_ret
  exact ⟨by rw [← HE.out]; rfl, rfl⟩

set_option maxHeartbeats 400000 in
theorem l6Days_any (y : Int) (w : World) (h0 : 0 ≤ y) (h1 : y ≤ 100000) :
    Calls Tryd.prog 30 #[.int .i64 y] w fun e w' => e = .returned (.int .i64 (ldays y)) ∧ w' = w := by
  by_cases h4 : y % 4 = 0
  · by_cases h100 : y % 100 = 0
    · by_cases h400 : y % 400 = 0
      · have HE : Hid (ldays y = 366) := by show _ = _; unfold ldays; rw [if_pos (by omega)]
        have z1 : (y % 4 == 0) = true := beq_iff_eq.2 h4
        have z2 : (y % 100 != 0) = false := by simp [h100]
        have z3 : (y % 400 == 0) = true := beq_iff_eq.2 h400
        clear h4 h100 h400
        go_enter Tryd.func30, Tryd.ntmps30
        go_wp2
        go_ret
        exact ⟨by rw [HE.out]; rfl, rfl⟩
      · have HE : Hid (ldays y = 365) := by show _ = _; unfold ldays; rw [if_neg (by omega)]
        have z1 : (y % 4 == 0) = true := beq_iff_eq.2 h4
        have z2 : (y % 100 != 0) = false := by simp [h100]
        have z3 : (y % 400 == 0) = false := beq_false_of_ne h400
        clear h4 h100 h400
        go_enter Tryd.func30, Tryd.ntmps30
        go_wp2
        go_ret
        exact ⟨by rw [HE.out]; rfl, rfl⟩
    · have HE : Hid (ldays y = 366) := by show _ = _; unfold ldays; rw [if_pos (by omega)]
      have z1 : (y % 4 == 0) = true := beq_iff_eq.2 h4
      have z2 : (y % 100 != 0) = true := bne_iff_ne.2 h100
      clear h4 h100
      go_enter Tryd.func30, Tryd.ntmps30
      go_wp2
      go_ret
      exact ⟨by rw [HE.out]; rfl, rfl⟩
  · have HE : Hid (ldays y = 365) := by show _ = _; unfold ldays; rw [if_neg (by omega)]
    have z1 : (y % 4 == 0) = false := beq_false_of_ne h4
    clear h4
    go_enter Tryd.func30, Tryd.ntmps30
    go_wp2
    go_ret
    exact ⟨by rw [HE.out]; rfl, rfl⟩

end Go.Proofs.YtmmbfoncpjjonabDoor
