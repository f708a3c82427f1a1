import Derived.Test.YtkpabanjlhlmfaaGreatDoorGB2
namespace Go.Proofs.YtkpabanjlhlmfaaGreatDoor
open Go.RowKit

/-- Down to the greatest common divisor: the last rest, and how often a is in it. -/
def eu (r n : Nat) (o p : Int) : Nat × Int :=
  if _h : n = 0 then (r, o) else eu n (r % n) p (o - (r / n : Nat) * p)
termination_by n
decreasing_by exact Nat.mod_lt _ (by omega)

theorem eu_zero (r : Nat) (o p : Int) : eu r 0 o p = (r, o) := by rw [eu]; simp
theorem eu_step {r n : Nat} (h : 0 < n) (o p : Int) : eu r n o p = eu n (r % n) p (o - (r / n : Nat) * p) := by
  conv => lhs; rw [eu]
  rw [dif_neg (by omega)]

/-- Both cofactors have unlike signs, and are small. -/
def EuI (m r n : Nat) (o p : Int) : Prop := ∃ A B : Nat, B * r + A * n = m ∧ ((o = -(A : Int) ∧ p = B) ∨ (o = A ∧ p = -(B : Int)))
theorem EuI.step {m r n : Nat} {o p : Int} (h : EuI m r n o p) : EuI m n (r % n) p (o - (r / n : Nat) * p) := by
  obtain ⟨A, B, e, h⟩ := h
  refine ⟨B, A + r / n * B, ?_, ?_⟩
  · rw [← e]
    have h1 := Nat.div_add_mod r n
    have h2 : B * r = B * (n * (r / n)) + B * (r % n) := by rw [← Nat.mul_add, h1]
    have h3 : B * (n * (r / n)) = r / n * B * n := by rw [Nat.mul_comm n, ← Nat.mul_assoc, Nat.mul_comm B]
    rw [Nat.add_mul]
    omega
  · have h4 : ((A + r / n * B : Nat) : Int) = (A : Int) + (r / n : Nat) * (B : Int) := by rw [Int.natCast_add, Int.natCast_mul]
    rcases h with ⟨rfl, rfl⟩ | ⟨rfl, rfl⟩
    · right
      exact ⟨rfl, by rw [h4]; omega⟩
    · left
      exact ⟨rfl, by rw [h4, Int.mul_neg]; omega⟩
theorem EuI.bd {m r n : Nat} {o p : Int} (h : EuI m r n o p) (hr : 1 ≤ r) : -(m : Int) ≤ p ∧ p ≤ m := by
  obtain ⟨A, B, e, h⟩ := h
  have h1 : B * 1 ≤ B * r := Nat.mul_le_mul_left _ hr
  omega
theorem EuI.bd2 {m r n : Nat} {o p : Int} (h : EuI m r n o p) (hn : 1 ≤ n) : -(m : Int) ≤ o ∧ o ≤ m := by
  obtain ⟨A, B, e, h⟩ := h
  have h1 : A * 1 ≤ A * n := Nat.mul_le_mul_left _ hn
  omega
theorem EuI.bd3 {m r n : Nat} {o p : Int} (h : EuI m r n o p) : -(m : Int) ≤ (r / n : Nat) * p ∧ (r / n : Nat) * p ≤ m := by
  obtain ⟨A, B, e, h⟩ := h
  have h1 : r / n * B ≤ r * B := Nat.mul_le_mul_right _ (Nat.div_le_self _ _)
  have h2 : r * B = B * r := Nat.mul_comm _ _
  have h3 : ((r / n * B : Nat) : Int) = (r / n : Nat) * (B : Int) := Int.natCast_mul _ _
  rcases h with ⟨rfl, rfl⟩ | ⟨rfl, rfl⟩
  · omega
  · rw [Int.mul_neg]; omega

def invOk (a m : Int) : Prop := (2 ≤ m ∧ m ≤ 2147483648) ∧ (1 ≤ a ∧ a ≤ m - 1)
instance (a m : Int) : Decidable (invOk a m) := by unfold invOk; infer_instance
def invV (a m : Int) : Int × Bool := if invOk a m then (if (eu m.toNat a.toNat 0 1).1 = 1 then ((eu m.toNat a.toNat 0 1).2 % m, true) else (0, false)) else (0, false)

theorem tmod_bd (x : Int) {m : Int} (h : 0 < m) : -m ≤ x.tmod m ∧ x.tmod m < m := by
  refine ⟨?_, Int.tmod_lt_of_pos x h⟩
  have h1 := Int.emod_nonneg x (show m ≠ 0 by omega)
  rw [Int.tmod_eq_emod]
  split <;> omega
theorem fromZ (x m : Int) (h : 0 < m) : (x.tmod m + m).tmod m = x % m := by
  have h1 := tmod_bd x h
  rw [Int.tmod_eq_emod_of_nonneg (by omega), Int.add_emod_right, Int.tmod_eq_emod]
  split
  · rw [show ((0 : Nat) : Int) = 0 from rfl, Int.sub_zero]
    exact Int.emod_emod_of_dvd _ (Int.dvd_refl m)
  · rw [show (Int.natAbs m : Int) = m by omega, Int.sub_emod, Int.emod_self, Int.sub_zero, Int.emod_emod_of_dvd _ (Int.dvd_refl m), Int.emod_emod_of_dvd _ (Int.dvd_refl m)]

theorem div_le_self' (r n : Nat) : ((r / n : Nat) : Int) ≤ r := by exact_mod_cast Nat.div_le_self r n
theorem rest_mod (r n : Nat) : (r : Int) - (r / n : Nat) * (n : Int) = ((r % n : Nat) : Int) := by
  have h := Nat.div_add_mod r n
  have e : ((n * (r / n) : Nat) : Int) = ((r / n : Nat) : Int) * (n : Int) := by rw [Int.natCast_mul, Int.mul_comm]
  omega

end Go.Proofs.YtkpabanjlhlmfaaGreatDoor
