import Derived.Test.YtcgmcdelgfemkaaGB3GB4
namespace Go.Proofs.Ytcgmcdelgfemkaa
open Go.RowKit

theorem pw_add (b m : Int) (e f : Nat) : pw b e m * pw b f m % m = pw b (e + f) m := by
  unfold pw
  rw [← Int.mul_emod, Int.pow_add]
theorem pw_mul (b m : Int) (e f : Nat) : pw (pw b e m) f m = pw b (e * f) m := by
  unfold pw
  rw [pow_emod, Int.pow_mul]

theorem eu_gcd : ∀ (n r : Nat) (o p : Int), (eu r n o p).1 = Nat.gcd n r := by
  intro n
  induction n using Nat.strongRecOn with
  | ind n ih =>
    intro r o p
    by_cases h : 0 < n
    · rw [eu_step h, ih (r % n) (Nat.mod_lt _ h), ← Nat.gcd_rec]
    · obtain rfl : n = 0 := by omega
      rw [eu_zero, Nat.gcd_zero_left]
theorem eu_inv (M A : Int) : ∀ (n r : Nat) (o p : Int), M ∣ o * A - r → M ∣ p * A - n → M ∣ (eu r n o p).2 * A - ((eu r n o p).1 : Nat) := by
  intro n
  induction n using Nat.strongRecOn with
  | ind n ih =>
    intro r o p h1 h2
    by_cases h : 0 < n
    · rw [eu_step h]
      refine ih (r % n) (Nat.mod_lt _ h) _ _ _ h2 ?_
      have hm := rest_mod r n
      have e : (o - (r / n : Nat) * p) * A - ((r % n : Nat) : Int) = (o * A - r) - (r / n : Nat) * (p * A - n) := by
        rw [← hm, Int.sub_mul, Int.mul_sub, Int.mul_assoc]
        omega
      rw [e]
      exact Int.dvd_sub h1 (Int.dvd_mul_of_dvd_right h2)
    · obtain rfl : n = 0 := by omega
      rw [eu_zero]
      exact h1
/-- What the inverse is. -/
theorem inv_tells (A M : Nat) (hM : 2 ≤ M) (h1 : Nat.gcd A M = 1) : let o := (eu M A 0 1).2 % (M : Int); 1 ≤ o ∧ o < M ∧ o * A % M = 1 := by
  intro o
  have hd := eu_inv (M : Int) (A : Int) A M 0 1 (by rw [Int.zero_mul, Int.zero_sub]; exact Int.dvd_neg.2 (Int.dvd_refl _)) (by rw [Int.one_mul, Int.sub_self]; exact Int.dvd_zero _)
  rw [eu_gcd, h1] at hd
  have he : o * (A : Int) % (M : Int) = 1 := by
    show ((eu M A 0 1).2 % (M : Int)) * (A : Int) % (M : Int) = 1
    rw [Int.mul_emod, Int.emod_emod_of_dvd _ (Int.dvd_refl _), ← Int.mul_emod]
    have h2 := (Int.emod_emod_of_dvd 1 (Int.dvd_refl (M : Int)))
    have h3 := Int.emod_eq_emod_iff_emod_sub_eq_zero.2 (Int.emod_eq_zero_of_dvd hd)
    rw [h3]
    exact Int.emod_eq_of_lt (by decide) (by omega)
  have h0 : 0 ≤ o := Int.emod_nonneg _ (by omega)
  have hlt : o < M := Int.emod_lt_of_pos _ (by omega)
  refine ⟨?_, hlt, he⟩
  rcases Int.lt_or_le 0 o with h | h
  · omega
  · have : o = 0 := by omega
    rw [this, Int.zero_mul, Int.zero_emod] at he
    omega

end Go.Proofs.Ytcgmcdelgfemkaa
