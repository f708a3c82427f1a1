import Derived.Test.YtcgmcdelgfemkaaRA2
import Derived.Test.YtcgmcdelgfemkaaGB3GB4
namespace Go.Proofs.Ytcgmcdelgfemkaa
open Go.RowKit

/-- The power by squaring: what the kernel can count. -/
def pf : Nat → Nat → Nat → Nat → Nat → Nat
  | 0, _, _, _, out => out
  | k + 1, b, e, m, out => if e = 0 then out else pf k (b * b % m) (e / 2) m (if e % 2 = 1 then out * b % m else out)
theorem pf_is : ∀ (k b e m out : Nat), e < 2 ^ k → out < m → pf k b e m out = out * b ^ e % m := by
  intro k
  induction k with
  | zero =>
    intro b e m out h ho
    obtain rfl : e = 0 := by omega
    rw [pf, Nat.pow_zero, Nat.mul_one, Nat.mod_eq_of_lt ho]
  | succ k ih =>
    intro b e m out h ho
    rw [pf]
    by_cases h0 : e = 0
    · rw [if_pos h0, h0, Nat.pow_zero, Nat.mul_one, Nat.mod_eq_of_lt ho]
    · rw [if_neg h0]
      have h2 : e / 2 < 2 ^ k := by rw [Nat.pow_succ] at h; omega
      have hm : 0 < m := by omega
      have sq : ∀ j, (b * b % m) ^ j % m = b ^ (2 * j) % m := fun j => by rw [← Nat.pow_mod, Nat.pow_mul, Nat.pow_two]
      split
      · rename_i h1
        rw [ih _ _ _ _ h2 (Nat.mod_lt _ hm), Nat.mul_mod, Nat.mod_mod, sq, ← Nat.mul_mod, Nat.mul_assoc, ← Nat.pow_succ', show (2 * (e / 2)).succ = e by omega]
      · rename_i h1
        rw [ih _ _ _ _ h2 ho, Nat.mul_mod, sq, ← Nat.mul_mod, show 2 * (e / 2) = e by omega]

theorem g_pf : pf 30 4 500000003 1000000007 1 = 1 := by decide +kernel
theorem g_order_nat (q : Nat) (hq : q = 500000003) : 4 ^ q % 1000000007 = 1 := by
  have h := pf_is 30 4 q 1000000007 1 (by rw [hq]; decide) (by decide)
  rw [Nat.one_mul] at h
  rw [← h, hq]
  exact g_pf
theorem g_order' (q : Nat) (hq : q = 500000003) : (4 : Int) ^ q % 1000000007 = 1 := by
  have h := congrArg (fun n : Nat => (n : Int)) (g_order_nat q hq)
  simp only [Int.natCast_emod, Int.natCast_pow] at h
  exact h
theorem g_order : (4 : Int) ^ 500000003 % 1000000007 = 1 := g_order' _ rfl

/-- Q has no divisor from 2 up to its root. -/
def noDiv (n : Nat) : Nat → Bool
  | 0 => true
  | d + 1 => (n % (d + 2) != 0) && noDiv n d
theorem noDiv_is (n : Nat) : ∀ k, noDiv n k = true → ∀ d, 2 ≤ d → d ≤ k + 1 → n % d ≠ 0 := by
  intro k
  induction k with
  | zero => intro _ d h1 h2; omega
  | succ k ih =>
    intro h d h1 h2
    rw [noDiv, Bool.and_eq_true] at h
    by_cases hd : d = k + 2
    · subst hd; simpa using h.1
    · exact ih h.2 d h1 (by omega)
set_option maxRecDepth 100000 in
theorem q_noDiv : noDiv 500000003 22361 = true := by decide +kernel
theorem q_prime (g : Nat) (hd : g ∣ 500000003) (h1 : g < 500000003) : g = 1 := by
  obtain ⟨h, hh⟩ := hd
  have key := noDiv_is 500000003 22361 q_noDiv
  have hg0 : g ≠ 0 := by rintro rfl; simp at hh
  have hh0 : h ≠ 0 := by rintro rfl; simp at hh
  have hh1 : h ≠ 1 := by rintro rfl; omega
  rcases Nat.lt_or_ge g 2 with hl | hl
  · omega
  · exfalso
    rcases Nat.lt_or_ge g 22363 with h3 | h3
    · exact key g hl (by omega) (by rw [hh]; exact Nat.mul_mod_right g h)
    · rcases Nat.lt_or_ge h 22363 with h4 | h4
      · exact key h (by omega) (by omega) (by rw [hh]; exact Nat.mul_mod_left g h)
      · have := Nat.mul_le_mul h3 h4
        omega
theorem q_gcd (x : Nat) (h0 : 0 < x) (h1 : x < 500000003) : Nat.gcd x 500000003 = 1 := by
  refine q_prime _ (Nat.gcd_dvd_right _ _) ?_
  have := Nat.le_of_dvd h0 (Nat.gcd_dvd_left x 500000003)
  omega

/-- y to the Q is 1: its powers go by the exponent modulo Q. -/
theorem pow_one_mul {y : Int} (h : y ^ 500000003 % 1000000007 = 1) (t : Nat) : y ^ (500000003 * t) % 1000000007 = 1 := by
  rw [Int.pow_mul, ← pow_emod, h, Int.one_pow]
  rfl
theorem pow_per {y : Int} (h : y ^ 500000003 % 1000000007 = 1) (e t : Nat) : y ^ (e + 500000003 * t) % 1000000007 = y ^ e % 1000000007 := by
  rw [Int.pow_add, Int.mul_emod, pow_one_mul h, Int.mul_one, Int.emod_emod_of_dvd _ (Int.dvd_refl _)]
theorem pow_modQ {y : Int} (h : y ^ 500000003 % 1000000007 = 1) (e : Nat) : y ^ (e % 500000003) % 1000000007 = y ^ e % 1000000007 := by
  have := pow_per h (e % 500000003) (e / 500000003)
  rw [Nat.mod_add_div] at this
  exact this.symm
theorem g_ne_one (x : Nat) (h0 : 0 < x) (h1 : x < 500000003) : (4 : Int) ^ x % 1000000007 ≠ 1 := by
  intro h
  have ht := inv_tells x 500000003 (by decide) (q_gcd x h0 h1)
  dsimp only at ht
  obtain ⟨o, ho⟩ : ∃ o, o = (eu 500000003 x 0 1).2 % ((500000003 : Nat) : Int) := ⟨_, rfl⟩
  rw [← ho] at ht
  obtain ⟨t1, t2, t3⟩ := ht
  obtain ⟨O, rfl⟩ := Int.eq_ofNat_of_zero_le (show 0 ≤ o by omega)
  have t4 : x * O % 500000003 = 1 := by
    rw [Nat.mul_comm]
    have : (((O * x % 500000003 : Nat)) : Int) = 1 := by rw [Int.natCast_emod, Int.natCast_mul]; exact t3
    omega
  have a1 : (4 : Int) ^ (x * O) % 1000000007 = 1 := by rw [Int.pow_mul, ← pow_emod, h, Int.one_pow]; rfl
  have a2 := pow_modQ g_order (x * O)
  rw [t4, a1] at a2
  exact absurd a2 (by decide)

theorem keyP_of (x : Int) (h : secP x) : keyP (gp 4 x) := by
  obtain ⟨h1, h2⟩ := h
  obtain ⟨X, rfl⟩ := Int.eq_ofNat_of_zero_le (show 0 ≤ x by omega)
  have hb := gp_bd 4 (X : Int)
  have e : gp 4 (X : Int) = (4 : Int) ^ X % 1000000007 := by rw [gp, Int.toNat_natCast, pw]
  have ho : gp (gp 4 (X : Int)) 500000003 = 1 := by
    rw [e, gp, pw, pow_emod, ← Int.pow_mul, show (500000003 : Int).toNat = 500000003 from rfl, Nat.mul_comm]
    exact pow_one_mul g_order X
  refine ⟨⟨⟨?_, by omega⟩, ho⟩, ?_⟩
  · rcases Int.lt_or_le 0 (gp 4 (X : Int)) with h3 | h3
    · omega
    · have h4 : gp 4 (X : Int) = 0 := by omega
      rw [h4] at ho
      exact absurd ho (by rw [gp, pw, show (500000003 : Int).toNat = 500000002 + 1 from rfl, Int.pow_succ, Int.mul_zero]; decide)
  · rw [e]
    exact g_ne_one X (by omega) (by omega)

/-- What a signature moves back to: the nonce's power. -/
theorem moved_back (k e x : Int) (hk : 0 ≤ k) (he : expP e) (hx : secP x) : movN 1 (gp 4 x) ((k + e * x) % 500000003) e = gp 4 k := by
  obtain ⟨K, rfl⟩ := Int.eq_ofNat_of_zero_le hk
  obtain ⟨E, rfl⟩ := Int.eq_ofNat_of_zero_le he.1
  obtain ⟨X, rfl⟩ := Int.eq_ofNat_of_zero_le (show 0 ≤ x by have := hx.1; omega)
  have hE : E ≤ 500000002 := by have := he.2; omega
  have e1 : ((K : Int) + (E : Int) * (X : Int)) % 500000003 = (((K + E * X) % 500000003 : Nat) : Int) := by rw [Int.natCast_emod, Int.natCast_add, Int.natCast_mul]; rfl
  have e2 : (500000003 : Int) - (E : Int) = ((500000003 - E : Nat) : Int) := by omega
  rw [movN_one, e1, e2]
  simp only [gp, Int.toNat_natCast]
  unfold pw
  rw [pow_emod, ← Int.pow_mul, ← Int.mul_emod, Int.mul_emod, pow_modQ g_order, ← Int.mul_emod, ← Int.pow_add]
  have e3 : K + E * X + X * (500000003 - E) = K + 500000003 * X := by
    rw [Nat.mul_sub, Nat.mul_comm E X, Nat.mul_comm 500000003 X]
    have : X * E ≤ X * 500000003 := Nat.mul_le_mul_left _ (by omega)
    omega
  rw [e3]
  exact pow_per g_order K X

/-- One more in the exponent is once more by G. -/
theorem moved_next (y s e : Int) (hs : expP s) : movN 1 y ((s + 1) % 500000003) e = movN 1 y s e * 4 % 1000000007 := by
  obtain ⟨S, rfl⟩ := Int.eq_ofNat_of_zero_le hs.1
  have e1 : ((S : Int) + 1) % 500000003 = (((S + 1) % 500000003 : Nat) : Int) := by rw [Int.natCast_emod]; rfl
  rw [movN_one, movN_one, e1]
  have hg : gp 4 (((S + 1) % 500000003 : Nat) : Int) = gp 4 (S : Int) * 4 % 1000000007 := by
    simp only [gp, Int.toNat_natCast]
    unfold pw
    rw [pow_modQ g_order, Int.pow_succ, Int.mul_emod, ← Int.mul_emod, Int.mul_emod]
    rfl
  rw [hg]
  generalize gp 4 (S : Int) = p
  generalize gp y (500000003 - e) = q
  rw [Int.mul_emod, Int.emod_emod_of_dvd _ (Int.dvd_refl _), ← Int.mul_emod, Int.mul_emod (p * q % 1000000007), Int.emod_emod_of_dvd _ (Int.dvd_refl _), ← Int.mul_emod, Int.mul_right_comm]

end Go.Proofs.Ytcgmcdelgfemkaa
