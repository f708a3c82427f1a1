import Derived.Test.YtjdfbebdcpjpiaaDoorT4
import Derived.Lib.ItoaNum
import Derived.Lib.Strings
namespace Go.Proofs.YtjdfbebdcpjpiaaDoor
open Go.RowKit

/-! Dates. -/

theorem dAhead_next (y : Int) : dAhead (y + 1) = dAhead y + ldays y := by
  have h := longY_next y
  unfold dAhead
  omega
theorem ldays_bd (y : Int) : 365 ≤ ldays y ∧ ldays y ≤ 366 := by unfold ldays; split <;> omega
theorem dAhead_mono (y : Int) (k : Nat) : dAhead y + 365 * k ≤ dAhead (y + k) := by
  induction k with
  | zero => simp
  | succ k ih =>
    have h := dAhead_next (y + k)
    have h2 := ldays_bd (y + k)
    have e : y + ((k + 1 : Nat) : Int) = y + k + 1 := by omega
    rw [e]
    omega
theorem dAhead_lt {y z : Int} (h : y < z) : dAhead (y + 1) ≤ dAhead z := by
  have := dAhead_mono (y + 1) (z - (y + 1)).toNat
  rw [show y + 1 + ((z - (y + 1)).toNat : Int) = z by omega] at this
  omega
theorem msum_next (y : Int) (n : Nat) : msum y (n + 1) = msum y n + mdays y (n + 1) := rfl
theorem msum_mono (y : Int) (n k : Nat) (h : n + k ≤ 12) : msum y n ≤ msum y (n + k) := by
  induction k with
  | zero => exact Int.le_refl _
  | succ k ih =>
    have h1 := ih (by omega)
    have h2 := mdays_bd y ((n + k : Nat) + 1) (by omega) (by omega)
    have e := msum_next y (n + k)
    rw [show n + (k + 1) = n + k + 1 by omega]
    omega
theorem msum_year (y : Int) : msum y 12 = ldays y := by
  have e : ∀ m : Int, m ≠ 2 → mdays y m = mtab.getD (m - 1).toNat 0 := fun m h => if_neg h
  simp only [msum]
  push_cast
  have e2 : mdays y 2 = ldays y - 337 := if_pos rfl
  rw [e2, e 1 (by decide), e 3 (by decide), e 4 (by decide), e 5 (by decide), e 6 (by decide), e 7 (by decide), e 8 (by decide), e 9 (by decide), e 10 (by decide), e 11 (by decide), e 12 (by decide)]
  have q1 : mtab.getD (1 - 1 : Int).toNat 0 = 31 := by decide
  have q3 : mtab.getD (3 - 1 : Int).toNat 0 = 31 := by decide
  have q4 : mtab.getD (4 - 1 : Int).toNat 0 = 30 := by decide
  have q5 : mtab.getD (5 - 1 : Int).toNat 0 = 31 := by decide
  have q6 : mtab.getD (6 - 1 : Int).toNat 0 = 30 := by decide
  have q7 : mtab.getD (7 - 1 : Int).toNat 0 = 31 := by decide
  have q8 : mtab.getD (8 - 1 : Int).toNat 0 = 31 := by decide
  have q9 : mtab.getD (9 - 1 : Int).toNat 0 = 30 := by decide
  have q10 : mtab.getD (10 - 1 : Int).toNat 0 = 31 := by decide
  have q11 : mtab.getD (11 - 1 : Int).toNat 0 = 30 := by decide
  have q12 : mtab.getD (12 - 1 : Int).toNat 0 = 31 := by decide
  rw [q1, q3, q4, q5, q6, q7, q8, q9, q10, q11, q12]
  omega

/-- A day, told by how many are ahead of it: its year, month and day. -/
def dateR (d y m z : Int) : Prop := 1970 ≤ y ∧ dAhead y ≤ d ∧ d < dAhead (y + 1) ∧ (∃ k : Nat, m = k + 1 ∧ k < 12 ∧ msum y k ≤ d - dAhead y ∧ d - dAhead y < msum y (k + 1) ∧ z = d - dAhead y - msum y k + 1)
theorem dateR_one {d y m z y' m' z' : Int} (h : dateR d y m z) (h' : dateR d y' m' z') : y = y' ∧ m = m' ∧ z = z' := by
  obtain ⟨a1, a2, a3, k, rfl, a5, a6, a7, rfl⟩ := h
  obtain ⟨b1, b2, b3, l, rfl, b5, b6, b7, rfl⟩ := h'
  have hy : y = y' := by
    rcases Int.lt_trichotomy y y' with h | h | h
    · have := dAhead_lt h; omega
    · exact h
    · have := dAhead_lt h; omega
  subst hy
  have hk : k = l := by
    rcases Nat.lt_trichotomy k l with h | h | h
    · have := msum_mono y (k + 1) (l - (k + 1)) (by omega)
      rw [show k + 1 + (l - (k + 1)) = l by omega] at this
      omega
    · exact h
    · have := msum_mono y (l + 1) (k - (l + 1)) (by omega)
      rw [show l + 1 + (k - (l + 1)) = k by omega] at this
      omega
  subst hk
  exact ⟨rfl, rfl, rfl⟩
theorem dateR_bd {d y m z : Int} (h : dateR d y m z) (hd : d ≤ 2932896) : 1970 ≤ y ∧ y < 10000 ∧ 1 ≤ m ∧ m ≤ 12 ∧ 1 ≤ z ∧ z ≤ 31 := by
  obtain ⟨a1, a2, a3, k, rfl, a5, a6, a7, rfl⟩ := h
  have hy : y < 10000 := by
    rcases Int.lt_or_le y 10000 with h | h
    · exact h
    · have h2 := dAhead_mono 10000 (y - 10000).toNat
      rw [show (10000 : Int) + ((y - 10000).toNat : Int) = y by omega] at h2
      have h3 : dAhead 10000 = 2932897 := by decide
      omega
  have hm := mdays_bd y (k + 1) (by omega) (by omega)
  have e := msum_next y k
  refine ⟨a1, hy, by omega, by omega, by omega, by omega⟩

/-! Numbers in digits. -/

def padL (n k : Nat) : List UInt8 := List.replicate (k - (Lib.decDigits n).length) 48 ++ Lib.decDigits n
def pad (n : Int) (k : Nat) : ByteArray := ⟨(padL n.toNat k).toArray⟩
theorem dec_len {n k : Nat} (hk : 1 ≤ k) (h : n < 10 ^ k) : 1 ≤ (Lib.decDigits n).length ∧ (Lib.decDigits n).length ≤ k := by
  rw [Lib.decDigits_length]
  refine ⟨Lib.nDigits_pos n, ?_⟩
  revert n
  induction k with
  | zero => omega
  | succ k ih =>
    intro n h
    by_cases h10 : n < 10
    · rw [Lib.nDigits_small h10]; omega
    · rw [Lib.nDigits_big h10]
      rcases Nat.eq_zero_or_pos k with h0 | h0
      · subst h0; omega
      · have := ih h0 (n := n / 10) (by rw [Nat.pow_succ] at h; omega)
        omega

/-- What is told of a time. -/
def timeTx (y m z s : Int) : ByteArray :=
  pad y 4 ++ ⟨#[45]⟩ ++ pad m 2 ++ ⟨#[45]⟩ ++ pad z 2 ++ ⟨#[32]⟩ ++ pad (s / 3600) 2 ++ ⟨#[58]⟩ ++ pad (s / 60 % 60) 2 ++ ⟨#[58]⟩ ++ pad (s % 60) 2
def timeX (t : Int) (x : ByteArray) (ok : Bool) : Prop := (ok = true ∧ (0 ≤ t ∧ t ≤ 253402300799) ∧ ∃ y m z, dateR (t / 86400) y m z ∧ x = timeTx y m z (t % 86400)) ∨ (ok = false ∧ ¬ (0 ≤ t ∧ t ≤ 253402300799) ∧ x = ByteArray.empty)
theorem timeX_one {t : Int} {x x' : ByteArray} {b b' : Bool} (h : timeX t x b) (k : timeX t x' b') : x = x' ∧ b = b' := by
  rcases h with ⟨rfl, h1, y, m, z, h2, rfl⟩ | ⟨rfl, h1, rfl⟩
  · rcases k with ⟨rfl, _, y', m', z', k2, rfl⟩ | ⟨_, k1, _⟩
    · obtain ⟨rfl, rfl, rfl⟩ := dateR_one h2 k2
      exact ⟨rfl, rfl⟩
    · exact absurd h1 k1
  · rcases k with ⟨_, k1, _⟩ | ⟨rfl, _, rfl⟩
    · exact absurd k1 h1
    · exact ⟨rfl, rfl⟩

end Go.Proofs.YtjdfbebdcpjpiaaDoor
