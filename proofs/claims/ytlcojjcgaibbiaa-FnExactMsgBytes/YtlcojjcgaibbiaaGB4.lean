import Derived.Test.YtlcojjcgaibbiaaGB3
namespace Go.Proofs.Ytlcojjcgaibbiaa
open Go.RowKit

def secP (x : Int) : Prop := 1 ≤ x ∧ x ≤ 500000002
def expP (x : Int) : Prop := 0 ≤ x ∧ x ≤ 500000002
instance (x : Int) : Decidable (secP x) := by unfold secP; infer_instance
instance (x : Int) : Decidable (expP x) := by unfold expP; infer_instance
/-- b to the e in the group. -/
def gp (b e : Int) : Int := pw b e.toNat 1000000007
theorem gp_bd (b e : Int) : 0 ≤ gp b e ∧ gp b e < 1000000007 := mod_bd _ (by decide)
def memP (y : Int) : Prop := (1 ≤ y ∧ y ≤ 1000000006) ∧ gp y 500000003 = 1
def keyP (y : Int) : Prop := memP y ∧ y ≠ 1
instance (x : Int) : Decidable (memP x) := by unfold memP; infer_instance
instance (x : Int) : Decidable (keyP x) := by unfold keyP; infer_instance

def keyOf (x : Int) : Int := if secP x then gp 4 x else 0

theorem prod_bd {a b m : Int} (ha : 0 ≤ a) (ha' : a < m) (hb : 0 ≤ b) (hb' : b < m) (hm : m ≤ 1000000007) : 0 ≤ a * b ∧ a * b ≤ 1000000014000000049 := by
  refine ⟨Int.mul_nonneg ha hb, ?_⟩
  have h1 : a * b ≤ 1000000007 * b := Int.mul_le_mul_of_nonneg_right (by omega) hb
  omega

/-- r times G to the a, by y to the b. -/
def movN (r y a b : Int) : Int := r * gp 4 a % 1000000007 * gp y (500000003 - b) % 1000000007
theorem movN_one (y a b : Int) : movN 1 y a b = gp 4 a * gp y (500000003 - b) % 1000000007 := by
  unfold movN
  rw [Int.one_mul, Int.emod_eq_of_lt (gp_bd 4 a).1 (gp_bd 4 a).2]

end Go.Proofs.Ytlcojjcgaibbiaa
