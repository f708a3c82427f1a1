import Derived.Test.YtfplaebocdpcbaaGB3
namespace Go.Proofs.Ytfplaebocdpcbaa
open Go.RowKit

def secP (x : Int) : Prop := 1 ≤ x ∧ x ≤ 500000002
def expP (x : Int) : Prop := 0 ≤ x ∧ x ≤ 500000002
instance (x : Int) : Decidable (secP x) := by unfold secP; infer_instance
instance (x : Int) : Decidable (expP x) := by unfold expP; infer_instance
/-- b to the e in the group. -/
def gp (b e : Int) : Int := pw b e.toNat 1000000007
theorem gp_bd (b e : Int) : 0 ≤ gp b e ∧ gp b e < 1000000007 := mod_bd _ (by decide)
def memP (y : Int) : Prop := (1 ≤ y ∧ y ≤ 1000000006) ∧ gp y 500000003 = 1
def keyP (y : Int) : Prop := memP y ∧ y ≠ 1
instance (x : Int) : Decidable (memP x) := by unfold memP; infer_instance
instance (x : Int) : Decidable (keyP x) := by unfold keyP; infer_instance

set_option maxHeartbeats 400000 in
theorem isSecret_any (x : Int) (w : World) : Calls Try.prog 31 #[.int .i64 x] w fun r w' => r = .returned (.bool (decide (secP x))) ∧ w' = w := by
  by_cases h : secP x
  · rw [decide_eq_true h]
    go_enter Try.func31, Try.ntmps31
    go_wp2_with fail
    refine (inBounds_t x 1 500000002 _ h).mono ?_
    rintro r w1 ⟨rfl, rfl⟩
    go_wp2
    go_ret
    exact ⟨rfl, rfl⟩
  · rw [decide_eq_false h]
    go_enter Try.func31, Try.ntmps31
    go_wp2_with fail
    refine (inBounds_f x 1 500000002 _ h).mono ?_
    rintro r w1 ⟨rfl, rfl⟩
    go_wp2
    go_ret
    exact ⟨rfl, rfl⟩

set_option maxHeartbeats 400000 in
theorem isExponent_any (x : Int) (w : World) : Calls Try.prog 30 #[.int .i64 x] w fun r w' => r = .returned (.bool (decide (expP x))) ∧ w' = w := by
  by_cases h : expP x
  · rw [decide_eq_true h]
    go_enter Try.func30, Try.ntmps30
    go_wp2_with fail
    refine (inBounds_t x 0 500000002 _ h).mono ?_
    rintro r w1 ⟨rfl, rfl⟩
    go_wp2
    go_ret
    exact ⟨rfl, rfl⟩
  · rw [decide_eq_false h]
    go_enter Try.func30, Try.ntmps30
    go_wp2_with fail
    refine (inBounds_f x 0 500000002 _ h).mono ?_
    rintro r w1 ⟨rfl, rfl⟩
    go_wp2
    go_ret
    exact ⟨rfl, rfl⟩

set_option maxHeartbeats 400000 in
theorem l7Secret_any (x : Int) (w : World) : Calls Try.prog 29 #[.int .i64 x] w fun r w' => r = .returned (.bool (decide (secP x))) ∧ w' = w := by
  by_cases h : secP x
  · rw [decide_eq_true h]
    go_enter Try.func29, Try.ntmps29
    go_wp2_with fail
    refine (l1In_t x 1 500000002 _ h).mono ?_
    rintro r w1 ⟨rfl, rfl⟩
    go_wp2
    go_ret
    exact ⟨rfl, rfl⟩
  · rw [decide_eq_false h]
    go_enter Try.func29, Try.ntmps29
    go_wp2_with fail
    refine (l1In_f x 1 500000002 _ h).mono ?_
    rintro r w1 ⟨rfl, rfl⟩
    go_wp2
    go_ret
    exact ⟨rfl, rfl⟩

set_option maxHeartbeats 400000 in
theorem l7Exp_any (x : Int) (w : World) : Calls Try.prog 24 #[.int .i64 x] w fun r w' => r = .returned (.bool (decide (expP x))) ∧ w' = w := by
  by_cases h : expP x
  · rw [decide_eq_true h]
    go_enter Try.func24, Try.ntmps24
    go_wp2_with fail
    refine (l1In_t x 0 500000002 _ h).mono ?_
    rintro r w1 ⟨rfl, rfl⟩
    go_wp2
    go_ret
    exact ⟨rfl, rfl⟩
  · rw [decide_eq_false h]
    go_enter Try.func24, Try.ntmps24
    go_wp2_with fail
    refine (l1In_f x 0 500000002 _ h).mono ?_
    rintro r w1 ⟨rfl, rfl⟩
    go_wp2
    go_ret
    exact ⟨rfl, rfl⟩

def keyOf (x : Int) : Int := if secP x then gp 4 x else 0

theorem prod_bd {a b m : Int} (ha : 0 ≤ a) (ha' : a < m) (hb : 0 ≤ b) (hb' : b < m) (hm : m ≤ 1000000007) : 0 ≤ a * b ∧ a * b ≤ 1000000014000000049 := by
  refine ⟨Int.mul_nonneg ha hb, ?_⟩
  have h1 : a * b ≤ 1000000007 * b := Int.mul_le_mul_of_nonneg_right (by omega) hb
  omega

set_option maxHeartbeats 400000 in
theorem answerTo_any (k e x : Int) (w : World) (hk : expP k) (he : expP e) (hx : expP x) :
    Calls Try.prog 32 #[.int .i64 k, .int .i64 e, .int .i64 x] w fun r w' => r = .returned (.int .i64 ((k + e * x) % 500000003)) ∧ w' = w := by
  obtain ⟨hk0, hk1⟩ := hk
  obtain ⟨he0, he1⟩ := he
  obtain ⟨hx0, hx1⟩ := hx
  obtain ⟨hp0, hp1⟩ := prod_bd he0 (show e < 1000000007 by omega) hx0 (show x < 1000000007 by omega) (Int.le_refl _)
  go_enter Try.func32, Try.ntmps32
  go_wp2
  go_ret
  exact ⟨rfl, rfl⟩

/-- r times G to the a, by y to the b. -/
def movN (r y a b : Int) : Int := r * gp 4 a % 1000000007 * gp y (500000003 - b) % 1000000007
theorem movN_one (y a b : Int) : movN 1 y a b = gp 4 a * gp y (500000003 - b) % 1000000007 := by
  unfold movN
  rw [Int.one_mul, Int.emod_eq_of_lt (gp_bd 4 a).1 (gp_bd 4 a).2]

end Go.Proofs.Ytfplaebocdpcbaa
