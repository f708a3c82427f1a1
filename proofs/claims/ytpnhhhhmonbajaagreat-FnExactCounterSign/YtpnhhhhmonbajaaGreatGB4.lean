import Derived.Test.YtpnhhhhmonbajaaGreatGB3
namespace Go.Proofs.YtpnhhhhmonbajaaGreat
open Go.RowKit

def secP (x : Int) : Prop := 1 ≤ x ∧ x ≤ 500000002
def expP (x : Int) : Prop := 0 ≤ x ∧ x ≤ 500000002
instance (x : Int) : Decidable (secP x) := by unfold secP; infer_instance
instance (x : Int) : Decidable (expP x) := by unfold expP; infer_instance
/-- b to the e in the group. -/
def gp (b e : Int) : Int := pw b e.toNat 1000000007
theorem gp_bd (b e : Int) : 0 ≤ gp b e ∧ gp b e < 1000000007 := mod_bd _ (by decide)
def memP (y : Int) : Prop := (1 ≤ y ∧ y ≤ 1000000006) ∧ gp y 500000003 = 1
def keyP (y : Int) : Prop := memP y ∧ y ≠ 1
instance (x : Int) : Decidable (memP x) := by unfold memP; infer_instance
instance (x : Int) : Decidable (keyP x) := by unfold keyP; infer_instance

set_option maxRecDepth 10000 in
set_option maxHeartbeats 400000 in
theorem isSecret_any (x : Int) (w : World) : Calls Tryz.prog 123 #[.int .i64 x] w fun r w' => r = .returned (.bool (decide (secP x))) ∧ w' = w := by
  by_cases h : secP x
  · rw [decide_eq_true h]
    go_enter Tryz.func123, Tryz.ntmps123
    go_wp2_with fail
    refine (inBounds_t x 1 500000002 _ h).mono ?_
    rintro r w1 ⟨rfl, rfl⟩
    go_wp2
    go_ret
    exact ⟨rfl, rfl⟩
  · rw [decide_eq_false h]
    go_enter Tryz.func123, Tryz.ntmps123
    go_wp2_with fail
    refine (inBounds_f x 1 500000002 _ h).mono ?_
    rintro r w1 ⟨rfl, rfl⟩
    go_wp2
    go_ret
    exact ⟨rfl, rfl⟩

set_option maxRecDepth 10000 in
set_option maxHeartbeats 400000 in
theorem l7Secret_any (x : Int) (w : World) : Calls Tryz.prog 71 #[.int .i64 x] w fun r w' => r = .returned (.bool (decide (secP x))) ∧ w' = w := by
  by_cases h : secP x
  · rw [decide_eq_true h]
    go_enter Tryz.func71, Tryz.ntmps71
    go_wp2_with fail
    refine (l1In_t x 1 500000002 _ h).mono ?_
    rintro r w1 ⟨rfl, rfl⟩
    go_wp2
    go_ret
    exact ⟨rfl, rfl⟩
  · rw [decide_eq_false h]
    go_enter Tryz.func71, Tryz.ntmps71
    go_wp2_with fail
    refine (l1In_f x 1 500000002 _ h).mono ?_
    rintro r w1 ⟨rfl, rfl⟩
    go_wp2
    go_ret
    exact ⟨rfl, rfl⟩

set_option maxRecDepth 10000 in
set_option maxHeartbeats 400000 in
theorem power_any (b e : Int) (w : World) (hb : 0 ≤ b) (hb' : b ≤ 1000000006) (he : 0 ≤ e) (he' : e ≤ 9223372036854775807) :
    Calls Tryz.prog 125 #[.int .i64 b, .int .i64 e] w fun r w' => r = .returned (.int .i64 (gp b e)) ∧ w' = w := by
  have HV : Hid (powV b e 1000000007 = (gp b e, true)) := by show _ = _; unfold powV; rw [if_pos ⟨by decide, ⟨hb, by omega⟩, he⟩]; rfl
  go_enter Tryz.func125, Tryz.ntmps125
  go_wp2_with fail
  refine (implPowMod_any b e 1000000007 _ he').mono ?_
  rintro r w1 ⟨rfl, rfl⟩
  rw [HV.out, pair]
  go_wp2
  go_ret
  exact ⟨rfl, rfl⟩

set_option maxRecDepth 10000 in
set_option maxHeartbeats 400000 in
theorem l7PowP_any (b e : Int) (w : World) (hb : 0 ≤ b) (hb' : b ≤ 1000000006) (he : 0 ≤ e) (he' : e ≤ 9223372036854775807) :
    Calls Tryz.prog 73 #[.int .i64 b, .int .i64 e, .int .i64 1000000007] w fun r w' => r = .returned (.int .i64 (gp b e)) ∧ w' = w :=
  l7Pow_any b e 1000000007 w (by decide) (by decide) hb (by omega) he he'

def keyOf (x : Int) : Int := if secP x then gp 4 x else 0

set_option maxRecDepth 10000 in
set_option maxHeartbeats 400000 in
theorem implKeyOf_any (x : Int) (w : World) : Calls Tryz.prog 122 #[.int .i64 x] w fun r w' => r = .returned (.int .i64 (keyOf x)) ∧ w' = w := by
  by_cases h : secP x
  · have HV : Hid (keyOf x = gp 4 x) := by show _ = _; unfold keyOf; rw [if_pos h]
    go_enter Tryz.func122, Tryz.ntmps122
    go_wp2_with fail
    refine (isSecret_any x _).mono ?_
    rintro r w1 ⟨rfl, rfl⟩
    rw [decide_eq_true h]
    go_wp2_with fail
    refine (power_any 4 x _ (by decide) (by decide) (by have := h.1; omega) (by have := h.2; omega)).mono ?_
    rintro r w1 ⟨rfl, rfl⟩
    go_wp2
    go_ret
    exact ⟨by rw [HV.out]; rfl, rfl⟩
  · have HV : Hid (keyOf x = 0) := by show _ = _; unfold keyOf; rw [if_neg h]
    go_enter Tryz.func122, Tryz.ntmps122
    go_wp2_with fail
    refine (isSecret_any x _).mono ?_
    rintro r w1 ⟨rfl, rfl⟩
    rw [decide_eq_false h]
    go_wp2
    go_ret
    exact ⟨by rw [HV.out]; rfl, rfl⟩

set_option maxRecDepth 10000 in
set_option maxHeartbeats 400000 in
theorem specKeyOf_any (x : Int) (w : World) : Calls Tryz.prog 57 #[.int .i64 x] w fun r w' => r = .returned (.int .i64 (keyOf x)) ∧ w' = w := by
  by_cases h : secP x
  · have HV : Hid (keyOf x = gp 4 x) := by show _ = _; unfold keyOf; rw [if_pos h]
    go_enter Tryz.func57, Tryz.ntmps57
    go_wp2_with fail
    refine (l7Secret_any x _).mono ?_
    rintro r w1 ⟨rfl, rfl⟩
    rw [decide_eq_true h]
    go_wp2_with fail
    refine (l7PowP_any 4 x _ (by decide) (by decide) (by have := h.1; omega) (by have := h.2; omega)).mono ?_
    rintro r w1 ⟨rfl, rfl⟩
    go_wp2
    go_ret
    exact ⟨by rw [HV.out]; rfl, rfl⟩
  · have HV : Hid (keyOf x = 0) := by show _ = _; unfold keyOf; rw [if_neg h]
    go_enter Tryz.func57, Tryz.ntmps57
    go_wp2_with fail
    refine (l7Secret_any x _).mono ?_
    rintro r w1 ⟨rfl, rfl⟩
    rw [decide_eq_false h]
    go_wp2
    go_ret
    exact ⟨by rw [HV.out]; rfl, rfl⟩

theorem prod_bd {a b m : Int} (ha : 0 ≤ a) (ha' : a < m) (hb : 0 ≤ b) (hb' : b < m) (hm : m ≤ 1000000007) : 0 ≤ a * b ∧ a * b ≤ 1000000014000000049 := by
  refine ⟨Int.mul_nonneg ha hb, ?_⟩
  have h1 : a * b ≤ 1000000007 * b := Int.mul_le_mul_of_nonneg_right (by omega) hb
  omega

set_option maxRecDepth 10000 in
set_option maxHeartbeats 400000 in
theorem answerTo_any (k e x : Int) (w : World) (hk : expP k) (he : expP e) (hx : expP x) :
    Calls Tryz.prog 127 #[.int .i64 k, .int .i64 e, .int .i64 x] w fun r w' => r = .returned (.int .i64 ((k + e * x) % 500000003)) ∧ w' = w := by
  obtain ⟨hk0, hk1⟩ := hk
  obtain ⟨he0, he1⟩ := he
  obtain ⟨hx0, hx1⟩ := hx
  obtain ⟨hp0, hp1⟩ := prod_bd he0 (show e < 1000000007 by omega) hx0 (show x < 1000000007 by omega) (Int.le_refl _)
  go_enter Tryz.func127, Tryz.ntmps127
  go_wp2
  go_ret
  exact ⟨rfl, rfl⟩

/-- r times G to the a, by y to the b. -/
def movN (r y a b : Int) : Int := r * gp 4 a % 1000000007 * gp y (500000003 - b) % 1000000007
theorem movN_one (y a b : Int) : movN 1 y a b = gp 4 a * gp y (500000003 - b) % 1000000007 := by
  unfold movN
  rw [Int.one_mul, Int.emod_eq_of_lt (gp_bd 4 a).1 (gp_bd 4 a).2]

end Go.Proofs.YtpnhhhhmonbajaaGreat
