import Derived.Test.YtcgmcdelgfemkaaGB2
namespace Go.Proofs.Ytcgmcdelgfemkaa
open Go.RowKit

/-- Down to the greatest common divisor: the last rest, and how often a is in it. -/
def eu (r n : Nat) (o p : Int) : Nat × Int :=
  if _h : n = 0 then (r, o) else eu n (r % n) p (o - (r / n : Nat) * p)
termination_by n
decreasing_by exact Nat.mod_lt _ (by omega)

theorem eu_zero (r : Nat) (o p : Int) : eu r 0 o p = (r, o) := by rw [eu]; simp
theorem eu_step {r n : Nat} (h : 0 < n) (o p : Int) : eu r n o p = eu n (r % n) p (o - (r / n : Nat) * p) := by
  conv => lhs; rw [eu]
  rw [dif_neg (by omega)]

/-- Both cofactors have unlike signs, and are small. -/
def EuI (m r n : Nat) (o p : Int) : Prop := ∃ A B : Nat, B * r + A * n = m ∧ ((o = -(A : Int) ∧ p = B) ∨ (o = A ∧ p = -(B : Int)))
theorem EuI.step {m r n : Nat} {o p : Int} (h : EuI m r n o p) : EuI m n (r % n) p (o - (r / n : Nat) * p) := by
  obtain ⟨A, B, e, h⟩ := h
  refine ⟨B, A + r / n * B, ?_, ?_⟩
  · rw [← e]
    have h1 := Nat.div_add_mod r n
    have h2 : B * r = B * (n * (r / n)) + B * (r % n) := by rw [← Nat.mul_add, h1]
    have h3 : B * (n * (r / n)) = r / n * B * n := by rw [Nat.mul_comm n, ← Nat.mul_assoc, Nat.mul_comm B]
    rw [Nat.add_mul]
    omega
  · have h4 : ((A + r / n * B : Nat) : Int) = (A : Int) + (r / n : Nat) * (B : Int) := by rw [Int.natCast_add, Int.natCast_mul]
    rcases h with ⟨rfl, rfl⟩ | ⟨rfl, rfl⟩
    · right
      exact ⟨rfl, by rw [h4]; omega⟩
    · left
      exact ⟨rfl, by rw [h4, Int.mul_neg]; omega⟩
theorem EuI.bd {m r n : Nat} {o p : Int} (h : EuI m r n o p) (hr : 1 ≤ r) : -(m : Int) ≤ p ∧ p ≤ m := by
  obtain ⟨A, B, e, h⟩ := h
  have h1 : B * 1 ≤ B * r := Nat.mul_le_mul_left _ hr
  omega
theorem EuI.bd2 {m r n : Nat} {o p : Int} (h : EuI m r n o p) (hn : 1 ≤ n) : -(m : Int) ≤ o ∧ o ≤ m := by
  obtain ⟨A, B, e, h⟩ := h
  have h1 : A * 1 ≤ A * n := Nat.mul_le_mul_left _ hn
  omega
theorem EuI.bd3 {m r n : Nat} {o p : Int} (h : EuI m r n o p) : -(m : Int) ≤ (r / n : Nat) * p ∧ (r / n : Nat) * p ≤ m := by
  obtain ⟨A, B, e, h⟩ := h
  have h1 : r / n * B ≤ r * B := Nat.mul_le_mul_right _ (Nat.div_le_self _ _)
  have h2 : r * B = B * r := Nat.mul_comm _ _
  have h3 : ((r / n * B : Nat) : Int) = (r / n : Nat) * (B : Int) := Int.natCast_mul _ _
  rcases h with ⟨rfl, rfl⟩ | ⟨rfl, rfl⟩
  · omega
  · rw [Int.mul_neg]; omega

def invOk (a m : Int) : Prop := (2 ≤ m ∧ m ≤ 2147483648) ∧ (1 ≤ a ∧ a ≤ m - 1)
instance (a m : Int) : Decidable (invOk a m) := by unfold invOk; infer_instance
def invV (a m : Int) : Int × Bool := if invOk a m then (if (eu m.toNat a.toNat 0 1).1 = 1 then ((eu m.toNat a.toNat 0 1).2 % m, true) else (0, false)) else (0, false)

theorem tmod_bd (x : Int) {m : Int} (h : 0 < m) : -m ≤ x.tmod m ∧ x.tmod m < m := by
  refine ⟨?_, Int.tmod_lt_of_pos x h⟩
  have h1 := Int.emod_nonneg x (show m ≠ 0 by omega)
  rw [Int.tmod_eq_emod]
  split <;> omega
theorem fromZ (x m : Int) (h : 0 < m) : (x.tmod m + m).tmod m = x % m := by
  have h1 := tmod_bd x h
  rw [Int.tmod_eq_emod_of_nonneg (by omega), Int.add_emod_right, Int.tmod_eq_emod]
  split
  · rw [show ((0 : Nat) : Int) = 0 from rfl, Int.sub_zero]
    exact Int.emod_emod_of_dvd _ (Int.dvd_refl m)
  · rw [show (Int.natAbs m : Int) = m by omega, Int.sub_emod, Int.emod_self, Int.sub_zero, Int.emod_emod_of_dvd _ (Int.dvd_refl m), Int.emod_emod_of_dvd _ (Int.dvd_refl m)]

theorem div_le_self' (r n : Nat) : ((r / n : Nat) : Int) ≤ r := by exact_mod_cast Nat.div_le_self r n
theorem rest_mod (r n : Nat) : (r : Int) - (r / n : Nat) * (n : Int) = ((r % n : Nat) : Int) := by
  have h := Nat.div_add_mod r n
  have e : ((n * (r / n) : Nat) : Int) = ((r / n : Nat) : Int) * (n : Int) := by rw [Int.natCast_mul, Int.mul_comm]
  omega

end Go.Proofs.Ytcgmcdelgfemkaa

namespace Go.Proofs.Ytcgmcdelgfemkaa
open Go.RowKit

def secP (x : Int) : Prop := 1 ≤ x ∧ x ≤ 500000002
def expP (x : Int) : Prop := 0 ≤ x ∧ x ≤ 500000002
instance (x : Int) : Decidable (secP x) := by unfold secP; infer_instance
instance (x : Int) : Decidable (expP x) := by unfold expP; infer_instance
/-- b to the e in the group. -/
def gp (b e : Int) : Int := pw b e.toNat 1000000007
theorem gp_bd (b e : Int) : 0 ≤ gp b e ∧ gp b e < 1000000007 := mod_bd _ (by decide)
def memP (y : Int) : Prop := (1 ≤ y ∧ y ≤ 1000000006) ∧ gp y 500000003 = 1
def keyP (y : Int) : Prop := memP y ∧ y ≠ 1
instance (x : Int) : Decidable (memP x) := by unfold memP; infer_instance
instance (x : Int) : Decidable (keyP x) := by unfold keyP; infer_instance

set_option maxRecDepth 10000 in
set_option maxHeartbeats 400000 in
theorem isSecret_any (x : Int) (w : World) : Calls Try.prog 40 #[.int .i64 x] w fun r w' => r = .returned (.bool (decide (secP x))) ∧ w' = w := by
  by_cases h : secP x
  · rw [decide_eq_true h]
    go_enter Try.func40, Try.ntmps40
    go_wp2_with fail
    refine (inBounds_t x 1 500000002 _ h).mono ?_
    rintro r w1 ⟨rfl, rfl⟩
    go_wp2
    go_ret
    exact ⟨rfl, rfl⟩
  · rw [decide_eq_false h]
    go_enter Try.func40, Try.ntmps40
    go_wp2_with fail
    refine (inBounds_f x 1 500000002 _ h).mono ?_
    rintro r w1 ⟨rfl, rfl⟩
    go_wp2
    go_ret
    exact ⟨rfl, rfl⟩

set_option maxRecDepth 10000 in
set_option maxHeartbeats 400000 in
theorem l7Secret_any (x : Int) (w : World) : Calls Try.prog 76 #[.int .i64 x] w fun r w' => r = .returned (.bool (decide (secP x))) ∧ w' = w := by
  by_cases h : secP x
  · rw [decide_eq_true h]
    go_enter Try.func76, Try.ntmps76
    go_wp2_with fail
    refine (l1In_t x 1 500000002 _ h).mono ?_
    rintro r w1 ⟨rfl, rfl⟩
    go_wp2
    go_ret
    exact ⟨rfl, rfl⟩
  · rw [decide_eq_false h]
    go_enter Try.func76, Try.ntmps76
    go_wp2_with fail
    refine (l1In_f x 1 500000002 _ h).mono ?_
    rintro r w1 ⟨rfl, rfl⟩
    go_wp2
    go_ret
    exact ⟨rfl, rfl⟩

set_option maxRecDepth 10000 in
set_option maxHeartbeats 400000 in
theorem power_any (b e : Int) (w : World) (hb : 0 ≤ b) (hb' : b ≤ 1000000006) (he : 0 ≤ e) (he' : e ≤ 9223372036854775807) :
    Calls Try.prog 47 #[.int .i64 b, .int .i64 e] w fun r w' => r = .returned (.int .i64 (gp b e)) ∧ w' = w := by
  have HV : Hid (powV b e 1000000007 = (gp b e, true)) := by show _ = _; unfold powV; rw [if_pos ⟨by decide, ⟨hb, by omega⟩, he⟩]; rfl
  go_enter Try.func47, Try.ntmps47
  go_wp2_with fail
  refine (implPowMod_any b e 1000000007 _ he').mono ?_
  rintro r w1 ⟨rfl, rfl⟩
  rw [HV.out, pair]
  go_wp2
  go_ret
  exact ⟨rfl, rfl⟩

set_option maxRecDepth 10000 in
set_option maxHeartbeats 400000 in
theorem l7PowP_any (b e : Int) (w : World) (hb : 0 ≤ b) (hb' : b ≤ 1000000006) (he : 0 ≤ e) (he' : e ≤ 9223372036854775807) :
    Calls Try.prog 77 #[.int .i64 b, .int .i64 e, .int .i64 1000000007] w fun r w' => r = .returned (.int .i64 (gp b e)) ∧ w' = w :=
  l7Pow_any b e 1000000007 w (by decide) (by decide) hb (by omega) he he'

def keyOf (x : Int) : Int := if secP x then gp 4 x else 0

set_option maxRecDepth 10000 in
set_option maxHeartbeats 400000 in
theorem implKeyOf_any (x : Int) (w : World) : Calls Try.prog 48 #[.int .i64 x] w fun r w' => r = .returned (.int .i64 (keyOf x)) ∧ w' = w := by
  by_cases h : secP x
  · have HV : Hid (keyOf x = gp 4 x) := by show _ = _; unfold keyOf; rw [if_pos h]
    go_enter Try.func48, Try.ntmps48
    go_wp2_with fail
    refine (isSecret_any x _).mono ?_
    rintro r w1 ⟨rfl, rfl⟩
    rw [decide_eq_true h]
    go_wp2_with fail
    refine (power_any 4 x _ (by decide) (by decide) (by have := h.1; omega) (by have := h.2; omega)).mono ?_
    rintro r w1 ⟨rfl, rfl⟩
    go_wp2
    go_ret
    exact ⟨by rw [HV.out]; rfl, rfl⟩
  · have HV : Hid (keyOf x = 0) := by show _ = _; unfold keyOf; rw [if_neg h]
    go_enter Try.func48, Try.ntmps48
    go_wp2_with fail
    refine (isSecret_any x _).mono ?_
    rintro r w1 ⟨rfl, rfl⟩
    rw [decide_eq_false h]
    go_wp2
    go_ret
    exact ⟨by rw [HV.out]; rfl, rfl⟩

set_option maxRecDepth 10000 in
set_option maxHeartbeats 400000 in
theorem specKeyOf_any (x : Int) (w : World) : Calls Try.prog 70 #[.int .i64 x] w fun r w' => r = .returned (.int .i64 (keyOf x)) ∧ w' = w := by
  by_cases h : secP x
  · have HV : Hid (keyOf x = gp 4 x) := by show _ = _; unfold keyOf; rw [if_pos h]
    go_enter Try.func70, Try.ntmps70
    go_wp2_with fail
    refine (l7Secret_any x _).mono ?_
    rintro r w1 ⟨rfl, rfl⟩
    rw [decide_eq_true h]
    go_wp2_with fail
    refine (l7PowP_any 4 x _ (by decide) (by decide) (by have := h.1; omega) (by have := h.2; omega)).mono ?_
    rintro r w1 ⟨rfl, rfl⟩
    go_wp2
    go_ret
    exact ⟨by rw [HV.out]; rfl, rfl⟩
  · have HV : Hid (keyOf x = 0) := by show _ = _; unfold keyOf; rw [if_neg h]
    go_enter Try.func70, Try.ntmps70
    go_wp2_with fail
    refine (l7Secret_any x _).mono ?_
    rintro r w1 ⟨rfl, rfl⟩
    rw [decide_eq_false h]
    go_wp2
    go_ret
    exact ⟨by rw [HV.out]; rfl, rfl⟩

theorem prod_bd {a b m : Int} (ha : 0 ≤ a) (ha' : a < m) (hb : 0 ≤ b) (hb' : b < m) (hm : m ≤ 1000000007) : 0 ≤ a * b ∧ a * b ≤ 1000000014000000049 := by
  refine ⟨Int.mul_nonneg ha hb, ?_⟩
  have h1 : a * b ≤ 1000000007 * b := Int.mul_le_mul_of_nonneg_right (by omega) hb
  omega

set_option maxRecDepth 10000 in
set_option maxHeartbeats 400000 in
theorem isMember_any (y : Int) (w : World) : Calls Try.prog 73 #[.int .i64 y] w fun r w' => r = .returned (.bool (decide (memP y))) ∧ w' = w := by
  by_cases h : 1 ≤ y ∧ y ≤ 1000000006
  · have HV : Hid ((gp y 500000003 == 1) = decide (memP y)) := by
      show _ = _
      by_cases h2 : gp y 500000003 = 1
      · rw [decide_eq_true ⟨h, h2⟩, beq_iff_eq.2 h2]
      · rw [decide_eq_false (fun hh => h2 hh.2), beq_false_of_ne h2]
    go_enter Try.func73, Try.ntmps73
    go_wp2_with fail
    refine (inBounds_t y 1 1000000006 _ h).mono ?_
    rintro r w1 ⟨rfl, rfl⟩
    go_wp2_with fail
    refine (power_any y 500000003 _ (by omega) h.2 (by decide) (by decide)).mono ?_
    rintro r w1 ⟨rfl, rfl⟩
    go_wp2
    go_ret
    exact ⟨by rw [← HV.out]; rfl, rfl⟩
  · rw [decide_eq_false (fun hh => h hh.1)]
    go_enter Try.func73, Try.ntmps73
    go_wp2_with fail
    refine (inBounds_f y 1 1000000006 _ h).mono ?_
    rintro r w1 ⟨rfl, rfl⟩
    go_wp2
    go_ret
    exact ⟨rfl, rfl⟩

set_option maxRecDepth 10000 in
set_option maxHeartbeats 400000 in
theorem isKey_any (y : Int) (w : World) : Calls Try.prog 50 #[.int .i64 y] w fun r w' => r = .returned (.bool (decide (keyP y))) ∧ w' = w := by
  by_cases h : y = 1
  · rw [decide_eq_false (fun hh => hh.2 h)]
    have z : (y != 1) = false := by simp [h]
    clear h
    go_enter Try.func50, Try.ntmps50
    go_wp2
    go_ret
    exact ⟨rfl, rfl⟩
  · have HV : Hid (decide (memP y) = decide (keyP y)) := by
      show _ = _
      exact decide_eq_decide.2 ⟨fun hh => ⟨hh, h⟩, fun hh => hh.1⟩
    have z : (y != 1) = true := by simp [h]
    clear h
    go_enter Try.func50, Try.ntmps50
    go_wp2_with fail
    refine (isMember_any y _).mono ?_
    rintro r w1 ⟨rfl, rfl⟩
    go_wp2
    go_ret
    exact ⟨by rw [← HV.out]; rfl, rfl⟩

/-- r times G to the a, by y to the b. -/
def movN (r y a b : Int) : Int := r * gp 4 a % 1000000007 * gp y (500000003 - b) % 1000000007
theorem movN_one (y a b : Int) : movN 1 y a b = gp 4 a * gp y (500000003 - b) % 1000000007 := by
  unfold movN
  rw [Int.one_mul, Int.emod_eq_of_lt (gp_bd 4 a).1 (gp_bd 4 a).2]

end Go.Proofs.Ytcgmcdelgfemkaa
