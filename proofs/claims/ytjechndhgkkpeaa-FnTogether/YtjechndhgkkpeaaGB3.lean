import Derived.Test.YtjechndhgkkpeaaGB2
namespace Go.Proofs.Ytjechndhgkkpeaa
open Go.RowKit

/-- Down to the greatest common divisor: the last rest, and how often a is in it. -/
def eu (r n : Nat) (o p : Int) : Nat × Int :=
  if _h : n = 0 then (r, o) else eu n (r % n) p (o - (r / n : Nat) * p)
termination_by n
decreasing_by exact Nat.mod_lt _ (by omega)

theorem eu_zero (r : Nat) (o p : Int) : eu r 0 o p = (r, o) := by rw [eu]; simp
theorem eu_step {r n : Nat} (h : 0 < n) (o p : Int) : eu r n o p = eu n (r % n) p (o - (r / n : Nat) * p) := by
  conv => lhs; rw [eu]
  rw [dif_neg (by omega)]

/-- Both cofactors have unlike signs, and are small. -/
def EuI (m r n : Nat) (o p : Int) : Prop := ∃ A B : Nat, B * r + A * n = m ∧ ((o = -(A : Int) ∧ p = B) ∨ (o = A ∧ p = -(B : Int)))
theorem EuI.step {m r n : Nat} {o p : Int} (h : EuI m r n o p) : EuI m n (r % n) p (o - (r / n : Nat) * p) := by
  obtain ⟨A, B, e, h⟩ := h
  refine ⟨B, A + r / n * B, ?_, ?_⟩
  · rw [← e]
    have h1 := Nat.div_add_mod r n
    have h2 : B * r = B * (n * (r / n)) + B * (r % n) := by rw [← Nat.mul_add, h1]
    have h3 : B * (n * (r / n)) = r / n * B * n := by rw [Nat.mul_comm n, ← Nat.mul_assoc, Nat.mul_comm B]
    rw [Nat.add_mul]
    omega
  · have h4 : ((A + r / n * B : Nat) : Int) = (A : Int) + (r / n : Nat) * (B : Int) := by rw [Int.natCast_add, Int.natCast_mul]
    rcases h with ⟨rfl, rfl⟩ | ⟨rfl, rfl⟩
    · right
      exact ⟨rfl, by rw [h4]; omega⟩
    · left
      exact ⟨rfl, by rw [h4, Int.mul_neg]; omega⟩
theorem EuI.bd {m r n : Nat} {o p : Int} (h : EuI m r n o p) (hr : 1 ≤ r) : -(m : Int) ≤ p ∧ p ≤ m := by
  obtain ⟨A, B, e, h⟩ := h
  have h1 : B * 1 ≤ B * r := Nat.mul_le_mul_left _ hr
  omega
theorem EuI.bd2 {m r n : Nat} {o p : Int} (h : EuI m r n o p) (hn : 1 ≤ n) : -(m : Int) ≤ o ∧ o ≤ m := by
  obtain ⟨A, B, e, h⟩ := h
  have h1 : A * 1 ≤ A * n := Nat.mul_le_mul_left _ hn
  omega
theorem EuI.bd3 {m r n : Nat} {o p : Int} (h : EuI m r n o p) : -(m : Int) ≤ (r / n : Nat) * p ∧ (r / n : Nat) * p ≤ m := by
  obtain ⟨A, B, e, h⟩ := h
  have h1 : r / n * B ≤ r * B := Nat.mul_le_mul_right _ (Nat.div_le_self _ _)
  have h2 : r * B = B * r := Nat.mul_comm _ _
  have h3 : ((r / n * B : Nat) : Int) = (r / n : Nat) * (B : Int) := Int.natCast_mul _ _
  rcases h with ⟨rfl, rfl⟩ | ⟨rfl, rfl⟩
  · omega
  · rw [Int.mul_neg]; omega

def invOk (a m : Int) : Prop := (2 ≤ m ∧ m ≤ 2147483648) ∧ (1 ≤ a ∧ a ≤ m - 1)
instance (a m : Int) : Decidable (invOk a m) := by unfold invOk; infer_instance
def invV (a m : Int) : Int × Bool := if invOk a m then (if (eu m.toNat a.toNat 0 1).1 = 1 then ((eu m.toNat a.toNat 0 1).2 % m, true) else (0, false)) else (0, false)

theorem tmod_bd (x : Int) {m : Int} (h : 0 < m) : -m ≤ x.tmod m ∧ x.tmod m < m := by
  refine ⟨?_, Int.tmod_lt_of_pos x h⟩
  have h1 := Int.emod_nonneg x (show m ≠ 0 by omega)
  rw [Int.tmod_eq_emod]
  split <;> omega
theorem fromZ (x m : Int) (h : 0 < m) : (x.tmod m + m).tmod m = x % m := by
  have h1 := tmod_bd x h
  rw [Int.tmod_eq_emod_of_nonneg (by omega), Int.add_emod_right, Int.tmod_eq_emod]
  split
  · rw [show ((0 : Nat) : Int) = 0 from rfl, Int.sub_zero]
    exact Int.emod_emod_of_dvd _ (Int.dvd_refl m)
  · rw [show (Int.natAbs m : Int) = m by omega, Int.sub_emod, Int.emod_self, Int.sub_zero, Int.emod_emod_of_dvd _ (Int.dvd_refl m), Int.emod_emod_of_dvd _ (Int.dvd_refl m)]

set_option maxHeartbeats 400000 in
theorem fromZero_any (x m : Int) (w : World) (h : 1 ≤ m) (h' : m ≤ 2147483648) :
    Calls Try.prog 51 #[.int .i64 x, .int .i64 m] w fun r w' => r = .returned (.int .i64 (x % m)) ∧ w' = w := by
  have HF := fromZ x m (by omega)
  have h1 := tmod_bd x (show 0 < m by omega)
  obtain ⟨h1, h2⟩ := h1
  go_enter Try.func51, Try.ntmps51
  go_wp2
  go_ret
  exact ⟨by rw [← HF]; rfl, rfl⟩

theorem div_le_self' (r n : Nat) : ((r / n : Nat) : Int) ≤ r := by exact_mod_cast Nat.div_le_self r n
theorem rest_mod (r n : Nat) : (r : Int) - (r / n : Nat) * (n : Int) = ((r % n : Nat) : Int) := by
  have h := Nat.div_add_mod r n
  have e : ((n * (r / n) : Nat) : Int) = ((r / n : Nat) : Int) * (n : Int) := by rw [Int.natCast_mul, Int.mul_comm]
  omega

set_option maxHeartbeats 1000000 in
theorem implInverse_any (a m : Int) (w : World) :
    Calls Try.prog 50 #[.int .i64 a, .int .i64 m] w fun r w' => r = .returned (pair (invV a m)) ∧ w' = w := by
  by_cases h1 : 2 ≤ m ∧ m ≤ 2147483648
  · by_cases h2 : 1 ≤ a ∧ a ≤ m - 1
    · have HR : Hid (invV a m = if (eu m.toNat a.toNat 0 1).1 = 1 then ((eu m.toNat a.toNat 0 1).2 % m, true) else (0, false)) := by show _ = _; unfold invV; rw [if_pos ⟨h1, h2⟩]
      obtain ⟨hm, hm'⟩ := h1
      obtain ⟨ha, ha'⟩ := h2
      obtain ⟨M, rfl⟩ := Int.eq_ofNat_of_zero_le (show 0 ≤ m by omega)
      obtain ⟨A, rfl⟩ := Int.eq_ofNat_of_zero_le (show 0 ≤ a by omega)
      rw [Int.toNat_natCast, Int.toNat_natCast] at HR
      have HI : Hid (EuI M M A 0 1) := ⟨0, 1, by omega, .inl ⟨rfl, rfl⟩⟩
      go_enter Try.func50, Try.ntmps50
      go_wp2_with fail
      refine (inBounds_t (M : Int) 2 2147483648 _ ⟨hm, hm'⟩).mono ?_
      rintro r w1 ⟨rfl, rfl⟩
      go_wp2_with fail
      refine (inBounds_t (A : Int) 1 ((M : Int) - 1) _ ⟨ha, ha'⟩).mono ?_
      rintro r w1 ⟨rfl, rfl⟩
      go_wp2
      go_loopw [6, 7, 8, 9] (fun vr vn vo vp wr => ∃ (r n : Nat) (o p : Int), vr = .int .i64 r ∧ vn = .int .i64 n ∧ vo = .int .i64 o ∧ vp = .int .i64 p ∧ 1 ≤ r ∧ r ≤ M ∧ n ≤ M ∧ -(M : Int) ≤ o ∧ o ≤ M ∧ Hid (EuI M r n o p) ∧ Hid (eu M A 0 1 = eu r n o p) ∧ w1 = wr) (fun _ vn _ _ _ => (intOf vn).toNat)
      case atStart => exact ⟨M, A, 0, 1, rfl, rfl, rfl, rfl, by omega, Nat.le_refl _, by omega, by omega, by omega, HI, rfl, rfl⟩
      case round =>
        obtain ⟨r, n, o, p, rfl, rfl, rfl, rfl, hr1, hrM, hnM, ho0, ho1, HI, HE, rfl⟩ := hrel
        by_cases hp : 0 < n
        · have hb1 := HI.out.bd hr1
          have hb3 := HI.out.bd3
          have hm3 := rest_mod r n
          have hd := div_le_self' r n
          have hlt := Nat.mod_lt r hp
          have HI2 : Hid (EuI M n (r % n) p (o - (r / n : Nat) * p)) := HI.out.step
          have HE2 : Hid (eu M A 0 1 = eu n (r % n) p (o - (r / n : Nat) * p)) := HE.out.trans (eu_step hp o p)
          have hpi : 0 < (n : Int) := by omega
          obtain ⟨q, hq⟩ : ∃ q : Nat, q = r / n := ⟨_, rfl⟩
          have hqi : (r : Int) / (n : Int) = q := by rw [hq]; exact (Int.natCast_ediv r n).symm
          rw [← hq] at hb3 hm3 hd HI2 HE2
          clear hq HI HE hp
          go_wp2
          go_roundw
          case rel => exact ⟨n, r % n, p, _, rfl, by go_num, rfl, rfl, by omega, hnM, by omega, hb1.1, hb1.2, HI2, HE2, by trivial⟩
          case measure => simp [intOf]; omega
        · obtain rfl : n = 0 := by omega
          have HE2 : Hid (eu M A 0 1 = (r, o)) := HE.out.trans (eu_zero r o p)
          clear HE HI
          by_cases h1 : r = 1
          · have HV : Hid (invV (A : Int) (M : Int) = (o % (M : Int), true)) := by show _ = _; rw [HR.out, HE2.out, if_pos h1]
            have z : ((r : Int) != 1) = false := by simp [h1]
            clear h1
            go_wp2_with fail
            refine (fromZero_any o (M : Int) _ (by omega) hm').mono ?_
            rintro r w1 ⟨rfl, rfl⟩
            go_wp2
            go_ret2
            exact ⟨by rw [HV.out]; rfl, rfl⟩
          · have HV : Hid (invV (A : Int) (M : Int) = (0, false)) := by show _ = _; rw [HR.out, HE2.out, if_neg h1]
            have z : ((r : Int) != 1) = true := by simp; omega
            clear h1
            go_wp2
            go_ret2
            exact ⟨by rw [HV.out]; rfl, rfl⟩
    · have HV : Hid (invV a m = (0, false)) := by show _ = _; unfold invV; rw [if_neg (fun h => h2 h.2)]
      go_enter Try.func50, Try.ntmps50
      go_wp2_with fail
      refine (inBounds_t m 2 2147483648 _ h1).mono ?_
      rintro r w1 ⟨rfl, rfl⟩
      go_wp2_with fail
      refine (inBounds_f a 1 (m - 1) _ h2).mono ?_
      rintro r w1 ⟨rfl, rfl⟩
      go_wp2
      go_ret2
      exact ⟨by rw [HV.out]; rfl, rfl⟩
  · have HV : Hid (invV a m = (0, false)) := by show _ = _; unfold invV; rw [if_neg (fun h => h1 h.1)]
    go_enter Try.func50, Try.ntmps50
    go_wp2_with fail
    refine (inBounds_f m 2 2147483648 _ h1).mono ?_
    rintro r w1 ⟨rfl, rfl⟩
    go_wp2
    go_ret2
    exact ⟨by rw [HV.out]; rfl, rfl⟩

end Go.Proofs.Ytjechndhgkkpeaa
