import Derived.Test.YtkpabanjlhlmfaaGreatDoorBase
import Derived.Test.YtkpabanjlhlmfaaGreatDoorChecked
import Derived.BigQuiet
import Derived.Deep.QuietTactic
namespace Go.Proofs.YtkpabanjlhlmfaaGreatDoor
open Go.RowKit

set_option maxRecDepth 10000 in
set_option maxHeartbeats 400000 in
theorem inBounds_t (x lo hi : Int) (w : World) (h : lo ≤ x ∧ x ≤ hi) : Calls Tryz.prog 38 #[.int .i64 x, .int .i64 lo, .int .i64 hi] w fun e w' => e = .returned (.bool true) ∧ w' = w := by
  obtain ⟨h1, h2⟩ := h
  go_enter Tryz.func38, Tryz.ntmps38
  go_wp2
  go_ret
  exact ⟨by simp [*], rfl⟩

set_option maxRecDepth 10000 in
set_option maxHeartbeats 400000 in
theorem inBounds_f (x lo hi : Int) (w : World) (h : ¬ (lo ≤ x ∧ x ≤ hi)) : Calls Tryz.prog 38 #[.int .i64 x, .int .i64 lo, .int .i64 hi] w fun e w' => e = .returned (.bool false) ∧ w' = w := by
  by_cases h1 : lo ≤ x
  · have h2 : hi < x := by omega
    clear h
    go_enter Tryz.func38, Tryz.ntmps38
    go_wp2
    go_ret
    exact ⟨by simp [*], rfl⟩
  · have h2 : x < lo := by omega
    clear h h1
    go_enter Tryz.func38, Tryz.ntmps38
    go_wp2
    go_ret
    exact ⟨by simp [*], rfl⟩

set_option maxRecDepth 10000 in
set_option maxHeartbeats 400000 in
theorem l1In_t (x lo hi : Int) (w : World) (h : lo ≤ x ∧ x ≤ hi) : Calls Tryz.prog 26 #[.int .i64 x, .int .i64 lo, .int .i64 hi] w fun e w' => e = .returned (.bool true) ∧ w' = w := by
  obtain ⟨h1, h2⟩ := h
  go_enter Tryz.func26, Tryz.ntmps26
  go_wp2
  go_ret
  exact ⟨by simp [*], rfl⟩

set_option maxRecDepth 10000 in
set_option maxHeartbeats 400000 in
theorem l1In_f (x lo hi : Int) (w : World) (h : ¬ (lo ≤ x ∧ x ≤ hi)) : Calls Tryz.prog 26 #[.int .i64 x, .int .i64 lo, .int .i64 hi] w fun e w' => e = .returned (.bool false) ∧ w' = w := by
  by_cases h1 : lo ≤ x
  · have h2 : hi < x := by omega
    clear h
    go_enter Tryz.func26, Tryz.ntmps26
    go_wp2
    go_ret
    exact ⟨by simp [*], rfl⟩
  · have h2 : x < lo := by omega
    clear h h1
    go_enter Tryz.func26, Tryz.ntmps26
    go_wp2
    go_ret
    exact ⟨by simp [*], rfl⟩

theorem wraps_i64' (n : Int) (h₀ : 0 ≤ n) (h₁ : n < 2 ^ 63) : IntKind.i64.wrap n = n := by rw [IntKind.wrap_i64]; omega
theorem and1 (x : Int) (hx : 0 ≤ x) (hx' : x ≤ 9223372036854775807) : bits .and .i64 x 1 = x % 2 := bits_mask .i64 63 (by decide) wraps_i64' 1 (by decide) x hx (by omega)

/-- b to the e, modulo m. -/
def pw (b : Int) (e : Nat) (m : Int) : Int := b ^ e % m
theorem pow_emod (b m : Int) (e : Nat) : (b % m) ^ e % m = b ^ e % m := by
  induction e with
  | zero => rw [Int.pow_zero, Int.pow_zero]
  | succ e ih => rw [Int.pow_succ, Int.mul_emod, ih, Int.emod_emod_of_dvd _ (Int.dvd_refl m), ← Int.mul_emod, Int.pow_succ]
theorem sq_pow (b : Int) (k : Nat) : (b * b) ^ k = b ^ (2 * k) := by
  induction k with
  | zero => rw [Int.pow_zero, Nat.mul_zero, Int.pow_zero]
  | succ k ih => rw [Int.pow_succ, ih, show 2 * (k + 1) = 2 * k + 1 + 1 by omega, Int.pow_succ, Int.pow_succ, Int.mul_assoc]
theorem pw_even (out b m : Int) (e : Nat) (h : e % 2 = 0) : out * (b * b % m) ^ (e / 2) % m = out * b ^ e % m := by
  rw [Int.mul_emod, pow_emod, ← Int.mul_emod, sq_pow, show 2 * (e / 2) = e by omega]
theorem pw_odd (out b m : Int) (e : Nat) (h : e % 2 = 1) : (out * b % m) * (b * b % m) ^ (e / 2) % m = out * b ^ e % m := by
  rw [Int.mul_emod, pow_emod, Int.emod_emod_of_dvd _ (Int.dvd_refl m), ← Int.mul_emod, sq_pow, Int.mul_assoc, show b * b ^ (2 * (e / 2)) = b ^ e by
    conv => rhs; rw [show e = 2 * (e / 2) + 1 by omega]
    rw [Int.pow_succ, Int.mul_comm]]
theorem mul_bd {a b m : Int} (ha : 0 ≤ a) (ha' : a < m) (hb : 0 ≤ b) (hb' : b < m) (hm : m ≤ 2147483648) : 0 ≤ a * b ∧ a * b ≤ 4611686018427387904 := by
  refine ⟨Int.mul_nonneg ha hb, ?_⟩
  have h1 : a * b ≤ 2147483648 * b := Int.mul_le_mul_of_nonneg_right (by omega) hb
  omega
theorem mod_bd (a : Int) {m : Int} (h : 1 ≤ m) : 0 ≤ a % m ∧ a % m < m := ⟨Int.emod_nonneg _ (by omega), Int.emod_lt_of_pos _ (by omega)⟩

set_option maxRecDepth 10000 in
set_option maxHeartbeats 1000000 in
theorem l7Pow_any (b e m : Int) (w : World) (hm : 1 ≤ m) (hm' : m ≤ 2147483648) (hb : 0 ≤ b) (hb' : b < m) (he : 0 ≤ e) (he' : e ≤ 9223372036854775807) :
    Calls Tryz.prog 108 #[.int .i64 b, .int .i64 e, .int .i64 m] w fun r w' => r = .returned (.int .i64 (pw b e.toNat m)) ∧ w' = w := by
  have HV : Hid ((1 % m) * b ^ e.toNat % m = pw b e.toNat m) := by show _ = _; unfold pw; rw [Int.mul_emod, Int.emod_emod_of_dvd _ (Int.dvd_refl m), ← Int.mul_emod, Int.one_mul]
  have h1 := mod_bd 1 hm
  go_enter Tryz.func108, Tryz.ntmps108
  go_wp2
  go_loopw [0, 1, 7] (fun vb ve vo wr => ∃ (b' e' out : Int), vb = .int .i64 b' ∧ ve = .int .i64 e' ∧ vo = .int .i64 out ∧ 0 ≤ b' ∧ b' < m ∧ 0 ≤ e' ∧ e' ≤ 9223372036854775807 ∧ 0 ≤ out ∧ out < m ∧ Hid (out * b' ^ e'.toNat % m = pw b e.toNat m) ∧ w = wr) (fun _ ve _ _ => (intOf ve).toNat)
  case atStart => exact ⟨b, e, 1 % m, rfl, rfl, rfl, hb, hb', he, he', h1.1, h1.2, HV, rfl⟩
  case round =>
    obtain ⟨b', e', out, rfl, rfl, rfl, hb0, hb1, he0, he1, ho0, ho1, HI, rfl⟩ := hrel
    by_cases hp : 0 < e'
    · have hbb := mul_bd hb0 hb1 hb0 hb1 hm'
      have hob := mul_bd ho0 ho1 hb0 hb1 hm'
      have hbm := mod_bd (b' * b') hm
      have hom := mod_bd (out * b') hm
      have ha := and1 e' he0 he1
      by_cases hodd : e' % 2 = 1
      · have HN : Hid ((out * b' % m) * (b' * b' % m) ^ (e' / 2).toNat % m = pw b e.toNat m) := by
          show _ = _
          rw [← HI.out, show (e' / 2).toNat = e'.toNat / 2 by omega]
          exact pw_odd out b' m e'.toNat (by omega)
        have z : (e' % 2 == 1) = true := beq_iff_eq.2 hodd
        clear hodd HI
        go_wp2
        go_roundw
        case rel => exact ⟨_, _, _, rfl, rfl, rfl, hbm.1, hbm.2, by omega, by omega, hom.1, hom.2, HN, by trivial⟩
        case measure => simp [intOf]; omega
      · have HN : Hid (out * (b' * b' % m) ^ (e' / 2).toNat % m = pw b e.toNat m) := by
          show _ = _
          rw [← HI.out, show (e' / 2).toNat = e'.toNat / 2 by omega]
          exact pw_even out b' m e'.toNat (by omega)
        have z : (e' % 2 == 1) = false := beq_false_of_ne hodd
        clear hodd HI
        go_wp2
        go_roundw
        case rel => exact ⟨_, _, _, rfl, rfl, rfl, hbm.1, hbm.2, by omega, by omega, ho0, ho1, HN, by trivial⟩
        case measure => simp [intOf]; omega
    · obtain rfl : e' = 0 := by omega
      have HE : Hid (out = pw b e.toNat m) := by
        show _ = _
        rw [← HI.out, show Int.toNat 0 = 0 from rfl, Int.pow_zero, Int.mul_one, Int.emod_eq_of_lt ho0 ho1]
      clear HI
      go_wp2
      go_ret
      exact ⟨by rw [← HE.out]; rfl, rfl⟩

end Go.Proofs.YtkpabanjlhlmfaaGreatDoor
