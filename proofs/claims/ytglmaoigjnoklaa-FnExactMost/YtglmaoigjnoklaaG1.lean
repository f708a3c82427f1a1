import Derived.Test.YtglmaoigjnoklaaF1
namespace Go.Proofs.Ytglmaoigjnoklaa
open Go.RowKit

theorem wid_lt (n : Int) (k : Nat) : ((2 ^ k : Nat) : Int) < n ↔ (k : Int) < wid n := by
  have hp : 0 < 2 ^ k := Nat.two_pow_pos k
  by_cases h1 : 1 ≤ n
  · have h := bitLen_spec (n - 1).toNat
    unfold wid
    constructor
    · intro hk
      have h2 : 2 ^ k < 2 ^ bitLen (n - 1).toNat := by omega
      have := (Nat.pow_lt_pow_iff_right (a := 2) (by decide)).1 h2
      omega
    · intro hk
      have hk' : k ≤ bitLen (n - 1).toNat - 1 := by omega
      have hp := Nat.pow_le_pow_right (n := 2) (by decide) hk'
      have hnz : (n - 1).toNat ≠ 0 := by
        intro e
        rw [e] at hk
        simp [bitLen] at hk
        omega
      have := h.2 hnz
      omega
  · have e : wid n = 0 := by
      unfold wid
      rw [show (n - 1).toNat = 0 by omega]
      rfl
    rw [e]
    omega

set_option maxHeartbeats 1000000 in
theorem l4Plus_any (a b : Int) (w : World) (ha : -2 ≤ a) (hb : -2 ≤ b) (ha2 : a ≤ 4000000000000000000) (hb2 : b ≤ 4000000000000000000) :
    Calls Try.prog 35 #[.int .i64 a, .int .i64 b] w fun e w' => e = .returned (.int .i64 (plusP a b)) ∧ w = w' := by
  by_cases h1 : a = -2
  · have HP : Hid (plusP a b = -2) := by show _ = _; unfold plusP; rw [if_pos (.inl h1)]
    have z1 : (a == -2) = true := by simp [h1]
    go_enter Try.func35, Try.ntmps35
    go_wp2
    go_ret
    exact ⟨by rw [HP.out]; rfl, rfl⟩
  · have z1 : (a == -2) = false := by simp [h1]
    by_cases h2 : b = -2
    · have HP : Hid (plusP a b = -2) := by show _ = _; unfold plusP; rw [if_pos (.inr h2)]
      have z2 : (b == -2) = true := by simp [h2]
      go_enter Try.func35, Try.ntmps35
      go_wp2
      go_ret
      exact ⟨by rw [HP.out]; rfl, rfl⟩
    · have z2 : (b == -2) = false := by simp [h2]
      have HP : Hid (plusP a b = a + b) := by show _ = _; unfold plusP; rw [if_neg (by omega)]
      go_enter Try.func35, Try.ntmps35
      go_wp2
      go_ret
      exact ⟨by rw [HP.out]; rfl, rfl⟩

set_option maxHeartbeats 1000000 in
theorem l4Width_any (n : Int) (w : World) (h2 : n ≤ 4611686018427387904) :
    Calls Try.prog 34 #[.int .i64 n] w fun e w' => e = .returned (.int .i64 (wid n)) ∧ w = w' := by
  have hw := wid_le n 62 (by omega)
  have hw0 := wid_nonneg n
  go_enter Try.func34, Try.ntmps34
  go_wp2
  go_loopw [3] (fun i wr => ∃ k : Nat, (k : Int) ≤ wid n ∧ i = .int .i64 k ∧ w = wr) (fun i _ => 62 - (intOf i).toNat)
  case atStart => exact ⟨0, by omega, rfl, rfl⟩
  case round =>
    obtain ⟨k, hk, rfl, rfl⟩ := hrel
    have hiff := wid_lt n k
    have hpw : wrap64 ((2 : Int) ^ k) = ((2 ^ k : Nat) : Int) := by
      have h62 : 2 ^ k ≤ 2 ^ 62 := Nat.pow_le_pow_right (by decide) (by omega)
      have h0 : 0 < 2 ^ k := Nat.two_pow_pos k
      have e : ((2 : Int) ^ k) = ((2 ^ k : Nat) : Int) := by push_cast; rfl
      rw [e]
      simp only [wrap64]
      omega
    by_cases hkw : (k : Int) < wid n
    · have hlt : wrap64 ((2 : Int) ^ k) < n := by rw [hpw]; exact hiff.mpr hkw
      have k62 : (k : Int) < 62 := by omega
      clear hpw hiff
      go_wp2
      go_roundw
      case rel => exact ⟨k + 1, by omega, by go_num, trivial⟩
      case measure => simp [intOf]; omega
    · have hlt : ¬ wrap64 ((2 : Int) ^ k) < n := by rw [hpw]; exact fun h => hkw (hiff.mp h)
      have HE : Hid (wid n = k) := by show _ = _; omega
      by_cases k62 : (k : Int) < 62
      · clear hpw hiff
        go_wp2
        go_ret
        exact ⟨by rw [HE.out]; rfl, rfl⟩
      · clear hpw hiff hlt
        go_wp2
        go_ret
        exact ⟨by rw [HE.out]; rfl, rfl⟩

end Go.Proofs.Ytglmaoigjnoklaa
