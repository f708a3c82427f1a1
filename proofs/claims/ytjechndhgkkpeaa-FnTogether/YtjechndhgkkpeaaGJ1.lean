import Derived.Test.YtjechndhgkkpeaaGL3
import Derived.Test.YtjechndhgkkpeaaGS
namespace Go.Proofs.Ytjechndhgkkpeaa
open Go.RowKit

def expsP (zs : List Int) : Prop := ∀ j, j < zs.length → expP (zs.getD j 0)
instance (zs : List Int) : Decidable (expsP zs) := by unfold expsP; infer_instance

set_option maxHeartbeats 1000000 in
theorem allExponents_any (a : Option Addr) (n c : Nat) (zs : List Int) (w : World) (h : Row64 w a n zs) (hn : n ≤ 9223372036854775807) :
    Calls Try.prog 24 #[.slice a n c] w fun e w' => e = .returned (.bool (decide (expsP zs))) ∧ w' = w := by
  have H0 : Hid (Row64 w a n zs) := h
  have HL : Hid (zs.length = n) := h.len
  clear h
  go_enter Try.func24, Try.ntmps24
  go_wp2
  go_loopw [7] (fun i wr => ∃ k : Nat, k ≤ n ∧ i = .int .i64 k ∧ Hid (∀ j, j < k → expP (zs.getD j 0)) ∧ w = wr) (fun i _ => n - (intOf i).toNat)
  case atStart => exact ⟨0, Nat.zero_le _, rfl, (fun j hj => absurd hj (Nat.not_lt_zero _)), rfl⟩
  case round =>
    obtain ⟨k, hk, rfl, HA, rfl⟩ := hrel
    by_cases hlt : k < n
    · obtain ⟨b, off, rfl, hb, hcell⟩ := H0.out.get k hlt
      obtain ⟨z, hz⟩ : ∃ z, z = zs.getD k 0 := ⟨_, rfl⟩
      rw [← hz] at hcell
      have HZ : Hid (z = zs.getD k 0) := hz
      have hlti : (k : Int) < (n : Int) := by omega
      clear hz
      go_wp2_with fail
      refine (isExponent_any z _).mono ?_
      rintro e w1 ⟨rfl, rfl⟩
      by_cases hs : expP z
      · have HN : Hid (∀ j, j < k + 1 → expP (zs.getD j 0)) := fun j hj => by
          by_cases e : j = k
          · rw [e, ← HZ.out]; exact hs
          · exact HA.out j (by omega)
        rw [decide_eq_true hs]
        clear hs HA
        go_wp2
        go_roundw
        case rel => exact ⟨k + 1, by omega, by go_num, HN, by trivial⟩
        case measure => simp [intOf]; omega
      · have HT : Hid (decide (expsP zs) = false) := decide_eq_false (fun hh => hs (by rw [HZ.out]; exact hh k (by rw [HL.out]; exact hlt)))
        rw [decide_eq_false hs]
        clear hs HA
        go_wp2
        go_ret
        exact ⟨by rw [HT.out]; rfl, rfl⟩
    · obtain rfl : k = n := by omega
      have HT : Hid (decide (expsP zs) = true) := decide_eq_true (fun j hj => HA.out j (by rw [HL.out] at hj; exact hj))
      go_wp2
      go_ret
      exact ⟨by rw [HT.out]; rfl, rfl⟩

/-- A sum modulo Q, by the place. -/
def sumF (t : Nat → Int) : Nat → Int
  | 0 => 0
  | k + 1 => (sumF t k + t k) % 500000003
theorem sumF_bd (t : Nat → Int) (k : Nat) : 0 ≤ sumF t k ∧ sumF t k < 500000003 := by
  cases k with
  | zero => exact ⟨Int.le_refl _, by show (0 : Int) < _; decide⟩
  | succ k => exact mod_bd _ (by decide)
theorem sumF_congr (t u : Nat → Int) (k : Nat) (h : ∀ j, j < k → t j % 500000003 = u j % 500000003) : sumF t k = sumF u k := by
  induction k with
  | zero => rfl
  | succ k ih =>
    rw [sumF, sumF, ih (fun j hj => h j (by omega)), Int.add_emod, h k (by omega), ← Int.add_emod]

set_option maxHeartbeats 1000000 in
theorem joinTerm_any (g : Nat) (a : Option Addr) (n c : Nat) (zs : List Int) (i : Nat) (w : World) (hc : w.cell? ⟨g, 0, none⟩ = some (.slice a n c)) (h : Row64 w a n zs) (hi : i < n) :
    Calls Try.prog 41 #[.int .i64 i, .pointer (some ⟨g, 0, none⟩)] w fun e w' => e = .returned (.int .i64 (zs.getD i 0)) ∧ w' = w := by
  obtain ⟨b, off, rfl, hb, hcell⟩ := h.get i hi
  obtain ⟨z, hz⟩ : ∃ z, z = zs.getD i 0 := ⟨_, rfl⟩
  rw [← hz] at hcell
  have HZ : Hid (z = zs.getD i 0) := hz
  have hlti : (i : Int) < (n : Int) := by omega
  clear hz h
  go_enter Try.func41, Try.ntmps41
  go_wp2
  go_ret
  exact ⟨by rw [← HZ.out]; rfl, rfl⟩

set_option maxHeartbeats 1000000 in
theorem sumOverJoin_any (g : Nat) (a : Option Addr) (n c : Nat) (zs : List Int) (w : World) (hc : w.cell? ⟨g, 0, none⟩ = some (.slice a n c)) (h : Row64 w a n zs) (hn : n ≤ 20) (he : expsP zs) :
    Calls Try.prog 32 #[.int .i64 n, .func (Fn.func 41) #[] #[.pointer (some ⟨g, 0, none⟩)]] w fun e w' => e = .returned (.int .i64 (sumF (fun j => zs.getD j 0) n)) ∧ w' = w := by
  have H0 : Hid (Row64 w a n zs) := h
  have HC : Hid (_ = _) := hc
  have HE : Hid (∀ j, j < n → expP (zs.getD j 0)) := fun j hj => he j (by rw [h.len]; exact hj)
  clear h he hc
  go_enter Try.func32, Try.ntmps32
  go_wp2
  go_loopw [5, 8] (fun s i wr => ∃ (k : Nat) (v : Int), k ≤ n ∧ i = .int .i64 k ∧ s = .int .i64 v ∧ 0 ≤ v ∧ v < 500000003 ∧ Hid (v = sumF (fun j => zs.getD j 0) k) ∧ w = wr) (fun _ i _ => n - (intOf i).toNat)
  case atStart => exact ⟨0, 0, Nat.zero_le _, rfl, rfl, by decide, by decide, rfl, rfl⟩
  case round =>
    obtain ⟨k, v, hk, rfl, rfl, hv0, hv1, HV, rfl⟩ := hrel
    by_cases hlt : k < n
    · obtain ⟨hz0, hz1⟩ := HE.out k hlt
      obtain ⟨z, hz⟩ : ∃ z, z = zs.getD k 0 := ⟨_, rfl⟩
      rw [← hz] at hz0 hz1
      have HZ : Hid (zs.getD k 0 = z) := hz.symm
      have HN : Hid ((v + z) % 500000003 = sumF (fun j => zs.getD j 0) (k + 1)) := by show _ = _; rw [sumF, ← HV.out, hz]
      obtain ⟨hm0, hm1⟩ := mod_bd (v + z) (show (1 : Int) ≤ 500000003 by decide)
      have hlti : (k : Int) < (n : Int) := by omega
      clear hz HV
      go_wp2_with fail
      refine (joinTerm_any g a n c zs k _ HC.out H0.out hlt).mono ?_
      rintro e w1 ⟨rfl, rfl⟩
      rw [HZ.out]
      go_wp2
      go_roundw
      case rel => exact ⟨k + 1, _, by omega, by go_num, rfl, hm0, hm1, HN, by trivial⟩
      case measure => simp [intOf]; omega
    · obtain rfl : k = n := by omega
      go_wp2
      go_ret
      exact ⟨by rw [HV.out]; rfl, rfl⟩

end Go.Proofs.Ytjechndhgkkpeaa
