import Derived.Test.YtjechndhgkkpeaaGL1
namespace Go.Proofs.Ytjechndhgkkpeaa
open Go.RowKit

theorem below_drewN3 {B : Nat} {w w' : World} (h : Below B w w') (n : Nat) : Below B w (w'.drewN n) := by
  induction n with
  | zero => simpa [World.drewN] using h
  | succ n ih => exact ih.drew
/-- Places of shares: some, not too many, each a secret, no two alike. -/
def whoP (zs : List Int) : Prop := (1 ≤ zs.length ∧ zs.length ≤ 20) ∧ (∀ j, j < zs.length → secP (zs.getD j 0)) ∧ unl zs
instance (zs : List Int) : Decidable (whoP zs) := by unfold whoP; infer_instance
theorem whoP.sec {zs : List Int} (h : whoP zs) {x : Int} (hx : x ∈ zs) : secP x := by
  obtain ⟨k, hk, rfl⟩ := List.getElem_of_mem hx
  have := h.2.1 k hk
  simpa [hk] using this

set_option maxHeartbeats 1000000 in
theorem placesOk_any (a : Option Addr) (n c : Nat) (zs : List Int) (w : World) (h : Row64 w a n zs) (hn : n ≤ c) (hc : c ≤ 9223372036854775807) :
    Calls Try.prog 31 #[.slice a n c] w fun e w' => e = .returned (.bool (decide (whoP zs))) ∧ w' = w := by
  have H0 : Hid (Row64 w a n zs) := h
  have HL : Hid (zs.length = n) := h.len
  clear h
  by_cases h1 : (n : Int) < 1
  · have HT : Hid (decide (whoP zs) = false) := decide_eq_false (fun hh => by have := hh.1.1; rw [HL.out] at this; omega)
    go_enter Try.func31, Try.ntmps31
    go_wp2
    go_ret
    exact ⟨by rw [HT.out]; rfl, rfl⟩
  by_cases h2 : 20 < (n : Int)
  · have HT : Hid (decide (whoP zs) = false) := decide_eq_false (fun hh => by have := hh.1.2; rw [HL.out] at this; omega)
    go_enter Try.func31, Try.ntmps31
    go_wp2
    go_ret
    exact ⟨by rw [HT.out]; rfl, rfl⟩
  go_enter Try.func31, Try.ntmps31
  go_wp2
  go_loopw [15] (fun i wr => ∃ k : Nat, k ≤ n ∧ i = .int .i64 k ∧ Hid (∀ j, j < k → secP (zs.getD j 0)) ∧ w = wr) (fun i _ => n - (intOf i).toNat)
  case atStart => exact ⟨0, Nat.zero_le _, rfl, (fun j hj => absurd hj (Nat.not_lt_zero _)), rfl⟩
  case round =>
    obtain ⟨k, hk, rfl, HA, rfl⟩ := hrel
    by_cases hlt : k < n
    · obtain ⟨b, off, rfl, hb, hcell⟩ := H0.out.get k hlt
      obtain ⟨z, hz⟩ : ∃ z, z = zs.getD k 0 := ⟨_, rfl⟩
      rw [← hz] at hcell
      have HZ : Hid (z = zs.getD k 0) := hz
      have hlti : (k : Int) < (n : Int) := by omega
      clear hz
      go_wp2_with fail
      refine (isSecret_any z _).mono ?_
      rintro e w1 ⟨rfl, rfl⟩
      by_cases hs : secP z
      · have HN : Hid (∀ j, j < k + 1 → secP (zs.getD j 0)) := fun j hj => by
          by_cases e : j = k
          · rw [e, ← HZ.out]; exact hs
          · exact HA.out j (by omega)
        rw [decide_eq_true hs]
        clear hs HA
        go_wp2
        go_roundw
        case rel => exact ⟨k + 1, by omega, by go_num, HN, by trivial⟩
        case measure => simp [intOf]; omega
      · have HT : Hid (decide (whoP zs) = false) := decide_eq_false (fun hh => hs (by rw [HZ.out]; exact hh.2.1 k (by rw [HL.out]; exact hlt)))
        rw [decide_eq_false hs]
        clear hs HA
        go_wp2
        go_ret
        exact ⟨by rw [HT.out]; rfl, rfl⟩
    · obtain rfl : k = n := by omega
      have HT : Hid (decide (unl zs) = decide (whoP zs)) := by
        show _ = _
        exact decide_eq_decide.2 ⟨fun hu => ⟨by rw [HL.out]; omega, fun j hj => HA.out j (by rw [HL.out] at hj; exact hj), hu⟩, fun hh => hh.2.2⟩
      go_wp2_with fail
      refine (allUnlike_any a k c zs _ H0.out hn hc).mono ?_
      rintro e w1 ⟨rfl, rfl⟩
      go_wp2
      go_ret
      exact ⟨by rw [← HT.out]; rfl, rfl⟩

theorem calls_bool {f : Nat} {args : Array Value} {w : World} {P : Prop} [Decidable P] {b : Bool} (h : Calls Try.prog f args w fun e w' => e = .returned (.bool (decide P)) ∧ w' = w) (hb : decide P = b) : Calls Try.prog f args w fun e w' => e = .returned (.bool b) ∧ w' = w := by rw [hb] at h; exact h

end Go.Proofs.Ytjechndhgkkpeaa
