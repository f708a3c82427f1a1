import Derived.Test.YtjechndhgkkpeaaWI64
import Derived.Test.YtjechndhgkkpeaaGB4
import Derived.WalkMore
import Derived.ScopeJumps
import Derived.Deep.DeepCutAuto
namespace Go.Proofs.Ytjechndhgkkpeaa
open Go.RowKit

theorem Row64.take {w : World} {a : Option Addr} {n : Nat} {zs : List Int} (h : Row64 w a n zs) (k : Nat) (hk : k ≤ n) : Row64 w a k (zs.take k) := by
  refine ⟨by rw [List.length_take, h.len]; omega, fun j hj => ?_⟩
  obtain ⟨b, off, ha, hb, hc⟩ := h.get j (by omega)
  exact ⟨b, off, ha, hb, hc.trans (by simp [hj])⟩
theorem mem_next (zs : List Int) (k : Nat) (h : k < zs.length) (x : Int) : x ∈ zs.take (k + 1) ↔ x ∈ zs.take k ∨ x = zs.getD k 0 := by
  have e : zs.getD k 0 = zs[k] := by simp [h]
  rw [List.take_succ_eq_append_getElem h, List.mem_append, List.mem_singleton, e]
theorem mem_all (zs : List Int) (k : Nat) (h : zs.length ≤ k) : zs.take k = zs := List.take_of_length_le h
theorem getD_mem (zs : List Int) (k : Nat) (h : k < zs.length) : zs.getD k 0 ∈ zs := by
  have e : zs.getD k 0 = zs[k] := by simp [h]
  rw [e]; exact List.getElem_mem h

set_option maxHeartbeats 1000000 in
theorem index_any (a : Option Addr) (n c : Nat) (zs : List Int) (x : Int) (w : World) (h : Row64 w a n zs) (hn : n ≤ 9223372036854775807) :
    Calls Try.prog 55 #[.slice a n c, .int .i64 x] w fun e w' => ∃ i : Int, e = .returned (.int .i64 i) ∧ Hid (0 ≤ i ↔ x ∈ zs) ∧ w' = w := by
  have H0 : Hid (Row64 w a n zs) := h
  have HL : Hid (zs.length = n) := h.len
  clear h
  go_enter Try.func55, Try.ntmps55
  go_wp2
  go_loopw [8] (fun i wr => ∃ k : Nat, k ≤ n ∧ i = .int .i64 k ∧ Hid (x ∉ zs.take k) ∧ w = wr) (fun i _ => n - (intOf i).toNat)
  case atStart => exact ⟨0, Nat.zero_le _, rfl, (by show _ ∉ _; simp), rfl⟩
  case round =>
    obtain ⟨k, hk, rfl, HA, rfl⟩ := hrel
    by_cases hlt : k < n
    · obtain ⟨b, off, rfl, hb, hc⟩ := H0.out.get k hlt
      obtain ⟨z, hz⟩ : ∃ z, z = zs.getD k 0 := ⟨_, rfl⟩
      rw [← hz] at hc
      have HZ : Hid (z = zs.getD k 0) := hz
      have HM : Hid (k < zs.length) := by show _ < _; rw [HL.out]; exact hlt
      have hlti : (k : Int) < (n : Int) := by omega
      clear hz
      by_cases he : x = z
      · have HT : Hid (x ∈ zs) := by show _ ∈ _; rw [he, HZ.out]; exact getD_mem zs k HM.out
        have ze : (x == z) = true := beq_iff_eq.2 he
        clear he
        go_wp2
        go_ret
        exact ⟨_, rfl, ⟨fun _ => HT.out, fun _ => by omega⟩, rfl⟩
      · have HN : Hid (x ∉ zs.take (k + 1)) := by
          show _ ∉ _
          rw [mem_next zs k HM.out]
          rintro (h | h)
          · exact HA.out h
          · exact he (by rw [HZ.out]; exact h)
        have ze : (x == z) = false := beq_false_of_ne he
        clear he HA
        go_wp2
        go_roundw
        case rel => exact ⟨k + 1, by omega, by go_num, HN, by trivial⟩
        case measure => simp [intOf]; omega
    · obtain rfl : k = n := by omega
      have HN : Hid (x ∉ zs) := by show _ ∉ _; have := HA.out; rwa [mem_all zs k (by rw [HL.out]; exact Nat.le_refl _)] at this
      go_wp2
      go_ret
      exact ⟨_, rfl, ⟨fun h => absurd h (by decide), fun h => absurd h HN.out⟩, rfl⟩

set_option maxHeartbeats 1000000 in
theorem contains_any (a : Option Addr) (n c : Nat) (zs : List Int) (x : Int) (w : World) (h : Row64 w a n zs) (hn : n ≤ 9223372036854775807) :
    Calls Try.prog 53 #[.slice a n c, .int .i64 x] w fun e w' => e = .returned (.bool (decide (x ∈ zs))) ∧ w' = w := by
  have H0 : Hid (Row64 w a n zs) := h
  clear h
  go_enter Try.func53, Try.ntmps53
  go_wp2_with fail
  refine (index_any a n c zs x _ H0.out hn).mono ?_
  rintro e w1 ⟨i, rfl, hi, rfl⟩
  have HD : Hid (decide (0 ≤ i) = decide (x ∈ zs)) := by show _ = _; exact decide_eq_decide.2 hi.out
  go_wp2
  go_ret
  exact ⟨by rw [← HD.out]; rfl, rfl⟩

/-- No number stands twice. -/
def unl (zs : List Int) : Prop := ∀ j, j < zs.length → zs.getD j 0 ∉ zs.take j
instance (zs : List Int) : Decidable (unl zs) := by unfold unl; infer_instance

def lenOf : Value → Nat
  | .slice _ n _ => n
  | _ => 0

set_option maxHeartbeats 2000000 in
theorem allUnlike_any (a : Option Addr) (n c : Nat) (zs : List Int) (w : World) (h : Row64 w a n zs) (hn : n ≤ c) (hc : c ≤ 9223372036854775807) :
    Calls Try.prog 49 #[.slice a n c] w fun e w' => e = .returned (.bool (decide (unl zs))) ∧ w' = w := by
  have H0 : Hid (Row64 w a n zs) := h
  have HL : Hid (zs.length = n) := h.len
  clear h
  have HS : Hid (∀ j, n ≤ j → j < n → zs.getD j 0 ∉ zs.take j) := fun j h1 h2 => absurd h1 (by omega)
  go_enter Try.func49, Try.ntmps49
  go_wp2
  refine wp_scope_jumps 0 (fun a' w' => w = w' ∧ ∃ (k : Nat) (u3 u4 u5 u6 u7 u8 u9 u10 u11 u12 u13 u14 u15 u16 u17 u18 u19 u20 u21 : Value), a' = { tmps := #[.slice a k c, undef, .bool false, u3, u4, u5, u6, u7, u8, u9, u10, u11, u12, u13, u14, u15, u16, u17, u18, u19, u20, u21], defers := [] } ∧ k ≤ n ∧ Hid (∀ j, k ≤ j → j < n → zs.getD j 0 ∉ zs.take j)) (fun a' _ => lenOf (a'.tmps.getD 0 undef)) rfl ?_ ?_
  · by_cases h0 : n = 0
    · have HT : Hid (decide (unl zs) = true) := decide_eq_true (fun j hj => HS.out j (by omega) (by rw [HL.out] at hj; exact hj))
      have z0 : ((n : Int) == 0) = true := by simp [h0]
      clear h0
      go_wp2
      go_step3
      go_wp2
      simp only [Exit.jump]
      go_ret
      exact ⟨by rw [HT.out]; rfl, rfl⟩
    · obtain ⟨m, rfl⟩ : ∃ m, n = m + 1 := ⟨n - 1, by omega⟩
      have z0 : (((m + 1 : Nat) : Int) == 0) = false := by simp; omega
      obtain ⟨b, off, rfl, hb, hcell⟩ := H0.out.get m (by omega)
      obtain ⟨z, hz⟩ : ∃ z, z = zs.getD m 0 := ⟨_, rfl⟩
      rw [← hz] at hcell
      have HZ : Hid (z = zs.getD m 0) := hz
      have e1 : ((m + 1 : Nat) : Int) - 1 = (m : Int) := by omega
      clear hz h0
      go_wp2
      go_step3
      go_wp2_with fail
      refine (contains_any _ m c (zs.take m) z _ (H0.out.take m (by omega)) (by omega)).mono ?_
      rintro e w1 ⟨rfl, rfl⟩
      by_cases hin : z ∈ zs.take m
      · have HT : Hid (decide (unl zs) = false) := decide_eq_false (fun hu => hu m (by rw [HL.out]; omega) (by rw [← HZ.out]; exact hin))
        rw [decide_eq_true hin]
        clear hin
        go_wp2
        simp only [Exit.jump]
        go_ret
        exact ⟨by rw [HT.out]; rfl, rfl⟩
      · have HN : Hid (∀ j, m ≤ j → j < m + 1 → zs.getD j 0 ∉ zs.take j) := fun j h1 h2 => by
          by_cases e : j = m
          · rw [e, ← HZ.out]; exact hin
          · exact HS.out j (by omega) h2
        rw [decide_eq_false hin]
        clear hin
        go_wp2_with fail
        go_step3
        exact ⟨rfl, rfl, m, _, _, _, _, _, _, _, _, _, _, _, _, _, _, _, _, _, _, _, rfl, by omega, HN⟩
  · rintro a' w' ⟨rfl, k, u3, u4, u5, u6, u7, u8, u9, u10, u11, u12, u13, u14, u15, u16, u17, u18, u19, u20, u21, rfl, hk, HK⟩
    by_cases h0 : k = 0
    · have HT : Hid (decide (unl zs) = true) := decide_eq_true (fun j hj => HK.out j (by omega) (by rw [HL.out] at hj; exact hj))
      subst h0
      go_wp2
      simp only [Exit.jump]
      go_ret
      exact ⟨by rw [HT.out]; rfl, rfl⟩
    · obtain ⟨m, rfl⟩ : ∃ m, k = m + 1 := ⟨k - 1, by omega⟩
      have z0 : (((m + 1 : Nat) : Int) == 0) = false := by simp; omega
      obtain ⟨b, off, rfl, hb, hcell⟩ := H0.out.get m (by omega)
      obtain ⟨z, hz⟩ : ∃ z, z = zs.getD m 0 := ⟨_, rfl⟩
      rw [← hz] at hcell
      have HZ : Hid (z = zs.getD m 0) := hz
      have e1 : ((m + 1 : Nat) : Int) - 1 = (m : Int) := by omega
      clear hz h0
      go_wp2_with fail
      refine (contains_any _ m c (zs.take m) z _ (H0.out.take m (by omega)) (by omega)).mono ?_
      rintro e w1 ⟨rfl, rfl⟩
      by_cases hin : z ∈ zs.take m
      · have HT : Hid (decide (unl zs) = false) := decide_eq_false (fun hu => hu m (by rw [HL.out]; omega) (by rw [← HZ.out]; exact hin))
        rw [decide_eq_true hin]
        clear hin
        go_wp2
        simp only [Exit.jump]
        go_ret
        exact ⟨by rw [HT.out]; rfl, rfl⟩
      · have HN : Hid (∀ j, m ≤ j → j < n → zs.getD j 0 ∉ zs.take j) := fun j h1 h2 => by
          by_cases e : j = m
          · rw [e, ← HZ.out]; exact hin
          · exact HK.out j (by omega) h2
        rw [decide_eq_false hin]
        clear hin
        go_wp2_with fail
        go_step3
        exact ⟨rfl, ⟨rfl, m, _, _, _, _, _, _, _, _, _, _, _, _, _, _, _, _, _, _, _, rfl, by omega, HN⟩, by simp [lenOf]⟩

end Go.Proofs.Ytjechndhgkkpeaa
