import Derived.Test.YtoncodoimnideaaGreatDoorCAt
import Derived.Test.YtoncodoimnideaaGreatDoorBase
import Derived.Test.YtoncodoimnideaaGreatDoorProg
import Derived.Laws.Strings
namespace Go.Proofs.YtoncodoimnideaaGreatDoor
open Go.RowKit


def wordB (c : Int) : Prop := (97 ≤ c ∧ c ≤ 122) ∨ (48 ≤ c ∧ c ≤ 57)
def labB (c : Int) : Prop := wordB c ∨ c = 45
def allB (P : Int → Prop) (s : ByteArray) (k : Nat) : Prop := ∀ j, j < k → P (cAt s j)
def labP (s : ByteArray) : Prop := (1 ≤ s.size ∧ s.size ≤ 20) ∧ (cAt s 0 ≠ 45 ∧ cAt s (s.size - 1) ≠ 45) ∧ allB labB s s.size
theorem allB_succ {P : Int → Prop} {s : ByteArray} {k : Nat} (h : allB P s k) (h1 : P (cAt s k)) : allB P s (k + 1) := fun j hj => by
  by_cases e : j = k
  · rw [e]; exact h1
  · exact h j (by omega)

set_option maxRecDepth 10000 in
set_option maxHeartbeats 1000000 in
theorem isWordByte_any (x : Int) (w : World) : Calls Tryz.prog 82 #[.int .u8 x] w (SaysW (wordB x) w) := by
  have hc : (97 ≤ x ∧ x ≤ 122) ∨ (97 ≤ x ∧ 122 < x ∧ 48 ≤ x ∧ 57 < x) ∨ (x < 97 ∧ 48 ≤ x ∧ x ≤ 57) ∨ (x < 97 ∧ 48 ≤ x ∧ 57 < x) ∨ (x < 97 ∧ x < 48) := by omega
  rcases hc with ⟨h1, h2⟩ | ⟨h1, h2, h3, h4⟩ | ⟨h1, h2, h3⟩ | ⟨h1, h2, h3⟩ | ⟨h1, h2⟩
  · have HN : Hid (wordB x) := .inl ⟨h1, h2⟩
    go_enter Tryz.func82, Tryz.ntmps82
    go_wp2
    go_ret
    exact saysW_t HN.out
  · have HN : Hid (¬ wordB x) := fun h => by unfold wordB at h; omega
    have z1 : decide (x ≤ 122) = false := decide_eq_false (by omega)
    have z2 : decide (x ≤ 57) = false := decide_eq_false (by omega)
    go_enter Tryz.func82, Tryz.ntmps82
    go_wp2
    go_ret
    exact saysW_f HN.out
  · have HN : Hid (wordB x) := .inr ⟨h2, h3⟩
    go_enter Tryz.func82, Tryz.ntmps82
    go_wp2
    go_ret
    exact saysW_t HN.out
  · have HN : Hid (¬ wordB x) := fun h => by unfold wordB at h; omega
    have z2 : decide (x ≤ 57) = false := decide_eq_false (by omega)
    go_enter Tryz.func82, Tryz.ntmps82
    go_wp2
    go_ret
    exact saysW_f HN.out
  · have HN : Hid (¬ wordB x) := fun h => by unfold wordB at h; omega
    go_enter Tryz.func82, Tryz.ntmps82
    go_wp2
    go_ret
    exact saysW_f HN.out

set_option maxRecDepth 10000 in
set_option maxHeartbeats 1000000 in
theorem isLabelByte_any (x : Int) (w : World) : Calls Tryz.prog 52 #[.int .u8 x] w (SaysW (labB x) w) := by
  go_enter Tryz.func52, Tryz.ntmps52
  go_wp2_with fail
  refine (isWordByte_any x _).mono ?_
  rintro e w1 ⟨b, rfl, HV, rfl⟩
  cases b with
  | true =>
    have HN : Hid (labB x) := .inl (HV.out.1 rfl)
    clear HV
    go_wp2
    go_ret
    exact saysW_t HN.out
  | false =>
    by_cases h : x = 45
    · have HN : Hid (labB x) := .inr h
      have z : (x == 45) = true := beq_iff_eq.2 h
      clear HV h
      go_wp2
      go_ret
      exact saysW_t HN.out
    · have HN : Hid (¬ labB x) := fun q => by
        rcases q with q | q
        · exact Bool.false_ne_true (HV.out.2 q)
        · exact h q
      have z : (x == 45) = false := beq_false_of_ne h
      clear HV h
      go_wp2
      go_ret
      exact saysW_f HN.out

set_option maxRecDepth 10000 in
set_option maxHeartbeats 1000000 in
theorem everyLabel_any (s : ByteArray) (w : World) (hs : s.size ≤ 1048576) :
    Calls Tryz.prog 81 #[.string s, .func (Fn.func 52) #[] #[]] w (SaysW (allB labB s s.size) w) := by
  go_enter Tryz.func81, Tryz.ntmps81
  go_wp2
  go_loopw [5] (fun i wr => ∃ k : Nat, k ≤ s.size ∧ i = .int .i64 k ∧ Hid (allB labB s k) ∧ w = wr) (fun i _ => s.size - (intOf i).toNat)
  case atStart => exact ⟨0, Nat.zero_le _, rfl, (fun j hj => absurd hj (Nat.not_lt_zero _)), rfl⟩
  case round =>
    obtain ⟨k, hk, rfl, HP, rfl⟩ := hrel
    by_cases hlt : k < s.size
    · have HX : Hid (cAt s k = (s[k].toNat : Int)) := cAt_get s k hlt
      go_wp2_with fail
      refine (isLabelByte_any _ _).mono ?_
      rintro e w1 ⟨b, rfl, HV, rfl⟩
      cases b with
      | false =>
        have HN : Hid (¬ allB labB s s.size) := fun h => Bool.false_ne_true (HV.out.2 (by rw [← HX.out]; exact h k hlt))
        clear HV HP
        go_wp2
        go_ret
        exact saysW_f HN.out
      | true =>
        have HN : Hid (allB labB s (k + 1)) := allB_succ HP.out (by rw [HX.out]; exact HV.out.1 rfl)
        clear HP HV
        go_wp2
        go_roundw
        case rel => exact ⟨k + 1, by omega, by go_num, HN, by trivial⟩
        case measure => simp [intOf]; omega
    · obtain rfl : k = s.size := by omega
      go_wp2
      go_ret
      exact saysW_t HP.out

set_option maxRecDepth 10000 in
set_option maxHeartbeats 1000000 in
theorem wordLabel_any (s : ByteArray) (w : World) (hs : s.size ≤ 1048576) :
    Calls Tryz.prog 51 #[.string s, .int .i64 20, .func (Fn.func 52) #[] #[]] w (SaysW ((1 ≤ s.size ∧ s.size ≤ 20) ∧ allB labB s s.size) w) := by
  obtain ⟨P, hP⟩ : ∃ P : Prop, P = ((1 ≤ s.size ∧ s.size ≤ 20) ∧ allB labB s s.size) := ⟨_, rfl⟩
  rw [← hP]
  have HP : Hid (P = ((1 ≤ s.size ∧ s.size ≤ 20) ∧ allB labB s s.size)) := hP
  clear hP
  rcases Nat.eq_zero_or_pos s.size with h0 | h0
  · have HN : Hid (¬ P) := fun h => by rw [HP.out] at h; omega
    have z : s.toList.isEmpty = true := by
      rw [ByteArray.toList_eq]
      have : s.data.toList = [] := List.eq_nil_of_length_eq_zero (by simpa using h0)
      rw [this]
      rfl
    clear h0
    go_enter Tryz.func51, Tryz.ntmps51
    go_wp2
    go_ret
    exact saysW_f HN.out
  · have z : s.toList.isEmpty = false := by
      rw [ByteArray.toList_eq]
      cases hl : s.data.toList with
      | nil => have : s.data.toList.length = 0 := by rw [hl]; rfl
               simp at this
               have h2 : s.size = 0 := by rw [this]; rfl
               omega
      | cons _ _ => rfl
    by_cases h20 : (s.size : Int) ≤ 20
    · go_enter Tryz.func51, Tryz.ntmps51
      go_wp2_with fail
      refine (everyLabel_any s _ hs).mono ?_
      rintro e w1 ⟨b, rfl, HV, rfl⟩
      cases b with
      | true =>
        have HN : Hid P := by show P; rw [HP.out]; exact ⟨⟨by omega, by omega⟩, HV.out.1 rfl⟩
        clear HV
        go_wp2
        go_ret
        exact saysW_t HN.out
      | false =>
        have HN : Hid (¬ P) := fun h => by rw [HP.out] at h; exact Bool.false_ne_true (HV.out.2 h.2)
        clear HV
        go_wp2
        go_ret
        exact saysW_f HN.out
    · have HN : Hid (¬ P) := fun h => by rw [HP.out] at h; omega
      go_enter Tryz.func51, Tryz.ntmps51
      go_wp2
      go_ret
      exact saysW_f HN.out

end Go.Proofs.YtoncodoimnideaaGreatDoor
