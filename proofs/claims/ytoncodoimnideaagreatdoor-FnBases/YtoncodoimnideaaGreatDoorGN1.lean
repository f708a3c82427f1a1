import Derived.Test.YtoncodoimnideaaGreatDoorHM2
import Derived.Test.YtoncodoimnideaaGreatDoorLHostOk
import Derived.BigQuiet
import Derived.Deep.QuietTactic
namespace Go.Proofs.YtoncodoimnideaaGreatDoor
open Go.RowKit

def localP (s : ByteArray) : Prop := (1 ≤ s.size ∧ s.size ≤ 20) ∧ allB wordB s s.size
/-- A mail address: one sign, a word ahead of it, a host behind it. -/
def mailP (s : ByteArray) : Prop := ∃ a b, cutAt s 64 = [a, b] ∧ localP a ∧ hostP b false

theorem pcs_none (s : ByteArray) (c : Int) : ∀ (k f i : Nat), i + k = s.size → (∀ j, i ≤ j → j < s.size → cAt s j ≠ c) → pcs s c k f i = [s.extract f s.size]
  | 0, f, i, hi, _ => by
    have e : i = s.size := by omega
    rw [e]; rfl
  | k + 1, f, i, hi, h => by
    rw [pcs, if_neg (h i (Nat.le_refl _) (by omega))]
    exact pcs_none s c k f (i + 1) (by omega) (fun j h1 h2 => h j (by omega) h2)
theorem pcs_skip (s : ByteArray) (c : Int) (t : Nat) (ht : t < s.size) (hc : cAt s t = c) : ∀ (k f i : Nat), i + k = s.size → i ≤ t → (∀ j, i ≤ j → j < t → cAt s j ≠ c) →
    pcs s c k f i = s.extract f t :: pcs s c (s.size - (t + 1)) (t + 1) (t + 1)
  | 0, f, i, hi, hit, _ => by omega
  | k + 1, f, i, hi, hit, h => by
    by_cases e : i = t
    · subst e
      rw [pcs, if_pos hc, show s.size - (i + 1) = k by omega]
    · rw [pcs, if_neg (h i (Nat.le_refl _) (by omega))]
      exact pcs_skip s c t ht hc k f (i + 1) (by omega) (by omega) (fun j h1 h2 => h j (by omega) h2)
theorem cut_none {s : ByteArray} {c : Int} (h : ∀ j, j < s.size → cAt s j ≠ c) : cutAt s c = [s] := by
  unfold cutAt
  rw [pcs_none s c s.size 0 0 (by omega) (fun j _ hj => h j hj), ext_whole]
theorem cut_hit {s : ByteArray} {c : Int} {t : Nat} (ht : t < s.size) (hc : cAt s t = c) (h : ∀ j, j < t → cAt s j ≠ c) : cutAt s c = s.extract 0 t :: pcs s c (s.size - (t + 1)) (t + 1) (t + 1) :=
  pcs_skip s c t ht hc s.size 0 0 (by omega) (Nat.zero_le _) (fun j _ hj => h j hj)

/-- Each byte of a text is the sign, or lies in a piece. -/
theorem pcs_cover (s : ByteArray) (c : Int) : ∀ (k f i : Nat), i + k = s.size → f ≤ i → ∀ j, f ≤ j → j < s.size → cAt s j = c ∨ ∃ p ∈ pcs s c k f i, ∃ t, t < p.size ∧ cAt p t = cAt s j
  | 0, f, i, hi, hf, j, hj, hjs => by
    refine .inr ⟨s.extract f i, by simp [pcs], j - f, ?_, ?_⟩
    · rw [ext_sz s f i (by omega)]; omega
    · rw [ext_cAt s f i (j - f) (by omega), show f + (j - f) = j by omega]
  | k + 1, f, i, hi, hf, j, hj, hjs => by
    unfold pcs
    by_cases hc : cAt s i = c
    · rw [if_pos hc]
      by_cases h1 : j < i
      · refine .inr ⟨s.extract f i, List.mem_cons_self, j - f, ?_, ?_⟩
        · rw [ext_sz s f i (by omega)]; omega
        · rw [ext_cAt s f i (j - f) (by omega), show f + (j - f) = j by omega]
      · by_cases h2 : j = i
        · rw [h2]; exact .inl hc
        · rcases pcs_cover s c k (i + 1) (i + 1) (by omega) (Nat.le_refl _) j (by omega) hjs with h | ⟨p, hp, q⟩
          · exact .inl h
          · exact .inr ⟨p, List.mem_cons_of_mem _ hp, q⟩
    · rw [if_neg hc]
      exact pcs_cover s c k f (i + 1) (by omega) (by omega) j hj hjs
/-- A host holds no byte but points, stars and those of labels. -/
theorem hostP_bytes {s : ByteArray} {wild : Bool} (h : hostP s wild) (j : Nat) (hj : j < s.size) : cAt s j = 46 ∨ cAt s j = 42 ∨ labB (cAt s j) := by
  rcases pcs_cover s 46 s.size 0 0 (by omega) (Nat.le_refl _) j (Nat.zero_le _) hj with h1 | ⟨p, hp, t, ht, e⟩
  · exact .inl h1
  · right
    obtain ⟨k, hk, hkp⟩ := List.getElem_of_mem hp
    have hg : (cutAt s 46).getD k ByteArray.empty = p := by
      rw [List.getD_eq_getElem?_getD, show (cutAt s 46)[k]? = some p from List.getElem?_eq_some_iff.2 ⟨hk, hkp⟩]
      rfl
    rcases h.2.2 k hk with ⟨h0, _, h3, _⟩ | h3
    · subst h0
      rw [hg] at h3
      subst h3
      have h1 : (star : ByteArray).size = 1 := rfl
      have e0 : t = 0 := by omega
      subst e0
      rw [← e]
      exact .inl rfl
    · rw [hg] at h3
      rw [← e]
      exact .inr (h3.2.2 t ht)
theorem host_no64 {s : ByteArray} {wild : Bool} (h : hostP s wild) (j : Nat) (hj : j < s.size) : cAt s j ≠ 64 := by
  intro e
  rcases hostP_bytes h j hj with h1 | h1 | h1
  · omega
  · omega
  · rw [e] at h1
    rcases h1 with (h1 | h1) | h1 <;> omega

/-- A mail address by its first sign. -/
theorem mailP_iff {s : ByteArray} {t : Nat} (ht : t < s.size) (hc : cAt s t = 64) (h : ∀ j, j < t → cAt s j ≠ 64) : mailP s ↔ localP (s.extract 0 t) ∧ hostP (s.extract (t + 1) s.size) false := by
  unfold mailP
  rw [cut_hit ht hc h]
  constructor
  · rintro ⟨a, b, e, h1, h2⟩
    have e1 := (List.cons.inj e).1
    have e2 := (List.cons.inj e).2
    obtain ⟨j, r, e3, _, h5, h6, h7⟩ := pcs_head s 64 (s.size - (t + 1)) (t + 1) (t + 1) (by omega) (Nat.le_refl _)
    rw [e3] at e2
    have e4 := (List.cons.inj e2).1
    have e5 := (List.cons.inj e2).2
    rcases h7 with ⟨_, h8⟩ | ⟨h8, _⟩
    · rw [h8] at e4
      rw [e1, e4]
      exact ⟨h1, h2⟩
    · exact absurd e5 h8
  · rintro ⟨h1, h2⟩
    refine ⟨_, _, ?_, h1, h2⟩
    rw [pcs_none s 64 _ _ _ (by omega) (fun j h3 h4 => ?_)]
    have h5 := host_no64 h2 (j - (t + 1)) (by rw [ext_sz s _ _ (Nat.le_refl _)]; omega)
    rw [ext_cAt s _ _ _ (by omega), show t + 1 + (j - (t + 1)) = j by omega] at h5
    exact h5
theorem mailP_none {s : ByteArray} (h : ∀ j, j < s.size → cAt s j ≠ 64) : ¬ mailP s := by
  rintro ⟨a, b, e, _⟩
  rw [cut_none h] at e
  cases e

set_option maxRecDepth 10000 in
set_option maxHeartbeats 1000000 in
theorem everyWord_any (s : ByteArray) (w : World) (hs : s.size ≤ 1048576) :
    Calls Tryz.prog 81 #[.string s, .func (Fn.func 82) #[] #[]] w (SaysW (allB wordB s s.size) w) := by
  go_enter Tryz.func81, Tryz.ntmps81
  go_wp2
  go_loopw [5] (fun i wr => ∃ k : Nat, k ≤ s.size ∧ i = .int .i64 k ∧ Hid (allB wordB s k) ∧ w = wr) (fun i _ => s.size - (intOf i).toNat)
  case atStart => exact ⟨0, Nat.zero_le _, rfl, (fun j hj => absurd hj (Nat.not_lt_zero _)), rfl⟩
  case round =>
    obtain ⟨k, hk, rfl, HP, rfl⟩ := hrel
    by_cases hlt : k < s.size
    · have HX : Hid (cAt s k = (s[k].toNat : Int)) := cAt_get s k hlt
      go_wp2_with fail
      refine (isWordByte_any _ _).mono ?_
      rintro e w1 ⟨b, rfl, HV, rfl⟩
      cases b with
      | false =>
        have HN : Hid (¬ allB wordB s s.size) := fun h => Bool.false_ne_true (HV.out.2 (by rw [← HX.out]; exact h k hlt))
        clear HV HP
        go_wp2
        go_ret
        exact saysW_f HN.out
      | true =>
        have HN : Hid (allB wordB s (k + 1)) := allB_succ HP.out (by rw [HX.out]; exact HV.out.1 rfl)
        clear HP HV
        go_wp2
        go_roundw
        case rel => exact ⟨k + 1, by omega, by go_num, HN, by trivial⟩
        case measure => simp [intOf]; omega
    · obtain rfl : k = s.size := by omega
      go_wp2
      go_ret
      exact saysW_t HP.out

set_option maxRecDepth 10000 in
set_option maxHeartbeats 1000000 in
theorem wordMail_any (s : ByteArray) (w : World) (hs : s.size ≤ 1048576) :
    Calls Tryz.prog 51 #[.string s, .int .i64 20, .func (Fn.func 82) #[] #[]] w (SaysW (localP s) w) := by
  obtain ⟨P, hP⟩ : ∃ P : Prop, P = localP s := ⟨_, rfl⟩
  rw [← hP]
  have HP : Hid (P = ((1 ≤ s.size ∧ s.size ≤ 20) ∧ allB wordB s s.size)) := hP
  clear hP
  rcases Nat.eq_zero_or_pos s.size with h0 | h0
  · have HN : Hid (¬ P) := fun h => by rw [HP.out] at h; omega
    have z : s.toList.isEmpty = true := by
      rw [ByteArray.toList_eq]
      have : s.data.toList = [] := List.eq_nil_of_length_eq_zero (by simpa using h0)
      rw [this]
      rfl
    clear h0
    go_enter Tryz.func51, Tryz.ntmps51
    go_wp2
    go_ret
    exact saysW_f HN.out
  · have z : s.toList.isEmpty = false := by
      rw [ByteArray.toList_eq]
      cases hl : s.data.toList with
      | nil => have : s.data.toList.length = 0 := by rw [hl]; rfl
               simp at this
               have h2 : s.size = 0 := by rw [this]; rfl
               omega
      | cons _ _ => rfl
    by_cases h20 : (s.size : Int) ≤ 20
    · go_enter Tryz.func51, Tryz.ntmps51
      go_wp2_with fail
      refine (everyWord_any s _ hs).mono ?_
      rintro e w1 ⟨b, rfl, HV, rfl⟩
      cases b with
      | true =>
        have HN : Hid P := by show P; rw [HP.out]; exact ⟨⟨by omega, by omega⟩, HV.out.1 rfl⟩
        clear HV
        go_wp2
        go_ret
        exact saysW_t HN.out
      | false =>
        have HN : Hid (¬ P) := fun h => by rw [HP.out] at h; exact Bool.false_ne_true (HV.out.2 h.2)
        clear HV
        go_wp2
        go_ret
        exact saysW_f HN.out
    · have HN : Hid (¬ P) := fun h => by rw [HP.out] at h; omega
      go_enter Tryz.func51, Tryz.ntmps51
      go_wp2
      go_ret
      exact saysW_f HN.out

set_option maxRecDepth 10000 in
set_option maxHeartbeats 2000000 in
theorem l6Local_any (s : ByteArray) (w : World) (hs : s.size ≤ 1048576) : Calls Tryz.prog 70 #[.string s] w (SaysW (localP s) w) := by
  go_enter Tryz.func70, Tryz.ntmps70
  go_wp2
  go_loopw [3] (fun i wr => ∃ k : Nat, k ≤ s.size ∧ i = .int .i64 k ∧ Hid (allB wordB s k) ∧ w = wr) (fun i _ => s.size - (intOf i).toNat)
  case atStart => exact ⟨0, Nat.zero_le _, rfl, (fun j hj => absurd hj (Nat.not_lt_zero _)), rfl⟩
  case round =>
    obtain ⟨k, hk, rfl, HP, rfl⟩ := hrel
    by_cases hlt : k < s.size
    · have hx := cAt_get s k hlt
      have GOOD : Hid (wordB (s[k].toNat : Int) → allB wordB s (k + 1)) := fun h => allB_succ HP.out (by rw [hx]; exact h)
      have BAD : Hid (¬ wordB (s[k].toNat : Int) → ¬ localP s) := fun h q => h (by rw [← hx]; exact q.2 k hlt)
      clear HP hx
      by_cases hb : wordB (s[k].toNat : Int)
      · have HN : Hid (allB wordB s (k + 1)) := GOOD.out hb
        clear GOOD BAD
        have hc : (97 ≤ (s[k].toNat : Int) ∧ (s[k].toNat : Int) ≤ 122) ∨ ((s[k].toNat : Int) < 97 ∧ 48 ≤ (s[k].toNat : Int) ∧ (s[k].toNat : Int) ≤ 57) := by
          rcases hb with h | h
          · exact .inl h
          · exact .inr ⟨by omega, h.1, h.2⟩
        clear hb
        rcases hc with ⟨c1, c2⟩ | ⟨c1, c2, c3⟩
        all_goals
          go_wp2
          go_roundw
          case rel => exact ⟨k + 1, by omega, by go_num, HN, by trivial⟩
          case measure => simp [intOf]; omega
      · have HN : Hid (¬ localP s) := BAD.out hb
        clear GOOD BAD
        have hc : (97 ≤ (s[k].toNat : Int) ∧ 122 < (s[k].toNat : Int) ∧ 48 ≤ (s[k].toNat : Int) ∧ 57 < (s[k].toNat : Int)) ∨ ((s[k].toNat : Int) < 97 ∧ 48 ≤ (s[k].toNat : Int) ∧ 57 < (s[k].toNat : Int)) ∨ ((s[k].toNat : Int) < 97 ∧ (s[k].toNat : Int) < 48) := by
          unfold wordB at hb
          omega
        clear hb
        rcases hc with ⟨c1, c2, c3, c4⟩ | ⟨c1, c2, c3⟩ | ⟨c1, c2⟩
        · have z1 : decide ((s[k].toNat : Int) ≤ 122) = false := decide_eq_false (by omega)
          have z2 : decide ((s[k].toNat : Int) ≤ 57) = false := decide_eq_false (by omega)
          go_wp2
          go_ret
          exact saysW_f HN.out
        · have z2 : decide ((s[k].toNat : Int) ≤ 57) = false := decide_eq_false (by omega)
          go_wp2
          go_ret
          exact saysW_f HN.out
        · go_wp2
          go_ret
          exact saysW_f HN.out
    · obtain rfl : k = s.size := by omega
      by_cases c1 : 1 ≤ (s.size : Int)
      · by_cases c2 : (s.size : Int) ≤ 20
        · have HN : Hid (localP s) := ⟨⟨by omega, by omega⟩, HP.out⟩
          clear HP
          go_wp2
          go_ret
          exact saysW_t HN.out
        · have HN : Hid (¬ localP s) := fun h => by have := h.1.2; omega
          clear HP
          go_wp2
          go_ret
          exact saysW_f HN.out
      · have HN : Hid (¬ localP s) := fun h => by have := h.1.1; omega
        clear HP
        go_wp2
        go_ret
        exact saysW_f HN.out

end Go.Proofs.YtoncodoimnideaaGreatDoor
