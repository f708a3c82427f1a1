import Derived.Test.YtoncodoimnideaaGreatDoorH6
import Derived.Lib.CutLaws
namespace Go.Proofs.YtoncodoimnideaaGreatDoor
open Go.RowKit

/-- What stands behind the first sign. -/
def behind (s : ByteArray) (c : Int) : Nat → Nat → ByteArray
  | 0, _ => ByteArray.empty
  | k + 1, i => if cAt s i = c then s.extract (i + 1) s.size else behind s c k (i + 1)
def bh (s : ByteArray) (c : Int) : ByteArray := behind s c s.size 0
def has (s : ByteArray) (c : Int) : Prop := ∃ j, j < s.size ∧ cAt s j = c

theorem index_one (s : ByteArray) (cb : UInt8) : ∀ (k i : Nat), i + k = s.size → (∀ j, j < i → cAt s j ≠ (cb.toNat : Int)) →
    (Lib.index s.data.toList [cb] = -1 ∧ behind s (cb.toNat : Int) k i = ByteArray.empty ∧ (∀ j, j < s.size → cAt s j ≠ (cb.toNat : Int))) ∨
    (∃ t : Nat, Lib.index s.data.toList [cb] = (t : Int) ∧ t < s.size ∧ cAt s t = (cb.toNat : Int) ∧ (∀ j, j < t → cAt s j ≠ (cb.toNat : Int)) ∧ behind s (cb.toNat : Int) k i = s.extract (t + 1) s.size)
  | 0, i, hi, hno => by
    refine .inl ⟨?_, rfl, fun j hj => hno j (by omega)⟩
    refine Lib.index_none fun j _ => ?_
    rw [Bool.eq_false_iff]
    intro h
    rw [occ_one] at h
    have hl : j < s.data.toList.length := (List.getElem?_eq_some_iff.1 h).1
    rw [← Lib.size_eq] at hl
    exact hno j (by omega) ((cAt_some hl).1 h)
  | k + 1, i, hi, hno => by
    have hlt : i < s.size := by omega
    unfold behind
    by_cases hc : cAt s i = (cb.toNat : Int)
    · rw [if_pos hc]
      refine .inr ⟨i, ?_, hlt, hc, hno, rfl⟩
      refine Lib.index_first ?_ ?_ ?_
      · rw [← Lib.size_eq]; omega
      · rw [occ_one]; exact (cAt_some hlt).2 hc
      · intro j hj
        rw [Bool.eq_false_iff]
        intro h
        rw [occ_one] at h
        exact hno j hj ((cAt_some (by omega)).1 h)
    · rw [if_neg hc]
      exact index_one s cb k (i + 1) (by omega) (fun j h1 => by
        by_cases e : j = i
        · rw [e]; exact hc
        · exact hno j (by omega))

theorem cut_bh (s : ByteArray) (cb : UInt8) : (⟨(Lib.cut s.data.toList [cb]).2.1.toArray⟩ : ByteArray) = bh s (cb.toNat : Int) := by
  have hsep : (⟨#[cb]⟩ : ByteArray).data.toList = [cb] := rfl
  rcases index_one s cb s.size 0 (by omega) (fun j h => absurd h (Nat.not_lt_zero _)) with ⟨h1, h2, _⟩ | ⟨t, h1, _, _, _, h2⟩
  · exact (Lib.cutB_miss s ⟨#[cb]⟩ h1).2.1.trans h2.symm
  · exact (Lib.cutB_hit s ⟨#[cb]⟩ t h1).2.1.trans h2.symm

theorem ext_cAt (s : ByteArray) (f j t : Nat) (ht : f + t < j) : cAt (s.extract f j) t = cAt s (f + t) := by
  unfold cAt
  rw [Lib.extract_data]
  simp only [List.getD_eq_getElem?_getD, List.getElem?_take, List.getElem?_drop]
  rw [if_pos (by omega)]
theorem ext_sz (s : ByteArray) (f j : Nat) (hj : j ≤ s.size) : (s.extract f j).size = j - f := by
  rw [Lib.size_eq, Lib.extract_data, List.length_take, List.length_drop]
  rw [Lib.size_eq] at hj
  omega

/-- The first piece: it ends at the first sign, or is all. -/
theorem pcs_head (s : ByteArray) (c : Int) : ∀ (k f i : Nat), i + k = s.size → f ≤ i →
    ∃ j r, pcs s c k f i = s.extract f j :: r ∧ i ≤ j ∧ j ≤ s.size ∧ (∀ t, i ≤ t → t < j → cAt s t ≠ c) ∧ ((r = [] ∧ j = s.size) ∨ (r ≠ [] ∧ j < s.size ∧ cAt s j = c))
  | 0, f, i, hi, hf => ⟨i, [], rfl, Nat.le_refl _, by omega, fun t h1 h2 => by omega, .inl ⟨rfl, by omega⟩⟩
  | k + 1, f, i, hi, hf => by
    unfold pcs
    by_cases hc : cAt s i = c
    · rw [if_pos hc]
      refine ⟨i, _, rfl, Nat.le_refl _, by omega, fun t h1 h2 => by omega, .inr ⟨fun h => ?_, by omega, hc⟩⟩
      have := (pcs_len s c k (i + 1) (i + 1)).1
      rw [h] at this
      simp at this
    · rw [if_neg hc]
      obtain ⟨j, r, h1, h2, h3, h4, h5⟩ := pcs_head s c k f (i + 1) (by omega) (by omega)
      refine ⟨j, r, h1, by omega, h3, fun t a b => ?_, h5⟩
      by_cases e : t = i
      · rw [e]; exact hc
      · exact h4 t (by omega) b
theorem cut_head (s : ByteArray) (c : Int) : ∃ j r, cutAt s c = s.extract 0 j :: r ∧ j ≤ s.size ∧ (∀ t, t < j → cAt s t ≠ c) ∧ ((r = [] ∧ j = s.size) ∨ (r ≠ [] ∧ j < s.size ∧ cAt s j = c)) := by
  obtain ⟨j, r, h1, _, h3, h4, h5⟩ := pcs_head s c s.size 0 0 (by omega) (Nat.le_refl _)
  exact ⟨j, r, h1, h3, fun t ht => h4 t (Nat.zero_le _) ht, h5⟩

theorem star_not_lab (b : ByteArray) (h : cAt b 0 = 42) : ¬ labP b := by
  rintro ⟨⟨h1, _⟩, _, h3⟩
  have := h3 0 (by omega)
  rw [h] at this
  rcases this with (h | h) | h <;> omega

theorem hostP_pos {s : ByteArray} {wild : Bool} (h : hostP s wild) : 0 < s.size := by
  rcases Nat.eq_zero_or_pos s.size with h0 | h0
  · obtain ⟨j, r, e, hj, _, hr⟩ := cut_head s 46
    have hj0 : j = 0 := by omega
    subst hj0
    have hsz : (s.extract 0 0).size = 0 := ext_sz s 0 0 (Nat.zero_le _)
    have h2 := h.2.2 0 (cutAt_len s 46).1
    rw [e] at h2
    rcases h2 with ⟨_, _, h3, _⟩ | ⟨⟨h3, _⟩, _⟩
    · have h4 : (s.extract 0 0).size = 1 := by
        have : (s.extract 0 0 :: r).getD 0 ByteArray.empty = s.extract 0 0 := rfl
        rw [this] at h3
        rw [h3]
        rfl
      omega
    · have : (s.extract 0 0 :: r).getD 0 ByteArray.empty = s.extract 0 0 := rfl
      rw [this] at h3
      omega
  · exact h0

/-- A host that is right and opens with a star opens with a star and a point. -/
theorem hostP_star {s : ByteArray} {wild : Bool} (h : hostP s wild) (h0 : cAt s 0 = 42) : 2 ≤ s.size ∧ cAt s 1 = 46 := by
  have hp := hostP_pos h
  obtain ⟨j, r, e, hj, hno, hr⟩ := cut_head s 46
  have h2 := h.2.2 0 (cutAt_len s 46).1
  rw [e] at h2
  have hg : (s.extract 0 j :: r).getD 0 ByteArray.empty = s.extract 0 j := rfl
  have hj0 : 0 < j := by
    rcases Nat.eq_zero_or_pos j with hz | hz
    · subst hz
      rcases hr with ⟨_, h3⟩ | ⟨_, _, h3⟩
      · omega
      · rw [h0] at h3; omega
    · exact hz
  rcases h2 with ⟨_, _, h3, h4⟩ | h3
  · rw [hg] at h3
    have h5 : (s.extract 0 j).size = 1 := by rw [h3]; rfl
    rw [ext_sz s 0 j hj] at h5
    have hj1 : j = 1 := by omega
    subst hj1
    rcases hr with ⟨h6, _⟩ | ⟨_, h6, h7⟩
    · rw [h6] at h4; simp at h4
    · exact ⟨by omega, h7⟩
  · rw [hg] at h3
    exact absurd h3 (star_not_lab _ (by rw [ext_cAt s 0 j 0 (by omega)]; exact h0))

theorem bh_star {s : ByteArray} (h2 : 2 ≤ s.size) (h0 : cAt s 0 = 42) (h1 : cAt s 1 = 46) : bh s 46 = s.extract 2 s.size := by
  unfold bh
  obtain ⟨k, hk⟩ : ∃ k, s.size = k + 2 := ⟨s.size - 2, by omega⟩
  rw [show behind s 46 s.size 0 = behind s 46 (k + 2) 0 by rw [hk]]
  unfold behind
  rw [if_neg (by rw [h0]; decide)]
  unfold behind
  rw [if_pos h1]

def starDot : ByteArray := ⟨#[42, 46]⟩
theorem pre_star (s : ByteArray) : Lib.hasPrefix s.data.toList [42, 46] = true ↔ 2 ≤ s.size ∧ cAt s 0 = 42 ∧ cAt s 1 = 46 := by
  unfold Lib.hasPrefix cAt
  rw [Lib.size_eq]
  rcases h : s.data.toList with _ | ⟨a, _ | ⟨b, l⟩⟩
  · simp
  · simp [List.isPrefixOf]
  · simp only [List.isPrefixOf, Bool.and_eq_true, beq_iff_eq, List.length_cons, List.getD_cons_zero, List.getD_cons_succ, Bool.and_true]
    constructor
    · rintro ⟨h1, h2⟩
      subst h1; subst h2
      exact ⟨by omega, rfl, rfl⟩
    · rintro ⟨_, h1, h2⟩
      exact ⟨UInt8.toNat_inj.1 (by have : (42 : UInt8).toNat = 42 := rfl; omega), UInt8.toNat_inj.1 (by have : (46 : UInt8).toNat = 46 := rfl; omega)⟩
theorem trim_star {s : ByteArray} (h : Lib.hasPrefix s.data.toList [42, 46] = true) : (⟨(Lib.trimPrefix s.data.toList [42, 46]).toArray⟩ : ByteArray) = s.extract 2 s.size := by
  unfold Lib.trimPrefix
  rw [if_pos h, Lib.extract_eq, Lib.size_eq]
  congr 2
  rw [List.take_of_length_le (by rw [List.length_drop]; omega)]
  rfl

/-- What HostMatch tells. -/
def matchP (p h : ByteArray) : Prop := hostP h false ∧ hostP p true ∧ (p = h ∨ (cAt p 0 = 42 ∧ bh p 46 = bh h 46))

end Go.Proofs.YtoncodoimnideaaGreatDoor
