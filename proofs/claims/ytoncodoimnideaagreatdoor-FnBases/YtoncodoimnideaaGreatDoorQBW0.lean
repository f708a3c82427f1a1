import Derived.Test.YtoncodoimnideaaGreatDoorMGN
import Derived.Test.YtoncodoimnideaaGreatDoorHM2
namespace Go.Proofs.YtoncodoimnideaaGreatDoor
open Go.RowKit

/-! Hosts, patterns and bases: what the laws of wild hosts and of bases say, of the pure answers. -/

theorem ext_ba {s t : ByteArray} (h : s.size = t.size) (k : ∀ j, j < s.size → cAt s j = cAt t j) : s = t := by
  have e : s.data.toList = t.data.toList := by
    refine List.ext_getElem (by rw [← Lib.size_eq, ← Lib.size_eq]; exact h) fun j h1 h2 => ?_
    have h3 := k j (by rw [Lib.size_eq]; exact h1)
    unfold cAt at h3
    rw [List.getD_eq_getElem?_getD, List.getD_eq_getElem?_getD, List.getElem?_eq_getElem h1, List.getElem?_eq_getElem h2] at h3
    apply UInt8.toNat_inj.1
    simp only [Option.getD_some] at h3
    omega
  cases s; cases t
  congr 1
  exact Array.toList_inj.1 e
theorem cat_left (a b : ByteArray) (j : Nat) (h : j < a.size) : cAt (a ++ b) j = cAt a j := by
  unfold cAt
  rw [ByteArray.data_append, Array.toList_append, List.getD_eq_getElem?_getD, List.getD_eq_getElem?_getD, List.getElem?_append_left (by rw [← Lib.size_eq]; exact h)]
theorem cat_right (a b : ByteArray) (j : Nat) : cAt (a ++ b) (a.size + j) = cAt b j := by
  unfold cAt
  rw [ByteArray.data_append, Array.toList_append, List.getD_eq_getElem?_getD, List.getD_eq_getElem?_getD, List.getElem?_append_right (by rw [← Lib.size_eq]; omega), ← Lib.size_eq, Nat.add_sub_cancel_left]
theorem cat_size (a b : ByteArray) : (a ++ b).size = a.size + b.size := by
  rw [Lib.size_eq, Lib.size_eq, Lib.size_eq]; simp
/-- A text ends with another, told by its bytes. -/
theorem ends_iff (s e : ByteArray) : endsP s e ↔ e.size ≤ s.size ∧ ∀ j, j < e.size → cAt s (s.size - e.size + j) = cAt e j := by
  unfold endsP
  constructor
  · rintro ⟨h1, h2⟩
    refine ⟨h1, fun j hj => ?_⟩
    rw [← ext_cAt s (s.size - e.size) s.size j (by omega), h2]
  · rintro ⟨h1, h2⟩
    refine ⟨h1, ext_ba (by rw [ext_sz _ _ _ (Nat.le_refl _)]; omega) fun j hj => ?_⟩
    rw [ext_sz _ _ _ (Nat.le_refl _)] at hj
    rw [ext_cAt s (s.size - e.size) s.size j (by omega)]
    exact h2 j (by omega)
theorem ends_trans {a b c : ByteArray} (h : endsP a b) (k : endsP b c) : endsP a c := by
  rw [ends_iff] at h k ⊢
  obtain ⟨h1, h2⟩ := h
  obtain ⟨k1, k2⟩ := k
  refine ⟨by omega, fun j hj => ?_⟩
  rw [← k2 j hj, ← h2 (b.size - c.size + j) (by omega), show a.size - b.size + (b.size - c.size + j) = a.size - c.size + j by omega]
theorem ends_suffix (s : ByteArray) (t : Nat) (h : t ≤ s.size) : endsP s (s.extract t s.size) := by
  unfold endsP
  rw [ext_sz _ _ _ (Nat.le_refl _)]
  exact ⟨by omega, by rw [show s.size - (s.size - t) = t by omega]⟩
theorem ends_refl (s : ByteArray) : endsP s s := by
  have h := ends_suffix s 0 (Nat.zero_le _)
  rwa [ext_whole] at h
theorem dot_suffix {s : ByteArray} {t : Nat} (h : t < s.size) (hc : cAt s t = 46) : s.extract t s.size = ⟨#[46]⟩ ++ s.extract (t + 1) s.size := by
  have e1 : (⟨#[46]⟩ : ByteArray).size = 1 := rfl
  refine ext_ba (by rw [cat_size, ext_sz _ _ _ (Nat.le_refl _), ext_sz _ _ _ (Nat.le_refl _), e1]; omega) fun j hj => ?_
  rw [ext_sz _ _ _ (Nat.le_refl _)] at hj
  rw [ext_cAt s t s.size j (by omega)]
  cases j with
  | zero => rw [cat_left _ _ 0 (by decide), Nat.add_zero, hc]; rfl
  | succ j =>
    rw [show j + 1 = (⟨#[46]⟩ : ByteArray).size + j by rw [e1]; omega, cat_right, ext_cAt s (t + 1) s.size j (by omega), e1]
    congr 1
    omega

/-! A host's end behind a point. -/

theorem pcs_shift (s : ByteArray) (c : Int) (f0 : Nat) : ∀ (k f i : Nat), f0 + i + k = s.size → pcs (s.extract f0 s.size) c k f i = pcs s c k (f0 + f) (f0 + i)
  | 0, f, i, h => by
    show [(s.extract f0 s.size).extract f i] = [s.extract (f0 + f) (f0 + i)]
    rw [ext_ext s f0 f i (by omega)]
  | k + 1, f, i, h => by
    rw [pcs, pcs, ext_cAt s f0 s.size i (by omega), ext_ext s f0 f i (by omega), pcs_shift s c f0 k (i + 1) (i + 1) (by omega), pcs_shift s c f0 k f (i + 1) (by omega)]
    rfl
theorem pcs_tail (s : ByteArray) (c : Int) (t : Nat) (ht : t < s.size) (hc : cAt s t = c) : ∀ (k f i : Nat), i + k = s.size → i ≤ t → ∃ front, 1 ≤ front.length ∧ pcs s c k f i = front ++ pcs s c (s.size - (t + 1)) (t + 1) (t + 1)
  | 0, f, i, h, hi => by omega
  | k + 1, f, i, h, hi => by
    by_cases h1 : i = t
    · subst h1
      refine ⟨[s.extract f i], by simp, ?_⟩
      rw [pcs, if_pos hc, show k = s.size - (i + 1) by omega]
      rfl
    · rw [pcs]
      split
      · obtain ⟨fr, _, e⟩ := pcs_tail s c t ht hc k (i + 1) (i + 1) (by omega) (by omega)
        exact ⟨s.extract f i :: fr, by simp, by rw [e]; rfl⟩
      · exact pcs_tail s c t ht hc k f (i + 1) (by omega) (by omega)
theorem cut_tail {s : ByteArray} {c : Int} {t : Nat} (ht : t < s.size) (hc : cAt s t = c) : ∃ front, 1 ≤ front.length ∧ cutAt s c = front ++ cutAt (s.extract (t + 1) s.size) c := by
  obtain ⟨fr, h1, e⟩ := pcs_tail s c t ht hc s.size 0 0 (by omega) (Nat.zero_le _)
  refine ⟨fr, h1, ?_⟩
  unfold cutAt
  rw [e, ext_sz _ _ _ (Nat.le_refl _), pcs_shift s c (t + 1) (s.size - (t + 1)) 0 0 (by omega)]
theorem hostL_plain {L : List ByteArray} {k : Nat} : hostL L false k ↔ ∀ j, j < k → labP (L.getD j ByteArray.empty) := by
  unfold hostL isStar
  constructor
  · intro h j hj
    rcases h j hj with ⟨_, h2, _⟩ | h2
    · cases h2
    · exact h2
  · exact fun h j hj => .inr (h j hj)
theorem host_suffix {s : ByteArray} {t : Nat} (h : hostP s false) (ht : t < s.size) (hc : cAt s t = 46) : hostP (s.extract (t + 1) s.size) false := by
  obtain ⟨h1, h2, h3⟩ := h
  obtain ⟨fr, hf, e⟩ := cut_tail ht hc
  rw [hostL_plain] at h3
  rw [e] at h2 h3
  rw [List.length_append] at h2 h3
  refine ⟨by rw [ext_sz _ _ _ (Nat.le_refl _)]; omega, by omega, hostL_plain.2 fun j hj => ?_⟩
  have := h3 (fr.length + j) (by omega)
  rwa [List.getD_eq_getElem?_getD, List.getElem?_append_right (by omega), Nat.add_sub_cancel_left, ← List.getD_eq_getElem?_getD] at this
theorem host_wild {s : ByteArray} (h : hostP s false) : hostP s true := ⟨h.1, h.2.1, fun j hj => .inr (hostL_plain.1 h.2.2 j hj)⟩
theorem host_first {s : ByteArray} (h : hostP s false) : cAt s 0 ≠ 42 := by
  intro h0
  obtain ⟨j, r, e, h1, h2, h3⟩ := cut_head s 46
  have hl := hostL_plain.1 h.2.2 0 (by rw [e]; simp)
  rw [e, List.getD_cons_zero] at hl
  refine star_not_lab _ ?_ hl
  have hp : 0 < (s.extract 0 j).size := by have := hl.1.1; omega
  rw [ext_sz _ _ _ h1] at hp
  rw [ext_cAt s 0 j 0 (by omega)]
  exact h0
theorem unstar_host {s : ByteArray} (h : hostP s false) : unstar s = s := by
  unfold unstar
  rw [if_neg (host_first h)]
/-- Without a star a pattern is a host. -/
theorem host_plain {s : ByteArray} (h : hostP s true) (h0 : cAt s 0 ≠ 42) : hostP s false := by
  refine ⟨h.1, h.2.1, hostL_plain.2 fun j hj => ?_⟩
  rcases h.2.2 j hj with ⟨rfl, _, h3, _⟩ | h1
  · exfalso
    apply h0
    obtain ⟨j, r, e, h4, h5, h6⟩ := cut_head s 46
    rw [e, List.getD_cons_zero] at h3
    have hs : (s.extract 0 j).size = 1 := by rw [h3]; rfl
    rw [ext_sz _ _ _ h4] at hs
    rw [← Nat.zero_add 0, ← ext_cAt s 0 j 0 (by omega), h3]
    rfl
  · exact h1
theorem match_self {p : ByteArray} (h : hostP p true) (h0 : cAt p 0 ≠ 42) : matchP p p := ⟨host_plain h h0, h, .inl rfl⟩
theorem bh_split {s : ByteArray} (c : UInt8) {t : Nat} (ht : t < s.size) (hc : cAt s t = (c.toNat : Int)) (h : ∀ j, j < t → cAt s j ≠ (c.toNat : Int)) : bh s (c.toNat : Int) = s.extract (t + 1) s.size := by
  rcases index_one s c s.size 0 (by omega) (fun j h => absurd h (Nat.not_lt_zero _)) with ⟨_, _, h3⟩ | ⟨t2, _, h2, h3, h4, h5⟩
  · exact absurd hc (h3 t ht)
  · have e : t2 = t := by
      rcases Nat.lt_trichotomy t2 t with h' | h' | h'
      · exact absurd h3 (h t2 h')
      · exact h'
      · exact absurd hc (h4 t h')
    subst e
    exact h5
theorem bh_some {s : ByteArray} (h : 0 < (bh s 46).size) : ∃ t, t < s.size ∧ cAt s t = 46 ∧ bh s 46 = s.extract (t + 1) s.size := by
  rcases index_one s 46 s.size 0 (by omega) (fun j h => absurd h (Nat.not_lt_zero _)) with ⟨_, h2, h3⟩ | ⟨t2, _, h2, h3, h4, h5⟩
  · have e : bh s 46 = ByteArray.empty := h2
    rw [e] at h
    exact absurd h (by decide)
  · exact ⟨t2, h2, h3, h5⟩
/-- A pattern with a star has something behind it. -/
theorem star_rest {p : ByteArray} (h : hostP p true) (h0 : cAt p 0 = 42) : 2 < p.size ∧ cAt p 1 = 46 ∧ hostP (p.extract 2 p.size) false := by
  obtain ⟨h1, h2⟩ := hostP_star h h0
  obtain ⟨fr, hf, e⟩ : ∃ fr, 1 ≤ List.length fr ∧ cutAt p 46 = fr ++ cutAt (p.extract 2 p.size) 46 := cut_tail (by omega) h2
  have hh : hostP (p.extract 2 p.size) false := by
    refine ⟨by rw [ext_sz _ _ _ (Nat.le_refl _)]; have := h.1; omega, by have := h.2.1; rw [e, List.length_append] at this; omega, hostL_plain.2 fun j hj => ?_⟩
    have h3 := h.2.2 (fr.length + j) (by rw [e, List.length_append]; omega)
    rcases h3 with ⟨h4, _⟩ | h4
    · omega
    · rwa [e, List.getD_eq_getElem?_getD, List.getElem?_append_right (by omega), Nat.add_sub_cancel_left, ← List.getD_eq_getElem?_getD] at h4
  have hp := hostP_pos hh
  rw [ext_sz _ _ _ (Nat.le_refl _)] at hp
  exact ⟨by omega, h2, hh⟩
theorem unstar_star {p : ByteArray} (h0 : cAt p 0 = 42) : unstar p = p.extract 2 p.size := if_pos h0
/-- What the pattern matches is within what the pattern is within. -/
theorem match_within {p h b : ByteArray} (hm : matchP p h) (hr : relH p b) : relH h b := by
  obtain ⟨h1, h2, h3⟩ := hm
  rcases h3 with rfl | ⟨h0, h3⟩
  · exact hr
  · obtain ⟨s1, s2, s3⟩ := star_rest h2 h0
    have e1 : bh p 46 = p.extract 2 p.size := bh_star (by omega) h0 s2
    have hp : 0 < (bh h 46).size := by rw [← h3, e1, ext_sz _ _ _ (Nat.le_refl _)]; omega
    obtain ⟨t, ht, hc, e2⟩ := bh_some hp
    have hends : endsP h (⟨#[46]⟩ ++ bh h 46) := by
      rw [e2, ← dot_suffix ht hc]
      exact ends_suffix h t (by omega)
    have hu : unstar p = bh h 46 := by rw [unstar_star h0, ← e1, h3]
    unfold relH at hr ⊢
    rw [hu] at hr
    rw [unstar_host h1]
    right
    rcases hr with rfl | hr
    · exact hends
    · refine ends_trans hends (ends_trans ?_ hr)
      have hd := dot_suffix (s := h) ht hc
      rw [← e2] at hd
      rw [← hd, e2]
      have := ends_suffix (h.extract t h.size) 1 (by rw [ext_sz _ _ _ (Nat.le_refl _)]; omega)
      rwa [ext_sz _ _ _ (Nat.le_refl _), ext_ext h t 1 (h.size - t) (by omega), show t + (h.size - t) = h.size by omega] at this

/-! One letter in place of the star. -/

theorem letter_cAt (c : UInt8) (p : ByteArray) (j : Nat) : cAt ((⟨#[c]⟩ : ByteArray) ++ p.extract 1 p.size) j = if j = 0 then (c.toNat : Int) else cAt p j := by
  by_cases h : j = 0
  · subst h
    rw [if_pos rfl, cat_left _ _ 0 (by show 0 < 1; decide)]
    rfl
  · rw [if_neg h]
    obtain ⟨i, rfl⟩ : ∃ i, j = (⟨#[c]⟩ : ByteArray).size + i := ⟨j - 1, by show j = 1 + (j - 1); omega⟩
    rw [cat_right]
    show cAt _ i = cAt p (1 + i)
    by_cases hi : 1 + i < p.size
    · rw [ext_cAt p 1 p.size i hi]
    · unfold cAt
      rw [List.getD_eq_getElem?_getD, List.getD_eq_getElem?_getD, List.getElem?_eq_none (by rw [← Lib.size_eq, ext_sz _ _ _ (Nat.le_refl _)]; omega), List.getElem?_eq_none (by rw [← Lib.size_eq]; omega)]
theorem letter_size (c : UInt8) (p : ByteArray) (h : 0 < p.size) : ((⟨#[c]⟩ : ByteArray) ++ p.extract 1 p.size).size = p.size := by
  rw [cat_size, ext_sz _ _ _ (Nat.le_refl _)]
  show 1 + _ = _
  omega
theorem letter_rest (c : UInt8) (p : ByteArray) (h : 2 ≤ p.size) : ((⟨#[c]⟩ : ByteArray) ++ p.extract 1 p.size).extract 2 p.size = p.extract 2 p.size := by
  have hs := letter_size c p (by omega)
  refine ext_ba ?_ fun j hj => ?_
  · rw [ext_sz _ _ _ (by rw [hs]; exact Nat.le_refl _), ext_sz _ _ _ (Nat.le_refl _)]
  · rw [ext_sz _ _ _ (by rw [hs]; exact Nat.le_refl _)] at hj
    rw [ext_cAt _ 2 p.size j (by omega), ext_cAt p 2 p.size j (by omega), letter_cAt, if_neg (by omega)]
theorem letter_match {p : ByteArray} (h : hostP p true) (h0 : cAt p 0 = 42) (c : UInt8) (hc : wordB (c.toNat : Int)) : matchP p ((⟨#[c]⟩ : ByteArray) ++ p.extract 1 p.size) := by
  obtain ⟨s1, s2, s3⟩ := star_rest h h0
  obtain ⟨o, ho⟩ : ∃ o, o = (⟨#[c]⟩ : ByteArray) ++ p.extract 1 p.size := ⟨_, rfl⟩
  have hs : o.size = p.size := by rw [ho]; exact letter_size c p (by omega)
  have hA : ∀ j, cAt o j = if j = 0 then (c.toNat : Int) else cAt p j := fun j => by rw [ho]; exact letter_cAt c p j
  have hR : o.extract 2 o.size = p.extract 2 p.size := by rw [hs, ho]; exact letter_rest c p (by omega)
  have hw : (c.toNat : Int) ≠ 46 ∧ (c.toNat : Int) ≠ 45 := by rcases hc with h | h <;> omega
  have h1 : cAt o 1 = 46 := by rw [hA, if_neg (by decide)]; exact s2
  have hb : bh o 46 = p.extract 2 p.size := by
    rw [← hR]
    exact bh_split 46 (t := 1) (by omega) h1 fun j hj => by
      obtain rfl : j = 0 := by omega
      rw [hA, if_pos rfl]
      exact hw.1
  rw [← ho]
  refine ⟨?_, h, .inr ⟨h0, by rw [hb]; exact bh_star (by omega) h0 s2⟩⟩
  have ec : cutAt o 46 = o.extract 0 1 :: cutAt (p.extract 2 p.size) 46 := by
    rw [cut_hit (t := 1) (by omega) h1 fun j hj => by
      obtain rfl : j = 0 := by omega
      rw [hA, if_pos rfl]
      exact hw.1]
    congr 1
    rw [← hR]
    unfold cutAt
    rw [ext_sz _ _ _ (Nat.le_refl _), pcs_shift o 46 2 (o.size - 2) 0 0 (by omega)]
  have ep : ∃ fr, 1 ≤ List.length fr ∧ cutAt p 46 = fr ++ cutAt (p.extract 2 p.size) 46 := cut_tail (by omega) s2
  obtain ⟨fr, hf, ep⟩ := ep
  have hl := h.2.1
  rw [ep, List.length_append] at hl
  refine ⟨by rw [hs]; exact h.1, by rw [ec, List.length_cons]; omega, hostL_plain.2 fun j hj => ?_⟩
  rw [ec] at hj ⊢
  cases j with
  | zero =>
    rw [List.getD_cons_zero]
    have hz : (o.extract 0 1).size = 1 := by rw [ext_sz _ _ _ (by omega)]
    have hx : cAt (o.extract 0 1) 0 = (c.toNat : Int) := by rw [ext_cAt o 0 1 0 (by omega), hA, if_pos rfl]
    refine ⟨⟨by omega, by omega⟩, ⟨by rw [hx]; exact hw.2, by rw [hz]; show cAt _ 0 ≠ 45; rw [hx]; exact hw.2⟩, fun j hj => ?_⟩
    obtain rfl : j = 0 := by omega
    rw [hx]
    exact .inl hc
  | succ j =>
    rw [List.getD_cons_succ]
    rw [List.length_cons] at hj
    exact hostL_plain.1 s3.2.2 j (by omega)
theorem letter_out {p b : ByteArray} (h : hostP p true) (h0 : cAt p 0 = 42) (hn : ¬ relH p b) (c : UInt8) (hc : wordB (c.toNat : Int)) (hr : relH ((⟨#[c]⟩ : ByteArray) ++ p.extract 1 p.size) b) : (⟨#[c]⟩ : ByteArray) ++ p.extract 1 p.size = b := by
  obtain ⟨s1, s2, s3⟩ := star_rest h h0
  have hm := letter_match h h0 c hc
  obtain ⟨o, ho⟩ : ∃ o, o = (⟨#[c]⟩ : ByteArray) ++ p.extract 1 p.size := ⟨_, rfl⟩
  have hs : o.size = p.size := by rw [ho]; exact letter_size c p (by omega)
  have hA : ∀ j, cAt o j = if j = 0 then (c.toNat : Int) else cAt p j := fun j => by rw [ho]; exact letter_cAt c p j
  rw [← ho] at hm hr ⊢
  unfold relH at hr hn
  rw [unstar_host hm.1] at hr
  rw [unstar_star h0] at hn
  rcases hr with hr | hr
  · exact hr
  · exfalso
    obtain ⟨T, hT⟩ : ∃ T, T = p.extract 2 p.size := ⟨_, rfl⟩
    have hTs : T.size = p.size - 2 := by rw [hT, ext_sz _ _ _ (Nat.le_refl _)]
    rw [← hT] at hn
    rw [ends_iff, cat_size, hs] at hr
    obtain ⟨r1, r2⟩ := hr
    have e1 : (⟨#[46]⟩ : ByteArray).size = 1 := rfl
    rw [e1] at r1 r2
    have hTc : ∀ j, j < T.size → cAt T j = cAt p (2 + j) := fun j hj => by rw [hT, ext_cAt p 2 p.size j (by omega)]
    apply hn
    rcases Nat.lt_trichotomy (1 + b.size) (p.size - 1) with hlt | heq | hgt
    · right
      rw [ends_iff, cat_size, e1]
      refine ⟨by omega, fun j hj => ?_⟩
      rw [hTc _ (by omega), ← r2 j hj, hA, if_neg (by omega)]
      congr 1
      omega
    · left
      refine ext_ba (by omega) fun j hj => ?_
      have := r2 (1 + j) (by omega)
      rw [show 1 + j = (⟨#[46]⟩ : ByteArray).size + j by rw [e1], cat_right, hA, if_neg (by omega)] at this
      rw [hTc j hj, ← this]
      congr 1
      rw [e1]
      omega
    · have := r2 0 (by omega)
      rw [cat_left _ _ 0 (by decide), hA, if_pos (by omega)] at this
      have h46 : cAt (⟨#[46]⟩ : ByteArray) 0 = 46 := rfl
      rw [h46] at this
      rcases hc with h | h <;> omega
/-- One of two letters stands outside. -/
theorem letters_out {p b : ByteArray} (h : hostP p true) (h0 : cAt p 0 = 42) (hn : ¬ relH p b) : ¬ (relH ((⟨#[113]⟩ : ByteArray) ++ p.extract 1 p.size) b ∧ relH ((⟨#[114]⟩ : ByteArray) ++ p.extract 1 p.size) b) := by
  rintro ⟨r1, r2⟩
  have e1 := letter_out h h0 hn 113 (.inl (by decide)) r1
  have e2 := letter_out h h0 hn 114 (.inl (by decide)) r2
  have e := e1.trans e2.symm
  have h3 := letter_cAt 113 p 0
  rw [e, letter_cAt, if_pos rfl, if_pos rfl] at h3
  revert h3
  decide

end Go.Proofs.YtoncodoimnideaaGreatDoor

