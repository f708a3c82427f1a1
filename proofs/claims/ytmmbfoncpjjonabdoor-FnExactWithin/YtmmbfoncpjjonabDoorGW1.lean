import Derived.Test.YtmmbfoncpjjonabDoorGN10
import Derived.Test.YtmmbfoncpjjonabDoorN9
namespace Go.Proofs.YtmmbfoncpjjonabDoor
open Go.RowKit

def endsP (s e : ByteArray) : Prop := e.size ≤ s.size ∧ s.extract (s.size - e.size) s.size = e
theorem suffix_iff (s e : ByteArray) : Lib.hasSuffix s.data.toList e.data.toList = true ↔ endsP s e := by
  rw [← Lib.hasSuffix_raw]
  unfold endsP
  rw [Bool.and_eq_true, decide_eq_true_eq, toList_same]
def unstar (s : ByteArray) : ByteArray := if cAt s 0 = 42 then s.extract 2 s.size else s
def relH (t b : ByteArray) : Prop := unstar t = b ∨ endsP (unstar t) (⟨#[46]⟩ ++ b)
def relM (t b : ByteArray) : Prop := (cAt b 0 = 46 ∧ endsP (bh t 64) b) ∨ (cAt b 0 ≠ 46 ∧ (t = b ∨ bh t 64 = b))
def relA (x y k : Int) : Prop := x / (2 : Int) ^ (32 - k).toNat = y / (2 : Int) ^ (32 - k).toNat
def withinP (g : GT) (xs : List PT) (b : GT) (ys : List PT) : Prop := genP g xs ∧ baseP b ys ∧ g.kind = b.kind ∧
  ((g.kind = 1 ∧ relH g.text b.text) ∨ (g.kind = 2 ∧ relM g.text b.text) ∨ (g.kind = 3 ∧ relA g.addr b.addr b.bits) ∨ (g.kind = 4 ∧ underP xs ys))

theorem mail_bh {s x y : ByteArray} (h : cutAt s 64 = [x, y]) : y = bh s 64 ∧ ∃ t, t < s.size ∧ cAt s t = 64 ∧ x = s.extract 0 t := by
  rcases index_one s 64 s.size 0 (by omega) (fun j h => absurd h (Nat.not_lt_zero _)) with ⟨_, _, h3⟩ | ⟨t, _, h2, h3, h4, h5⟩
  · have h3' : ∀ j, j < s.size → cAt s j ≠ 64 := h3
    rw [cut_none h3'] at h
    cases h
  · have h3' : cAt s t = 64 := h3
    rw [cut_hit h2 h3' h4] at h
    have e1 := (List.cons.inj h).1
    have e2 := (List.cons.inj h).2
    obtain ⟨j, r, e3, _, _, _, h7⟩ := pcs_head s 64 (s.size - (t + 1)) (t + 1) (t + 1) (by omega) (Nat.le_refl _)
    rw [e3] at e2
    have e4 := (List.cons.inj e2).1
    have e5 := (List.cons.inj e2).2
    rcases h7 with ⟨_, h8⟩ | ⟨h8, _⟩
    · refine ⟨?_, t, h2, h3', e1.symm⟩
      rw [h8] at e4
      exact e4.symm.trans (h5.symm)
    · exact absurd e5 h8
theorem mail_host {s : ByteArray} (h : mailP s) : hostP (bh s 64) false := by
  obtain ⟨a, b, e, _, h2⟩ := h
  rw [← (mail_bh e).1]
  exact h2
theorem mail_has {s : ByteArray} (h : mailP s) : ∃ t, t < s.size ∧ cAt s t = 64 := by
  obtain ⟨a, b, e, _, _⟩ := h
  obtain ⟨_, t, h1, h2, _⟩ := mail_bh e
  exact ⟨t, h1, h2⟩
theorem mail_first {s : ByteArray} (h : mailP s) : 0 < s.size ∧ cAt s 0 ≠ 46 := by
  obtain ⟨a, b, e, h1, _⟩ := h
  obtain ⟨_, t, h2, h3, h4⟩ := mail_bh e
  have hs := h1.1.1
  rw [h4, ext_sz s 0 t (by omega)] at hs
  refine ⟨by omega, ?_⟩
  have h5 := h1.2 0 (Nat.lt_of_lt_of_le (Nat.zero_lt_one) h1.1.1)
  rw [h4, ext_cAt s 0 t 0 (by omega)] at h5
  intro q
  rw [show (0 : Nat) + 0 = 0 from rfl, q] at h5
  rcases h5 with h5 | h5 <;> omega
theorem mbase_pos {s : ByteArray} (h : mbaseP s) : 0 < s.size := by
  rcases h with h | h | h
  · exact (mail_first h).1
  · exact hostP_pos h
  · exact h.1
theorem mbase_at {s : ByteArray} (h : mbaseP s) {j : Nat} (hj : j < s.size) (hc : cAt s j = 64) : mailP s := by
  rcases h with h | h | ⟨h0, h1, h2⟩
  · exact h
  · exact absurd hc (host_no64 h j hj)
  · rcases Nat.eq_zero_or_pos j with e | e
    · subst e; rw [h1] at hc; omega
    · have h3 := host_no64 h2 (j - 1) (by rw [ext_sz s 1 s.size (Nat.le_refl _)]; omega)
      rw [ext_cAt s 1 s.size (j - 1) (by omega), show 1 + (j - 1) = j by omega] at h3
      exact absurd hc h3
/-- What the program asks of a mail address and a base. -/
theorem relM_at {t b : ByteArray} (ht : mailP t) (hb : mbaseP b) {j : Nat} (hj : j < b.size) (hc : cAt b j = 64) : relM t b ↔ t = b := by
  have hm := mbase_at hb hj hc
  have h0 := (mail_first hm).2
  unfold relM
  constructor
  · rintro (⟨h, _⟩ | ⟨_, h | h⟩)
    · exact absurd h h0
    · exact h
    · have h3 := host_no64 (mail_host ht) j (by rw [h]; exact hj)
      rw [h] at h3
      exact absurd hc h3
  · exact fun h => .inr ⟨h0, .inl h⟩
theorem relM_no {t b : ByteArray} (ht : mailP t) (hb : ∀ j, j < b.size → cAt b j ≠ 64) : relM t b ↔ (cAt b 0 = 46 ∧ endsP (bh t 64) b) ∨ (cAt b 0 ≠ 46 ∧ bh t 64 = b) := by
  unfold relM
  constructor
  · rintro (h | ⟨h0, h | h⟩)
    · exact .inl h
    · obtain ⟨j, h1, h2⟩ := mail_has ht
      rw [h] at h1 h2
      exact absurd h2 (hb j h1)
    · exact .inr ⟨h0, h⟩
  · rintro (h | ⟨h0, h⟩)
    · exact .inl h
    · exact .inr ⟨h0, .inr h⟩
theorem unstar_trim {s : ByteArray} (h : hostP s true) : (⟨(Lib.trimPrefix s.data.toList [42, 46]).toArray⟩ : ByteArray) = unstar s := by
  unfold unstar
  by_cases h0 : cAt s 0 = 42
  · obtain ⟨h1, h2⟩ := hostP_star h h0
    rw [if_pos h0]
    exact trim_star ((pre_star s).2 ⟨h1, h0, h2⟩)
  · rw [if_neg h0]
    unfold Lib.trimPrefix
    rw [if_neg (fun q => h0 ((pre_star s).1 q).2.1), Lib.mk_data]
theorem unstar_le (s : ByteArray) : (unstar s).size ≤ s.size := by
  unfold unstar
  split
  · exact ext_le _ _ _
  · exact Nat.le_refl _

set_option maxHeartbeats 1000000 in
theorem l6Ends_any (s e : ByteArray) (w : World) (hs : s.size ≤ 1048578) (he : e.size ≤ 1048578) : Calls Tryd.prog 27 #[.string s, .string e] w (SaysW (endsP s e) w) := by
  obtain ⟨P, hP⟩ : ∃ P, P = endsP s e := ⟨_, rfl⟩
  rw [← hP]
  have HP : Hid (P ↔ e.size ≤ s.size ∧ s.extract (s.size - e.size) s.size = e) := by show P ↔ _; rw [hP]; exact Iff.rfl
  clear hP
  by_cases h1 : e.size ≤ s.size
  · have z1 : decide ((e.size : Int) ≤ (s.size : Int)) = true := decide_eq_true (by omega)
    obtain ⟨d, hd⟩ : ∃ d : Nat, d = s.size - e.size := ⟨_, rfl⟩
    rw [← hd] at HP
    have hdd : (s.size : Int) - (e.size : Int) = (d : Int) := by omega
    have hdl : d ≤ s.size := by omega
    by_cases h2 : s.extract d s.size = e
    · have HN : Hid P := HP.out.2 ⟨h1, h2⟩
      have z2 : ((s.extract d s.size).toList == e.toList) = true := (toList_same _ _).2 h2
      clear HP h2 hd
      go_enter Tryd.func27, Tryd.ntmps27
      go_wp2
      go_ret
      exact saysW_t HN.out
    · have HN : Hid (¬ P) := fun q => h2 (HP.out.1 q).2
      have z2 : ((s.extract d s.size).toList == e.toList) = false := by rw [Bool.eq_false_iff]; exact fun q => h2 ((toList_same _ _).1 q)
      clear HP h2 hd
      go_enter Tryd.func27, Tryd.ntmps27
      go_wp2
      go_ret
      exact saysW_f HN.out
  · have z1 : decide ((e.size : Int) ≤ (s.size : Int)) = false := decide_eq_false (by omega)
    have HN : Hid (¬ P) := fun q => h1 (HP.out.1 q).1
    clear HP
    go_enter Tryd.func27, Tryd.ntmps27
    go_wp2
    go_ret
    exact saysW_f HN.out

end Go.Proofs.YtmmbfoncpjjonabDoor
