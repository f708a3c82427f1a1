import Derived.Test.YtjkkokjojaknkaaDoorRC0
namespace Go.Proofs.YtjkkokjojaknkaaDoor
open Go.RowKit

/-! An item's bytes are read back as the item, laxly or not, and what is read strictly is its item's bytes. -/
/-- These bytes stand at p. -/
def Sits (bs : List Int) (p : Nat) (l : List Int) : Prop := p + l.length ≤ bs.length ∧ ∀ i, i < l.length → bs.getD (p + i) 0 = l.getD i 0
theorem getD_app (a b : List Int) (i : Nat) : (a ++ b).getD i 0 = if i < a.length then a.getD i 0 else b.getD (i - a.length) 0 := by
  simp only [List.getD_eq_getElem?_getD, List.getElem?_append]
  split <;> rfl
theorem Sits.left {bs a b : List Int} {p : Nat} (h : Sits bs p (a ++ b)) : Sits bs p a := by
  refine ⟨by have := h.1; rw [List.length_append] at this; omega, fun i hi => ?_⟩
  have := h.2 i (by rw [List.length_append]; omega)
  rw [getD_app, if_pos hi] at this
  exact this
theorem Sits.right {bs a b : List Int} {p : Nat} (h : Sits bs p (a ++ b)) : Sits bs (p + a.length) b := by
  refine ⟨by have := h.1; rw [List.length_append] at this; omega, fun i hi => ?_⟩
  have := h.2 (a.length + i) (by rw [List.length_append]; omega)
  rw [getD_app, if_neg (by omega), show a.length + i - a.length = i by omega] at this
  rw [Nat.add_assoc]
  exact this
theorem Sits.join {bs a b : List Int} {p : Nat} (h : Sits bs p a) (k : Sits bs (p + a.length) b) : Sits bs p (a ++ b) := by
  refine ⟨by have := k.1; rw [List.length_append]; omega, fun i hi => ?_⟩
  rw [List.length_append] at hi
  rw [getD_app]
  by_cases hl : i < a.length
  · rw [if_pos hl]; exact h.2 i hl
  · rw [if_neg hl]
    have := k.2 (i - a.length) (by omega)
    rw [show p + a.length + (i - a.length) = p + i by omega] at this
    exact this
theorem Sits.cut {bs l : List Int} {p : Nat} (h : Sits bs p l) : (bs.drop p).take l.length = l := by
  have h1 := h.1
  refine List.ext_getElem (by simp; omega) fun i h2 h3 => ?_
  have h4 := h.2 i h3
  rw [List.getD_eq_getElem?_getD, List.getElem?_eq_getElem (by omega), List.getD_eq_getElem?_getD, List.getElem?_eq_getElem h3] at h4
  simpa using h4
theorem sits_cut (bs : List Int) (p n : Nat) (h : p + n ≤ bs.length) : Sits bs p ((bs.drop p).take n) := by
  have hl : ((bs.drop p).take n).length = n := by simp; omega
  refine ⟨by rw [hl]; exact h, fun i hi => ?_⟩
  rw [hl] at hi
  rw [List.getD_eq_getElem?_getD, List.getD_eq_getElem?_getD, List.getElem?_take, if_pos hi, List.getElem?_drop]
theorem sits_self (a b c : List Int) : Sits (a ++ (b ++ c)) a.length b := by
  refine ⟨by simp only [List.length_append]; omega, fun i hi => ?_⟩
  rw [getD_app, if_neg (by omega), show a.length + i - a.length = i by omega, getD_app, if_pos hi]
theorem Sits.whole {bs l : List Int} (h : Sits bs 0 l) (hl : bs.length = l.length) : bs = l := by
  have := h.cut
  rw [List.drop_zero, ← hl, List.take_length] at this
  exact this
theorem cut_map (bs : List Int) (q : Nat) : ∀ k, q + k ≤ bs.length → (bs.drop q).take k = (List.range k).map fun i => bs.getD (q + i) 0 := by
  intro k h
  refine List.ext_getElem (by simp; omega) fun i h2 h3 => ?_
  have h4 : i < k := by simp at h3; exact h3
  simp only [List.getElem_take, List.getElem_drop, List.getElem_map, List.getElem_range]
  rw [List.getD_eq_getElem?_getD, List.getElem?_eq_getElem (by omega)]
  rfl

theorem grp_succ (t c j : Nat) : grp t (c + 1) (j + 1) = grp t c j := by
  unfold grp
  rw [show c + 1 - 1 - (j + 1) = c - 1 - j by omega]
  by_cases h : j + 1 = c
  · rw [if_pos h, if_pos (by omega)]
  · rw [if_neg h, if_neg (by omega)]
theorem grp_first (t c : Nat) (h : 1 ≤ c) : grp t (c + 1) 0 = ((t / 128 ^ c % 128 : Nat) : Int) + 128 := by
  unfold grp
  rw [show c + 1 - 1 - 0 = c by omega, if_neg (by omega)]
theorem grp_one (t : Nat) : grp t 1 0 = ((t % 128 : Nat) : Int) := by
  unfold grp
  simp
theorem grp_div (t c : Nat) : t / 128 ^ (c + 1) = t / 128 ^ c / 128 := by
  rw [Nat.pow_succ, Nat.div_div_eq_div_mul]
theorem grpR_read {bs : List Int} {p e t : Nat} : ∀ (c n : Nat) (tag : Int) (q : Nat), 1 ≤ c → c ≤ n → q + c ≤ e → (∀ j, j < c → bs.getD (q + j) 0 = grp t c j) → tag = ((t / 128 ^ c : Nat) : Int) → grpR bs p e n tag q = .ok (t : Int) (q + c) := by
  intro c
  induction c with
  | zero => intro n tag q h1; omega
  | succ c ih =>
    intro n tag q h1 h2 h3 h4 h5
    obtain ⟨n, rfl⟩ : ∃ m, n = m + 1 := ⟨n - 1, by omega⟩
    have h0 := h4 0 (by omega)
    rw [Nat.add_zero] at h0
    rw [grp_div] at h5
    simp only [grpR]
    rw [if_neg (by omega)]
    by_cases hc : c = 0
    · subst hc
      rw [grp_one] at h0
      rw [Nat.pow_zero, Nat.div_one] at h5
      rw [if_pos (by omega), h0, h5, show ((t / 128 : Nat) : Int) * 128 + ((t % 128 : Nat) : Int) = (t : Int) by omega]
    · rw [grp_first t c (by omega)] at h0
      obtain ⟨m, hm⟩ : ∃ m, m = t / 128 ^ c := ⟨_, rfl⟩
      rw [if_neg (by omega), ih n (tag * 128 + (bs.getD q 0 - 128)) (q + 1) (by omega) (by omega) (by omega) (fun j hj => by rw [← grp_succ, ← h4 (j + 1) (by omega), show q + (j + 1) = q + 1 + j by omega]) (by rw [h0, h5, ← hm]; omega), show q + 1 + c = q + (c + 1) by omega]
theorem grpR_digits {bs : List Int} {p e : Nat} (hb : ∀ i, 0 ≤ bs.getD i 0 ∧ bs.getD i 0 ≤ 255) : ∀ (n : Nat) (tag : Int) (q : Nat) {t : Int} {nx : Nat}, 0 ≤ tag → grpR bs p e n tag q = .ok t nx → ∃ c T : Nat, 1 ≤ c ∧ nx = q + c ∧ t = T ∧ tag = ((T / 128 ^ c : Nat) : Int) ∧ ∀ j, j < c → bs.getD (q + j) 0 = grp T c j := by
  intro n
  induction n with
  | zero => intro tag q t nx _ h; simp only [grpR] at h; split at h <;> cases h
  | succ n ih =>
    intro tag q t nx h0 h
    have hq := hb q
    simp only [grpR] at h
    split at h
    · cases h
    · split at h
      · cases h
        refine ⟨1, (tag * 128 + bs.getD q 0).toNat, Nat.le_refl _, rfl, by omega, ?_, fun j hj => ?_⟩
        · rw [Nat.pow_one]; omega
        · obtain rfl : j = 0 := by omega
          rw [grp_one, Nat.add_zero]; omega
      · obtain ⟨c, T, c1, rfl, rfl, c4, c5⟩ := ih _ _ (by omega) h
        refine ⟨c + 1, T, by omega, by omega, rfl, by rw [grp_div]; omega, fun j hj => ?_⟩
        cases j with
        | zero => rw [grp_first T c c1, Nat.add_zero]; omega
        | succ j => rw [grp_succ, ← c5 j (by omega), show q + (j + 1) = q + 1 + j by omega]
theorem grpR_short {bs : List Int} {p e : Nat} : ∀ (n : Nat) (tag : Int) (q : Nat), q ≤ e → e ≤ q + n → (∀ i, q ≤ i → i < e → ¬ bs.getD i 0 < 128) → grpR bs p e n tag q = .no 1 e := by
  intro n
  induction n with
  | zero => intro tag q h1 h2 _; simp only [grpR]; rw [if_pos (by omega)]
  | succ n ih =>
    intro tag q h1 h2 h3
    simp only [grpR]
    by_cases hq : q = e
    · rw [if_pos hq]
    · rw [if_neg hq, if_neg (h3 q (Nat.le_refl _) (by omega))]
      exact ih _ _ (by omega) (by omega) fun i hi => h3 i (by omega)

/-- The first part of an item's head. -/
def tagL (x : It) : List Int := if x.tag < 31 then [firstOf x.cls x.cons + x.tag] else (firstOf x.cls x.cons + 31) :: putN x.tag.toNat
theorem headL_tag (x : It) (n : Nat) : headL x n = tagL x ++ lenL n := rfl
theorem putN_get (t j : Nat) (h : j < cnt t) : (putN t).getD j 0 = grp t (cnt t) j := by
  unfold putN putL
  rw [List.getD_eq_getElem?_getD, List.getElem?_map, List.getElem?_range h]
  rfl
theorem shape_all {x : It} (h : x.shape = true) : (0 ≤ x.cls ∧ x.cls ≤ 3) ∧ (0 ≤ x.tag ∧ x.tag ≤ 268435455) ∧ ¬ (x.cls = 0 ∧ x.tag = 0) ∧ (x.cons = true → x.body = []) ∧ (x.cons = false → x.kids = []) := by
  have h2 := shape_parts h
  unfold It.shape at h
  simp only [Bool.and_eq_true, decide_eq_true_eq] at h
  exact ⟨⟨h.1.1, h.1.2.1⟩, ⟨h.1.2.2.1, h.1.2.2.2.1⟩, h.1.2.2.2.2, h2.1, h2.2⟩
theorem tag_four {t : Int} (h0 : 0 ≤ t) (h : t ≤ 268435455) : cnt t.toNat ≤ 4 := by
  have h4 : (128 : Nat) ^ 4 = 268435456 := by decide
  exact cnt_min (by omega) (by rw [h4]; omega)
theorem first_group {t : Nat} (_h : 31 ≤ t) : grp t (cnt t) 0 ≠ 128 := by
  obtain ⟨h1, h2, h3⟩ := cnt_ok t
  by_cases hc : cnt t = 1
  · rw [hc, grp_one]; have := Nat.mod_lt t (show 0 < 128 by decide); omega
  · obtain ⟨c, hc2⟩ : ∃ c, cnt t = c + 1 := ⟨cnt t - 1, by omega⟩
    rw [hc2] at h2 h3 ⊢
    rw [grp_first t c (by omega)]
    have hlo : 128 ^ c ≤ t := by
      rcases h3 with h3 | h3
      · omega
      · exact h3
    have hpos : 0 < 128 ^ c := Nat.pow_pos (by decide)
    have e1 : 1 ≤ t / 128 ^ c := (Nat.le_div_iff_mul_le hpos).2 (by omega)
    have e2 : t / 128 ^ c < 128 := Nat.div_lt_of_lt_mul (by rw [← Nat.pow_succ]; exact h2)
    rw [Nat.mod_eq_of_lt e2]
    omega
theorem first_is {bs : List Int} {x : It} {p : Nat} (hs : x.shape = true) (h : bs.getD p 0 = firstOf x.cls x.cons + (if x.tag < 31 then x.tag else 31)) :
    clsN bs p = x.cls ∧ consN bs p = x.cons ∧ bs.getD p 0 % 32 = (if x.tag < 31 then x.tag else 31) := by
  obtain ⟨⟨c1, c2⟩, ⟨t1, t2⟩, t3, _, _⟩ := shape_all hs
  unfold clsN consN
  rw [h]
  unfold firstOf
  cases hc : x.cons with
  | true =>
    rw [if_pos rfl]
    refine ⟨by split <;> omega, decide_eq_true (by split <;> omega), by split <;> omega⟩
  | false =>
    rw [if_neg (by decide)]
    refine ⟨by split <;> omega, decide_eq_false (by split <;> omega), by split <;> omega⟩
theorem tagL_first (x : It) : (tagL x).getD 0 0 = firstOf x.cls x.cons + (if x.tag < 31 then x.tag else 31) ∧ 1 ≤ (tagL x).length := by
  unfold tagL
  split
  · exact ⟨rfl, by simp⟩
  · exact ⟨rfl, by simp⟩
theorem tagR_read {lax : Bool} {bs : List Int} {p e : Nat} {x : It} (hs : x.shape = true) (h : Sits bs p (tagL x)) (he : p + (tagL x).length ≤ e) : tagR lax bs p e = .ok x.tag (p + (tagL x).length) := by
  obtain ⟨⟨c1, c2⟩, ⟨t1, t2⟩, t3, _, _⟩ := shape_all hs
  have hf := h.2 0 (tagL_first x).2
  rw [Nat.add_zero, (tagL_first x).1] at hf
  obtain ⟨f1, f2, f3⟩ := first_is hs hf
  unfold tagR
  rw [f1, f3]
  by_cases h31 : x.tag < 31
  · rw [if_pos h31, if_neg (by omega), if_neg t3]
    have hl : (tagL x).length = 1 := by unfold tagL; rw [if_pos h31]; rfl
    rw [hl]
  · rw [if_neg h31, if_pos rfl]
    have htl : tagL x = (firstOf x.cls x.cons + 31) :: putN x.tag.toNat := by unfold tagL; rw [if_neg h31]
    have hl : (tagL x).length = cnt x.tag.toNat + 1 := by rw [htl, List.length_cons, putN, putL_len]
    have hck := cnt_ok x.tag.toNat
    have hg : ∀ j, j < cnt x.tag.toNat → bs.getD (p + 1 + j) 0 = grp x.tag.toNat (cnt x.tag.toNat) j := by
      intro j hj
      have := h.2 (j + 1) (by omega)
      rw [htl, List.getD_cons_succ, putN_get _ _ hj] at this
      rw [← this, show p + 1 + j = p + (j + 1) by omega]
    have hr := grpR_read (p := p) (e := e) (cnt x.tag.toNat) 6 0 (p + 1) hck.pos (by have := tag_four t1 t2; omega) (by omega) hg (by rw [Nat.div_eq_of_lt hck.top]; rfl)
    have ht : ((x.tag.toNat : Nat) : Int) = x.tag := Int.toNat_of_nonneg t1
    have h128 : bs.getD (p + 1) 0 ≠ 128 := by have := hg 0 (by have := hck.pos; omega); rw [Nat.add_zero] at this; rw [this]; exact first_group (by omega)
    rw [hr, ht]
    simp only
    have hno : ¬ ((lax = false ∧ (bs.getD (p + 1) 0 = 128 ∨ x.tag < 31)) ∨ 268435455 < x.tag ∨ (x.cls = 0 ∧ x.tag = 0)) := by
      rintro (⟨_, h | h⟩ | h | h)
      · exact h128 h
      · exact h31 h
      · omega
      · exact t3 h
    rw [if_neg hno, hl, show p + 1 + cnt x.tag.toNat = p + (cnt x.tag.toNat + 1) by omega]
theorem lenR_read {lax co : Bool} {bs : List Int} {q e n : Nat} (hn : n < 16777216) (h : Sits bs q (lenL n)) (he : q + (lenL n).length ≤ e) : lenR lax co bs q e = .ok (some n) (q + (lenL n).length) := by
  have hpos : 1 ≤ (lenL n).length := by
    unfold lenL
    split
    · simp
    · split
      · simp
      · split <;> simp
  have hf := h.2 0 (by omega)
  rw [Nat.add_zero] at hf
  unfold lenR
  rw [if_neg (by omega)]
  have go : ∀ (d : Nat) (ds : List Int), lenL n = ((d : Int) + 128) :: ds → ds.length = d → 1 ≤ d → d ≤ 3 → bigL ds 0 = (n : Int) → ds.getD 0 0 ≠ 0 → 128 ≤ n → (if bs.getD q 0 < 128 then (Rs.ok (some (bs.getD q 0).toNat) (q + 1) : Rs (Option Nat))
      else if bs.getD q 0 = 128 ∧ lax = true ∧ co = true then .ok none (q + 1)
      else if bs.getD q 0 = 128 ∨ 132 < bs.getD q 0 then .no 3 q
      else if e < q + 1 + (bs.getD q 0 - 128).toNat then .no 1 e
      else if lax = false ∧ (bs.getD (q + 1) 0 = 0 ∨ digR bs (q + 1) (bs.getD q 0 - 128).toNat < 128) then .no 3 q
      else .ok (some (digR bs (q + 1) (bs.getD q 0 - 128).toNat).toNat) (q + 1 + (bs.getD q 0 - 128).toNat)) = .ok (some n) (q + (lenL n).length) := by
    intro d ds e1 e2 d1 d3 e3 e4 e5
    rw [e1] at hf h he ⊢
    rw [List.length_cons] at he ⊢
    have hf2 : bs.getD q 0 = (d : Int) + 128 := hf
    have hk : (bs.getD q 0 - 128).toNat = d := by omega
    have h2 : Sits bs (q + 1) ds := Sits.right (a := [(d : Int) + 128]) h
    have hcut := h2.cut
    rw [e2] at hcut
    have hd : digR bs (q + 1) d = (n : Int) := by unfold digR; rw [hcut]; exact e3
    have h1 : bs.getD (q + 1) 0 = ds.getD 0 0 := by have := h2.2 0 (by omega); rw [Nat.add_zero] at this; exact this
    have hno : ¬ (lax = false ∧ (ds.getD 0 0 = 0 ∨ (n : Int) < 128)) := by
      rintro ⟨_, h | h⟩
      · exact e4 h
      · omega
    rw [hk, hd, h1, if_neg (by omega), if_neg (by omega), if_neg (by omega), if_neg (by omega), if_neg hno, e2, Int.toNat_natCast, show q + 1 + d = q + (d + 1) by omega]
  by_cases h1 : n < 128
  · have e1 : lenL n = [(n : Int)] := by unfold lenL; rw [if_pos h1]
    rw [e1] at hf ⊢
    have hf2 : bs.getD q 0 = (n : Int) := hf
    rw [hf2, if_pos (by omega), Int.toNat_natCast]
    rfl
  · by_cases h2 : n < 256
    · exact go 1 [(n : Int)] (by unfold lenL; rw [if_neg h1, if_pos h2]; rfl) rfl (by decide) (by decide) (by simp [bigL]) (by simp; omega) (by omega)
    · by_cases h3 : n < 65536
      · exact go 2 [(n : Int) / 256, (n : Int) % 256] (by unfold lenL; rw [if_neg h1, if_neg h2, if_pos h3]; rfl) rfl (by decide) (by decide) (by simp only [bigL]; omega) (by simp; omega) (by omega)
      · exact go 3 [(n : Int) / 65536, (n : Int) / 256 % 256, (n : Int) % 256] (by unfold lenL; rw [if_neg h1, if_neg h2, if_neg h3]; rfl) rfl (by decide) (by decide) (by simp only [bigL]; omega) (by simp; omega) (by omega)
theorem lenR_exact {co : Bool} {bs : List Int} {q e : Nat} (hb : ∀ i, 0 ≤ bs.getD i 0 ∧ bs.getD i 0 ≤ 255) (he : e ≤ bs.length) (hq : q ≤ e) {o : Option Nat} {q2 : Nat} (h : lenR false co bs q e = .ok o q2) : ∃ m, o = some m ∧ (m ≤ 20000 → Sits bs q (lenL m) ∧ q2 = q + (lenL m).length) := by
  unfold lenR at h
  by_cases h0 : q = e
  · rw [if_pos h0] at h; cases h
  rw [if_neg h0] at h
  have hbq := hb q
  have one : ∀ (d : Int), bs.getD q 0 = d → Sits bs q [d] := fun d hd => ⟨by simp; omega, fun i hi => by simp at hi; subst hi; rw [Nat.add_zero, hd]; rfl⟩
  by_cases h1 : bs.getD q 0 < 128
  · rw [if_pos h1] at h
    cases h
    refine ⟨_, rfl, fun hm => ?_⟩
    have e1 : lenL (bs.getD q 0).toNat = [bs.getD q 0] := by unfold lenL; rw [if_pos (by omega), show (((bs.getD q 0).toNat : Nat) : Int) = bs.getD q 0 by omega]
    rw [e1]
    exact ⟨one _ rfl, rfl⟩
  rw [if_neg h1, if_neg (by rintro ⟨_, h, _⟩; cases h)] at h
  by_cases h3 : bs.getD q 0 = 128 ∨ 132 < bs.getD q 0
  · rw [if_pos h3] at h; cases h
  rw [if_neg h3] at h
  by_cases h4 : e < q + 1 + (bs.getD q 0 - 128).toNat
  · rw [if_pos h4] at h; cases h
  rw [if_neg h4] at h
  by_cases h5 : false = false ∧ (bs.getD (q + 1) 0 = 0 ∨ digR bs (q + 1) (bs.getD q 0 - 128).toNat < 128)
  · rw [if_pos h5] at h; cases h
  rw [if_neg h5] at h
  obtain ⟨k, hk⟩ : ∃ k, k = (bs.getD q 0 - 128).toNat := ⟨_, rfl⟩
  have hf : bs.getD q 0 = 128 + (k : Int) := by omega
  rw [← hk] at h h4 h5
  have h6 : bs.getD (q + 1) 0 ≠ 0 := fun h => h5 ⟨by first | rfl | trivial, .inl h⟩
  have h7 : ¬ digR bs (q + 1) k < 128 := fun h => h5 ⟨by first | rfl | trivial, .inr h⟩
  cases h
  refine ⟨_, rfl, fun hm => ?_⟩
  have hs := sits_cut bs (q + 1) k (by omega)
  have hcm := cut_map bs (q + 1) k (by omega)
  rw [hcm] at hs
  unfold digR at hm h7 ⊢
  rw [hcm] at hm h7 ⊢
  have hb1 := hb (q + 1)
  have hb2 := hb (q + 2)
  have hb3 := hb (q + 3)
  have hb4 := hb (q + 4)
  have hc : k = 1 ∨ k = 2 ∨ k = 3 ∨ k = 4 := by omega
  have fin : ∀ (m : Nat), lenL m = bs.getD q 0 :: ((List.range k).map fun i => bs.getD (q + 1 + i) 0) → Sits bs q (lenL m) ∧ q + 1 + k = q + (lenL m).length := by
    intro m em
    rw [em]
    exact ⟨Sits.join (a := [bs.getD q 0]) (one _ rfl) hs, by rw [List.length_cons, List.length_map, List.length_range]; omega⟩
  refine fin _ ?_
  rcases hc with rfl | rfl | rfl | rfl
  · simp only [List.range_succ, List.range_zero, List.nil_append, List.map_cons, List.map_nil, bigL, Nat.add_zero] at hm h7 ⊢
    unfold lenL
    rw [if_neg (by omega), if_pos (by omega), show ((((0 * 256 + bs.getD (q + 1) 0 : Int).toNat : Nat)) : Int) = bs.getD (q + 1) 0 by omega, hf]
    rfl
  · simp only [List.range_succ, List.range_zero, List.nil_append, List.cons_append, List.map_cons, List.map_nil, bigL, Nat.add_zero, show q + 1 + 1 = q + 2 from rfl] at hm h7 ⊢
    unfold lenL
    rw [if_neg (by omega), if_neg (by omega), if_pos (by omega)]
    rw [show (((((0 * 256 + bs.getD (q + 1) 0) * 256 + bs.getD (q + 2) 0 : Int).toNat : Nat)) : Int) / 256 = bs.getD (q + 1) 0 by omega, show (((((0 * 256 + bs.getD (q + 1) 0) * 256 + bs.getD (q + 2) 0 : Int).toNat : Nat)) : Int) % 256 = bs.getD (q + 2) 0 by omega, hf]
    rfl
  · exfalso
    simp only [List.range_succ, List.range_zero, List.nil_append, List.cons_append, List.map_cons, List.map_nil, bigL, Nat.add_zero, show q + 1 + 1 = q + 2 from rfl, show q + 1 + 2 = q + 3 from rfl] at hm h7
    omega
  · exfalso
    simp only [List.range_succ, List.range_zero, List.nil_append, List.cons_append, List.map_cons, List.map_nil, bigL, Nat.add_zero, show q + 1 + 1 = q + 2 from rfl, show q + 1 + 2 = q + 3 from rfl, show q + 1 + 3 = q + 4 from rfl] at hm h7
    omega
theorem tagR_exact {bs : List Int} {p e : Nat} (hb : ∀ i, 0 ≤ bs.getD i 0 ∧ bs.getD i 0 ≤ 255) (he : e ≤ bs.length) (hp : p < e) {t : Int} {q : Nat} (h : tagR false bs p e = .ok t q) (bd : List Int) (ks : List It) :
    (It.mk (clsN bs p) t (consN bs p) bd ks).cls = clsN bs p ∧ Sits bs p (tagL (.mk (clsN bs p) t (consN bs p) bd ks)) ∧ q = p + (tagL (.mk (clsN bs p) t (consN bs p) bd ks)).length := by
  have hbp := hb p
  have hpl := tagR_place hp h
  refine ⟨rfl, ?_⟩
  have hfst : bs.getD p 0 = firstOf (clsN bs p) (consN bs p) + bs.getD p 0 % 32 := by
    unfold firstOf clsN consN
    by_cases hc : bs.getD p 0 / 32 % 2 = 1
    · rw [if_pos (decide_eq_true hc)]; omega
    · rw [if_neg (by rw [decide_eq_false hc]; decide)]; omega
  unfold tagR at h
  by_cases h31 : bs.getD p 0 % 32 = 31
  · rw [if_pos h31] at h
    cases hg : grpR bs p e 6 0 (p + 1) with
    | no c x => rw [hg] at h; cases h
    | ok t2 q2 =>
      rw [hg] at h
      obtain ⟨c, T, c1, rfl, rfl, c4, c5⟩ := grpR_digits hb 6 0 (p + 1) (Int.le_refl 0) hg
      simp only at h
      split at h
      · cases h
      · rename_i hn
        cases h
        have n1 : bs.getD (p + 1) 0 ≠ 128 := fun h => hn (.inl ⟨by first | rfl | trivial, .inl h⟩)
        have n2 : ¬ (T : Int) < 31 := fun h => hn (.inl ⟨by first | rfl | trivial, .inr h⟩)
        have htop : T < 128 ^ c := by
          have hz : T / 128 ^ c = 0 := by omega
          rcases Nat.div_eq_zero_iff.1 hz with h | h
          · have : 0 < 128 ^ c := Nat.pow_pos (by decide)
            omega
          · exact h
        have hcn : c = cnt T := by
          refine cnt_of ⟨c1, htop, ?_⟩
          by_cases hc1 : c = 1
          · exact .inl hc1
          · obtain ⟨d, rfl⟩ : ∃ d, c = d + 1 := ⟨c - 1, by omega⟩
            right
            have h0 := c5 0 (by omega)
            rw [grp_first T d (by omega), Nat.add_zero] at h0
            rw [show d + 1 - 1 = d by omega]
            refine Nat.le_of_not_lt fun hlt => n1 ?_
            rw [h0, Nat.div_eq_of_lt hlt]
            rfl
        have htl : tagL (.mk (clsN bs p) (T : Int) (consN bs p) bd ks) = (firstOf (clsN bs p) (consN bs p) + 31) :: putN T := by
          have : tagL (.mk (clsN bs p) (T : Int) (consN bs p) bd ks) = (firstOf (clsN bs p) (consN bs p) + 31) :: putN (T : Int).toNat := if_neg n2
          rw [this, Int.toNat_natCast]
        have hpl : (putN T).length = c := by rw [hcn]; exact putL_len _ _
        rw [htl]
        refine ⟨Sits.join (a := [firstOf (clsN bs p) (consN bs p) + 31]) ⟨by simp; omega, fun i hi => by simp at hi; subst hi; rw [Nat.add_zero, hfst, h31]; rfl⟩ ⟨?_, fun i hi => ?_⟩, ?_⟩
        · show p + 1 + (putN T).length ≤ _
          rw [hpl]; omega
        · have hi2 : i < (putN T).length := hi
          rw [hpl] at hi2
          show bs.getD (p + 1 + i) 0 = (putN T).getD i 0
          rw [putN_get T i (by omega), ← hcn]
          exact c5 i (by omega)
        · rw [List.length_cons, hpl]; omega
  · rw [if_neg h31] at h
    split at h
    · cases h
    · cases h
      have htl : tagL (.mk (clsN bs p) (bs.getD p 0 % 32) (consN bs p) bd ks) = [firstOf (clsN bs p) (consN bs p) + bs.getD p 0 % 32] := if_pos (by show bs.getD p 0 % 32 < 31; omega)
      rw [htl]
      exact ⟨⟨by simp; omega, fun i hi => by simp at hi; subst hi; rw [Nat.add_zero]; exact hfst⟩, rfl⟩

theorem enc_pos {r : Nat} {x : It} {l : List Int} (h : enc r x = some l) : 1 ≤ l.length := by
  cases r with
  | zero => cases h
  | succ r =>
    obtain ⟨_, inner, _, rfl, _⟩ := enc_parts r x l h
    have := (tagL_first x).2
    rw [List.length_append, headL_tag, List.length_append]
    omega
theorem encK_prefix (f : It → Option (List Int)) : ∀ (ks : List It) (acc l : List Int), encK f acc ks = some l → ∃ rest, l = acc ++ rest := by
  intro ks
  induction ks with
  | nil => intro acc l h; simp only [encK] at h; cases h; exact ⟨[], by simp⟩
  | cons y ys ih =>
    intro acc l h
    simp only [encK] at h
    split at h
    · cases h
    · rename_i p hp
      split at h
      · obtain ⟨rest, rfl⟩ := ih _ _ h
        exact ⟨p ++ rest, by simp⟩
      · cases h
theorem closedR_read {bs : List Int} {r e q0 : Nat} (f : Nat → Rs It) (hf : ∀ (y : It) (ly : List Int) (q : Nat), enc r y = some ly → Sits bs q ly → q + ly.length ≤ e → f q = .ok y (q + ly.length)) :
    ∀ (ks : List It) (k : Nat) (ac : List It) (acc l : List Int), encK (enc r) acc ks = some l → Sits bs q0 l → e = q0 + l.length → l.length ≤ acc.length + k → closedR f e k ac (q0 + acc.length) = .ok (ac ++ ks) e := by
  intro ks
  induction ks with
  | nil =>
    intro k ac acc l h hs he hk
    simp only [encK] at h
    cases h
    cases k with
    | zero => simp only [closedR, List.append_nil]; rw [he]
    | succ k => simp only [closedR, List.append_nil]; rw [if_neg (by omega), he]
  | cons y ys ih =>
    intro k ac acc l h hs he hk
    simp only [encK] at h
    split at h
    · cases h
    · rename_i p hp
      split at h
      · obtain ⟨rest, hr⟩ := encK_prefix _ _ _ _ h
        have hpos := enc_pos hp
        have hll : l.length = acc.length + p.length + rest.length := by rw [hr]; simp only [List.length_append]
        obtain ⟨k, rfl⟩ : ∃ m, k = m + 1 := ⟨k - 1, by omega⟩
        have hs2 : Sits bs (q0 + acc.length) p := by rw [hr] at hs; exact hs.left.right
        simp only [closedR]
        rw [if_pos (by omega), hf y p _ hp hs2 (by omega)]
        simp only
        have := ih k (ac ++ [y]) (acc ++ p) l h hs he (by rw [List.length_append]; omega)
        rw [List.length_append, ← Nat.add_assoc] at this
        rw [this, List.append_assoc]
        rfl
      · cases h
theorem itemR_read {lax : Bool} {bs : List Int} : ∀ (r : Nat) (x : It) (l : List Int) (p e : Nat), enc r x = some l → Sits bs p l → p + l.length ≤ e → e ≤ bs.length → itemR lax bs r p e = .ok x (p + l.length) := by
  intro r
  induction r with
  | zero => intro x l p e h; cases h
  | succ r ih =>
    intro x l p e h hs hle he
    have hpos := enc_pos h
    obtain ⟨hsh, inner, hi, rfl, hlen⟩ := enc_parts r x l h
    obtain ⟨_, _, _, hc1, hc2⟩ := shape_all hsh
    rw [List.length_append, headL_tag, List.length_append] at hle hlen hpos ⊢
    rw [headL_tag, List.append_assoc] at hs
    have s1 := hs.left
    have s2 := hs.right.left
    have s3 := hs.right.right
    have hf := s1.2 0 (tagL_first x).2
    rw [Nat.add_zero, (tagL_first x).1] at hf
    obtain ⟨f1, f2, _⟩ := first_is hsh hf
    simp only [itemR]
    rw [if_neg (by omega), tagR_read hsh s1 (by omega)]
    simp only
    rw [lenR_read (by omega) s2 (by omega)]
    simp only [bodyR]
    rw [if_neg (by omega), f1, f2]
    have e3 : p + (tagL x).length + (lenL inner.length).length + inner.length = p + ((tagL x).length + (lenL inner.length).length + inner.length) := by omega
    obtain ⟨cl, t, co, bd, ks⟩ := x
    unfold inX at hi
    cases co with
    | true =>
      have hb : bd = [] := hc1 rfl
      subst hb
      have := closedR_read (r := r) (fun i => itemR lax bs r i (p + (tagL (.mk cl t true [] ks)).length + (lenL inner.length).length + inner.length)) (fun y ly q h1 h2 h3 => ih y ly q _ h1 h2 h3 (by omega)) ks inner.length [] [] inner hi s3 rfl (by simp)
      rw [List.length_nil, Nat.add_zero] at this
      show (if true = true then boxR cl t _ _ else _) = _
      rw [if_pos rfl, this]
      simp only [boxR, List.nil_append, Option.getD_some]
      rw [e3]
    | false =>
      have hk : ks = [] := hc2 rfl
      subst hk
      have hi2 : some bd = some inner := hi
      cases hi2
      show (if false = true then _ else _) = _
      rw [if_neg (by decide), s3.cut, e3]
      rfl
theorem closedR_exact {bs : List Int} {r e q0 : Nat} (he : e ≤ 20000) (f : Nat → Rs It) (hf : ∀ (q : Nat) {x : It} {nx : Nat}, q ≤ e → f q = .ok x nx → nx ≤ e ∧ ∃ l, enc r x = some l ∧ Sits bs q l ∧ nx = q + l.length) :
    ∀ (k : Nat) (acc : List It) (q : Nat) {ks : List It} {nx : Nat}, q ≤ e → (∃ l, encK (enc r) [] acc = some l ∧ Sits bs q0 l ∧ q = q0 + l.length) → closedR f e k acc q = .ok ks nx → ∃ l, encK (enc r) [] ks = some l ∧ Sits bs q0 l ∧ nx = q0 + l.length := by
  intro k
  induction k with
  | zero => intro acc q ks nx _ ha h; simp only [closedR] at h; cases h; exact ha
  | succ k ih =>
    intro acc q ks nx hq ha h
    simp only [closedR] at h
    split at h
    · cases hfq : f q with
      | no c2 p2 => rw [hfq] at h; cases h
      | ok y n2 =>
        rw [hfq] at h
        obtain ⟨y0, ly, y1, y2, y3⟩ := hf q hq hfq
        obtain ⟨l, a1, a2, a3⟩ := ha
        refine ih (acc ++ [y]) n2 y0 ⟨l ++ ly, ?_, Sits.join a2 (by rw [← a3]; exact y2), by rw [List.length_append]; omega⟩ h
        rw [encK_snoc, a1]
        simp only []
        rw [y1]
        simp only []
        rw [if_pos (by omega)]
    · cases h; exact ha
theorem itemR_exact {bs : List Int} (hb : ∀ i, 0 ≤ bs.getD i 0 ∧ bs.getD i 0 ≤ 255) : ∀ (r p e : Nat) {x : It} {nx : Nat}, p ≤ e → e ≤ bs.length → e ≤ 20000 → itemR false bs r p e = .ok x nx → ∃ l, enc r x = some l ∧ Sits bs p l ∧ nx = p + l.length := by
  intro r
  induction r with
  | zero => intro p e x nx _ _ _ h; simp only [itemR] at h; cases h
  | succ r ih =>
    intro p e x nx hp hel he h
    have hplace := itemR_place (r + 1) p e hp h
    simp only [itemR] at h
    split at h
    · cases h
    · rename_i hpe
      cases ht : tagR false bs p e with
      | no c q => rw [ht] at h; cases h
      | ok t q =>
        rw [ht] at h
        have h1 := tagR_place (by omega) ht
        obtain ⟨t1, t2, t3, t4⟩ := tagR_head hb ht
        have hx := tagR_exact hb hel (by omega) ht
        have hcl : 0 ≤ clsN bs p ∧ clsN bs p ≤ 3 := by have := hb p; unfold clsN; omega
        simp only at h
        cases hl : lenR false (consN bs p) bs q e with
        | no c q2 => rw [hl] at h; cases h
        | ok o q2 =>
          rw [hl] at h
          have h2 := lenR_place h1.2 hl
          obtain ⟨n, rfl, hex⟩ := lenR_exact hb hel h1.2 hl
          simp only [bodyR] at h
          split at h
          · cases h
          · rename_i hne
            obtain ⟨s2, q2e⟩ := hex (by omega)
            have fin : ∀ (y : It) (inner : List Int), y.shape = true → innerBy (enc r) y = some inner → inner.length = n → Sits bs q2 inner → Sits bs p (tagL y) → q = p + (tagL y).length → ∃ l, enc (r + 1) y = some l ∧ Sits bs p l ∧ q2 + n = p + l.length := by
              intro y inner y1 y2 y3 y4 y5 y6
              refine ⟨headL y inner.length ++ inner, ?_, ?_, ?_⟩
              · simp only [enc, y1, if_true, y2]
                rw [if_pos (by rw [List.length_append, headL_tag, List.length_append, y3]; omega)]
              · rw [headL_tag, List.append_assoc, y3]
                refine Sits.join y5 ?_
                rw [← y6]
                refine Sits.join s2 ?_
                rw [← q2e]
                exact y4
              · rw [List.length_append, headL_tag, List.length_append, y3]; omega
            split at h
            · rename_i hco
              cases hc : closedR (fun i => itemR false bs r i (q2 + n)) (q2 + n) n [] q2 with
              | no c q3 => rw [hc] at h; cases h
              | ok ks q3 =>
                rw [hc] at h
                have h4 := closedR_place (fun p x nx hp h => itemR_place r p (q2 + n) (by omega) h) _ _ _ (by omega) (by omega) hc
                obtain ⟨l, l1, l2, l3⟩ := closedR_exact (q0 := q2) (by omega) _ (fun q x nx hq h => ⟨(itemR_place r q (q2 + n) hq h).2, ih q (q2 + n) hq (by omega) (by omega) h⟩) _ [] q2 (by omega) ⟨[], rfl, ⟨by simp; omega, by simp⟩, rfl⟩ hc
                cases h
                obtain ⟨_, x2, x3⟩ := hx [] ks
                rw [hco] at x2 x3
                simp only [Option.getD_some]
                exact fin _ l (shape_mk hcl ⟨t1, t2⟩ t3 (by simp)) (by simp only [innerBy, It.cons, It.kids, if_true]; exact l1) (by omega) l2 x2 x3
            · rename_i hco
              cases h
              obtain ⟨_, x2, x3⟩ := hx ((bs.drop q2).take n) []
              rw [show consN bs p = false by simpa using hco] at x2 x3
              have hbl : ((bs.drop q2).take n).length = n := by simp; omega
              exact fin _ ((bs.drop q2).take n) (shape_mk hcl ⟨t1, t2⟩ t3 (by simp)) (innerBy_leaf _ _ _ _ (by omega)) hbl (sits_cut bs q2 n (by omega)) x2 x3

/-! The three laws' facts. -/
theorem readR_back {lax : Bool} {x : It} {l : List Int} (h : enc 12 x = some l) : readR lax l = .ok x l.length := by
  have hl := enc_len _ _ _ h
  have hi := itemR_read (lax := lax) (bs := l) 12 x l 0 l.length h ⟨by omega, fun i _ => by rw [Nat.zero_add]⟩ (by omega) (Nat.le_refl _)
  unfold readR
  rw [if_neg (by omega), hi, Nat.zero_add]
  simp only
  rw [if_neg (by omega)]
theorem readR_exact {bs : List Int} (hb : ∀ i, 0 ≤ bs.getD i 0 ∧ bs.getD i 0 ≤ 255) {x : It} {nx : Nat} (h : readR false bs = .ok x nx) : enc 12 x = some bs := by
  unfold readR at h
  split at h
  · cases h
  · cases hi : itemR false bs 12 0 bs.length with
    | no c p => rw [hi] at h; cases h
    | ok y n2 =>
      rw [hi] at h
      simp only at h
      split at h
      · cases h
      · cases h
        obtain ⟨l, h1, h2, h3⟩ := itemR_exact hb 12 0 bs.length (Nat.zero_le _) (Nat.le_refl _) (by omega) hi
        have := h2.1
        rw [h1, h2.whole (by omega)]
theorem readR_more {x : It} {l m : List Int} (h : enc 12 x = some l) (hm : 1 ≤ m.length) (hl : l.length + m.length ≤ 20000) : readR false (l ++ m) = .no 6 l.length := by
  have hi := itemR_read (lax := false) (bs := l ++ m) 12 x l 0 (l ++ m).length h (by have := sits_self [] l m; simpa using this) (by rw [List.length_append]; omega) (Nat.le_refl _)
  unfold readR
  rw [if_neg (by rw [List.length_append]; omega), hi, Nat.zero_add]
  simp only
  rw [if_pos (by rw [List.length_append]; omega)]
theorem take_get (l : List Int) (i j : Nat) (h : j < i) : (l.take i).getD j 0 = l.getD j 0 := by
  rw [List.getD_eq_getElem?_getD, List.getElem?_take, if_pos h, List.getD_eq_getElem?_getD]
theorem sits_take {l a : List Int} {p i : Nat} (h : Sits l p a) (hi : p + a.length ≤ i) (hil : i ≤ l.length) : Sits (l.take i) p a :=
  ⟨by rw [List.length_take]; omega, fun j hj => by rw [take_get _ _ _ (by omega)]; exact h.2 j hj⟩
theorem itemR_short {lax : Bool} {r : Nat} {x : It} {l : List Int} (h : enc (r + 1) x = some l) (i : Nat) (hi : i < l.length) : itemR lax (l.take i) (r + 1) 0 i = .no 1 i := by
  have hlen := enc_len _ _ _ h
  obtain ⟨hsh, inner, hin, hl, _⟩ := enc_parts r x l h
  obtain ⟨_, ⟨t1, t2⟩, t3, _, _⟩ := shape_all hsh
  have hs : Sits l 0 (tagL x ++ (lenL inner.length ++ inner)) := by rw [← List.append_assoc, ← headL_tag, ← hl]; exact ⟨by omega, fun i _ => by rw [Nat.zero_add]⟩
  have hll : l.length = (tagL x).length + ((lenL inner.length).length + inner.length) := by rw [hl, headL_tag, List.append_assoc]; simp only [List.length_append]
  have s1 := hs.left
  have s2 := hs.right.left
  have hpos := (tagL_first x).2
  simp only [itemR]
  by_cases h0 : 0 = i
  · rw [if_pos h0]
  rw [if_neg h0]
  by_cases ht : (tagL x).length ≤ i
  · have u1 : Sits (l.take i) 0 (tagL x) := sits_take s1 (by omega) (by omega)
    rw [tagR_read hsh u1 (by omega)]
    simp only
    rw [Nat.zero_add]
    by_cases hn : (tagL x).length + (lenL inner.length).length ≤ i
    · have u2 : Sits (l.take i) (tagL x).length (lenL inner.length) := sits_take (by rw [Nat.zero_add] at s2; exact s2) (by omega) (by omega)
      rw [lenR_read (by omega) u2 hn]
      simp only [bodyR]
      rw [if_pos (by omega)]
    · have hlr : lenR lax (consN (l.take i) 0) (l.take i) (tagL x).length i = .no 1 i := by
        unfold lenR
        by_cases hq : (tagL x).length = i
        · rw [if_pos hq]
        rw [if_neg hq]
        have h1 : ¬ inner.length < 128 := by
          intro hlt
          have : (lenL inner.length).length = 1 := by unfold lenL; rw [if_pos hlt]; rfl
          omega
        have hf := s2.2 0 (by omega)
        rw [Nat.zero_add, Nat.add_zero] at hf
        have hk : (lenL inner.length).getD 0 0 = 128 + (((lenL inner.length).length - 1 : Nat) : Int) ∧ 2 ≤ (lenL inner.length).length ∧ (lenL inner.length).length ≤ 4 := by
          unfold lenL
          rw [if_neg h1]
          split
          · simp
          · split
            · simp
            · simp
        obtain ⟨k1, k2, k3⟩ := hk
        have hg : (l.take i).getD (tagL x).length 0 = 128 + (((lenL inner.length).length - 1 : Nat) : Int) := by rw [take_get _ _ _ (by omega), hf, k1]
        rw [hg, if_neg (by omega), if_neg (by omega), if_neg (by omega), if_pos (by omega)]
      rw [hlr]
      rfl
  · have h31 : ¬ x.tag < 31 := by
      intro hlt
      have : (tagL x).length = 1 := by unfold tagL; rw [if_pos hlt]; rfl
      omega
    have htl : tagL x = (firstOf x.cls x.cons + 31) :: putN x.tag.toNat := by unfold tagL; rw [if_neg h31]
    have hcl : (tagL x).length = cnt x.tag.toNat + 1 := by rw [htl, List.length_cons, putN, putL_len]
    have hf := s1.2 0 hpos
    rw [Nat.add_zero, (tagL_first x).1] at hf
    obtain ⟨_, _, f3⟩ := first_is (bs := l) hsh hf
    rw [if_neg h31] at f3
    have hg : grpR (l.take i) 0 i 6 0 1 = .no 1 i := by
      refine grpR_short 6 0 1 (by omega) (by have := tag_four t1 t2; omega) fun j hj1 hj2 => ?_
      rw [take_get _ _ _ hj2]
      have := s1.2 j (by omega)
      obtain ⟨j, rfl⟩ : ∃ m, j = m + 1 := ⟨j - 1, by omega⟩
      rw [htl, List.getD_cons_succ, putN_get _ _ (by omega), Nat.zero_add] at this
      rw [this]
      unfold grp
      rw [if_neg (by omega)]
      omega
    have htr : tagR lax (l.take i) 0 i = .no 1 i := by
      unfold tagR
      rw [take_get _ _ _ (by omega), if_pos f3]
      rw [show 0 + 1 = 1 from rfl, hg]
    rw [htr]
theorem readR_short {x : It} {l : List Int} (h : enc 12 x = some l) (i : Nat) (hi : i < l.length) : readR false (l.take i) = .no 1 i := by
  have hlen := enc_len _ _ _ h
  have hl : (l.take i).length = i := by rw [List.length_take]; omega
  unfold readR
  rw [hl, if_neg (by omega), itemR_short h i hi]

end Go.Proofs.YtjkkokjojaknkaaDoor
