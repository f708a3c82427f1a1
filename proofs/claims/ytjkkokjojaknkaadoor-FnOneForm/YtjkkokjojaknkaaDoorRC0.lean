import Derived.Test.YtjkkokjojaknkaaDoorFN
import Derived.Test.YtjkkokjojaknkaaDoorG08
namespace Go.Proofs.YtjkkokjojaknkaaDoor
open Go.RowKit

/-! What is read, laxly or not, is right, and its own bytes are no more than were read. -/
theorem cnt_min {n c : Nat} (h1 : 1 ≤ c) (h : n < 128 ^ c) : cnt n ≤ c := by
  rcases (cnt_ok n).low with h2 | h2
  · omega
  · refine Nat.le_of_not_lt fun hlt => ?_
    have : 128 ^ c ≤ 128 ^ (cnt n - 1) := Nat.pow_le_pow_right (by decide) (by omega)
    omega
theorem grpR_bound {bs : List Int} {p e : Nat} (hb : ∀ i, 0 ≤ bs.getD i 0 ∧ bs.getD i 0 ≤ 255) : ∀ (n : Nat) (tag : Int) (q : Nat) {t : Int} {nx : Nat}, 0 ≤ tag → grpR bs p e n tag q = .ok t nx → q < nx ∧ 0 ≤ t ∧ t < (tag + 1) * 128 ^ (nx - q) := by
  intro n
  induction n with
  | zero => intro tag q t nx _ h; simp only [grpR] at h; split at h <;> cases h
  | succ n ih =>
    intro tag q t nx h0 h
    have hq := hb q
    simp only [grpR] at h
    split at h
    · cases h
    · split at h
      · cases h
        refine ⟨by omega, by omega, ?_⟩
        rw [show q + 1 - q = 1 by omega, Int.pow_one]
        omega
      · obtain ⟨h1, h2, h3⟩ := ih _ _ (by omega) h
        refine ⟨by omega, h2, ?_⟩
        obtain ⟨m, hm⟩ : ∃ m, nx - (q + 1) = m := ⟨_, rfl⟩
        rw [hm] at h3
        rw [show nx - q = m + 1 by omega, Int.pow_succ]
        have hpos : (0 : Int) ≤ 128 ^ m := Int.pow_nonneg (by decide)
        have h4 : tag * 128 + (bs.getD q 0 - 128) + 1 ≤ (tag + 1) * 128 := by omega
        have h5 := Int.mul_le_mul_of_nonneg_right h4 hpos
        have h6 : (tag + 1) * 128 * 128 ^ m = (tag + 1) * (128 ^ m * 128) := by rw [Int.mul_assoc, Int.mul_comm 128]
        omega
theorem tagR_head {lax : Bool} {bs : List Int} {p e : Nat} (hb : ∀ i, 0 ≤ bs.getD i 0 ∧ bs.getD i 0 ≤ 255) {t : Int} {q : Nat} (h : tagR lax bs p e = .ok t q) :
    0 ≤ t ∧ t ≤ 268435455 ∧ ¬ (clsN bs p = 0 ∧ t = 0) ∧ (if t < 31 then 1 else 1 + (putN t.toNat).length) + p ≤ q := by
  have hp := hb p
  unfold tagR at h
  split at h
  · cases hg : grpR bs p e 6 0 (p + 1) with
    | no c x => rw [hg] at h; cases h
    | ok t2 q2 =>
      rw [hg] at h
      obtain ⟨h1, h2, h3⟩ := grpR_bound hb 6 0 (p + 1) (Int.le_refl 0) hg
      simp only at h
      split at h
      · cases h
      · rename_i hn
        cases h
        refine ⟨h2, by omega, fun hc => hn (.inr (.inr hc)), ?_⟩
        split
        · omega
        · have h4 : t.toNat < 128 ^ (q - (p + 1)) := by
            have h5 : ((t.toNat : Nat) : Int) = t := Int.toNat_of_nonneg h2
            have h6 : ((128 ^ (q - (p + 1)) : Nat) : Int) = 128 ^ (q - (p + 1)) := by rw [Int.natCast_pow]; rfl
            rw [Int.zero_add, Int.one_mul] at h3
            omega
          have h7 := cnt_min (by omega) h4
          rw [putN, putL_len]
          omega
  · split at h
    · cases h
    · rename_i hn
      cases h
      refine ⟨by omega, by omega, hn, ?_⟩
      split <;> omega
theorem lenR_head {lax co : Bool} {bs : List Int} {q e : Nat} (hb : ∀ i, 0 ≤ bs.getD i 0 ∧ bs.getD i 0 ≤ 255) (he : e ≤ bs.length) {m q2 : Nat} (h : lenR lax co bs q e = .ok (some m) q2) (n : Nat) (hn : n ≤ m) (hn2 : n ≤ 20000) : (lenL n).length + q ≤ q2 := by
  unfold lenR at h
  by_cases h0 : q = e
  · rw [if_pos h0] at h; cases h
  rw [if_neg h0] at h
  by_cases h1 : bs.getD q 0 < 128
  · rw [if_pos h1] at h
    cases h
    have h5 := hb q
    have : lenL n = [(n : Int)] := by rw [lenL, if_pos (by omega)]
    rw [this]
    simp only [List.length_singleton]
    omega
  rw [if_neg h1] at h
  by_cases h2 : bs.getD q 0 = 128 ∧ lax = true ∧ co = true
  · rw [if_pos h2] at h; cases h
  rw [if_neg h2] at h
  by_cases h3 : bs.getD q 0 = 128 ∨ 132 < bs.getD q 0
  · rw [if_pos h3] at h; cases h
  rw [if_neg h3] at h
  by_cases h4 : e < q + 1 + (bs.getD q 0 - 128).toNat
  · rw [if_pos h4] at h; cases h
  rw [if_neg h4] at h
  by_cases h5 : lax = false ∧ (bs.getD (q + 1) 0 = 0 ∨ digR bs (q + 1) (bs.getD q 0 - 128).toNat < 128)
  · rw [if_pos h5] at h; cases h
  rw [if_neg h5] at h
  obtain ⟨k, hk⟩ : ∃ k, k = (bs.getD q 0 - 128).toNat := ⟨_, rfl⟩
  have hk4 : 1 ≤ k ∧ k ≤ 4 := by omega
  rw [← hk] at h h4
  have hd := digR_bounds bs (q + 1) hb k (by omega)
  cases h
  have p1 : (256 : Int) ^ 1 = 256 := by decide
  have p2 : (256 : Int) ^ 2 = 65536 := by decide
  have hc : k = 1 ∨ k = 2 ∨ 3 ≤ k := by omega
  unfold lenL
  rcases hc with rfl | rfl | hc
  · rw [p1] at hd
    split
    · simp only [List.length_singleton]; omega
    · split
      · simp only [List.length_cons, List.length_nil]; omega
      · exfalso; omega
  · rw [p2] at hd
    split
    · simp only [List.length_singleton]; omega
    · split
      · simp only [List.length_cons, List.length_nil]; omega
      · split
        · simp only [List.length_cons, List.length_nil]; omega
        · exfalso; omega
  · split
    · simp only [List.length_singleton]; omega
    · split
      · simp only [List.length_cons, List.length_nil]; omega
      · split
        · simp only [List.length_cons, List.length_nil]; omega
        · simp only [List.length_cons, List.length_nil]; omega
theorem encK_snoc (f : It → Option (List Int)) (x : It) : ∀ (xs : List It) (a : List Int), encK f a (xs ++ [x]) = match encK f a xs with | none => none | some l => match f x with | none => none | some p => if l.length + p.length ≤ 20000 then some (l ++ p) else none := by
  intro xs
  induction xs with
  | nil =>
    intro a
    simp only [List.nil_append, encK]
    cases f x with
    | none => rfl
    | some p => rfl
  | cons y ys ih =>
    intro a
    simp only [List.cons_append, encK]
    cases f y with
    | none => rfl
    | some p =>
      simp only []
      split
      · exact ih _
      · rfl
/-- The bytes of what is read: there, and no more than were read. -/
def Enc1 (r : Nat) (x : It) (n : Nat) : Prop := ∃ l, enc r x = some l ∧ l.length ≤ n
theorem closedR_enc (lax : Bool) (bs : List Int) (r : Nat) (e : Nat) (he : e ≤ 20000) (ih : ∀ (p : Nat) {x : It} {nx : Nat}, p ≤ e → itemR lax bs r p e = .ok x nx → Enc1 r x (nx - p)) (q0 : Nat) : ∀ (k : Nat) (acc : List It) (q : Nat) {ks : List It} {nx : Nat}, q ≤ e → q0 ≤ q →
    (∃ l, encK (enc r) [] acc = some l ∧ l.length ≤ q - q0) → closedR (fun i => itemR lax bs r i e) e k acc q = .ok ks nx → ∃ l, encK (enc r) [] ks = some l ∧ l.length ≤ nx - q0 := by
  intro k
  induction k with
  | zero => intro acc q ks nx _ _ ha h; simp only [closedR] at h; cases h; exact ha
  | succ k ih2 =>
    intro acc q ks nx hq hq0 ha h
    simp only [closedR] at h
    split at h
    · cases hfq : itemR lax bs r q e with
      | no c2 p2 => rw [hfq] at h; cases h
      | ok y n2 =>
        rw [hfq] at h
        obtain ⟨ly, e1, e2⟩ := ih q hq hfq
        have h2 := itemR_place r q e hq hfq
        obtain ⟨l, a1, a2⟩ := ha
        refine ih2 (acc ++ [y]) n2 h2.2 (by omega) ⟨l ++ ly, ?_, by rw [List.length_append]; omega⟩ h
        rw [encK_snoc, a1]
        simp only []
        rw [e1]
        simp only []
        rw [if_pos (by omega)]
    · cases h; exact ha
theorem openR_enc (lax : Bool) (bs : List Int) (r : Nat) (e : Nat) (he : e ≤ 20000) (ih : ∀ (p : Nat) {x : It} {nx : Nat}, p ≤ e → itemR lax bs r p e = .ok x nx → Enc1 r x (nx - p)) (q0 : Nat) : ∀ (k : Nat) (acc : List It) (q : Nat) {ks : List It} {nx : Nat}, q ≤ e → q0 ≤ q →
    (∃ l, encK (enc r) [] acc = some l ∧ l.length ≤ q - q0) → openR (fun i => itemR lax bs r i e) bs e k acc q = .ok ks nx → ∃ l, encK (enc r) [] ks = some l ∧ l.length + 2 ≤ nx - q0 := by
  intro k
  induction k with
  | zero => intro acc q ks nx _ _ ha h; simp only [openR] at h; cases h
  | succ k ih2 =>
    intro acc q ks nx hq hq0 ha h
    simp only [openR] at h
    split at h
    · cases h
    · split at h
      · split at h
        · cases h
        · split at h
          · cases h
            obtain ⟨l, a1, a2⟩ := ha
            exact ⟨l, a1, by omega⟩
          · cases h
      · cases hfq : itemR lax bs r q e with
        | no c2 p2 => rw [hfq] at h; cases h
        | ok y n2 =>
          rw [hfq] at h
          obtain ⟨ly, e1, e2⟩ := ih q hq hfq
          have h2 := itemR_place r q e hq hfq
          obtain ⟨l, a1, a2⟩ := ha
          refine ih2 (acc ++ [y]) n2 h2.2 (by omega) ⟨l ++ ly, ?_, by rw [List.length_append]; omega⟩ h
          rw [encK_snoc, a1]
          simp only []
          rw [e1]
          simp only []
          rw [if_pos (by omega)]
theorem headL_size (x : It) (n : Nat) : (headL x n).length = (if x.tag < 31 then 1 else 1 + (putN x.tag.toNat).length) + (lenL n).length := by
  unfold headL
  split <;> simp <;> omega
theorem enc_of (r : Nat) (x : It) (inner : List Int) (n : Nat) (hs : x.shape = true) (hi : innerBy (enc r) x = some inner) (hl : (headL x inner.length).length + inner.length ≤ n) (hn : n ≤ 20000) : Enc1 (r + 1) x n := by
  refine ⟨headL x inner.length ++ inner, ?_, by rw [List.length_append]; exact hl⟩
  simp only [enc, hs, if_true, hi]
  rw [if_pos (by rw [List.length_append]; omega)]
theorem shape_mk {cl t : Int} {co : Bool} {bd : List Int} {ks : List It} (h1 : 0 ≤ cl ∧ cl ≤ 3) (h2 : 0 ≤ t ∧ t ≤ 268435455) (h3 : ¬ (cl = 0 ∧ t = 0)) (h4 : if co then bd = [] else ks = []) : (It.mk cl t co bd ks).shape = true := by
  unfold It.shape
  have e1 : decide (0 ≤ cl ∧ cl ≤ 3 ∧ 0 ≤ t ∧ t ≤ 268435455 ∧ ¬(cl = 0 ∧ t = 0)) = true := decide_eq_true ⟨h1.1, h1.2, h2.1, h2.2, h3⟩
  show (decide (0 ≤ cl ∧ cl ≤ 3 ∧ 0 ≤ t ∧ t ≤ 268435455 ∧ ¬(cl = 0 ∧ t = 0)) && (if co = true then bd.isEmpty else ks.isEmpty)) = true
  rw [e1]
  cases co with
  | true => simp at h4; simp [h4]
  | false => simp at h4; simp [h4]
theorem innerBy_leaf (f : It → Option (List Int)) (cl t : Int) (bd : List Int) (h : bd.length ≤ 20000) : innerBy f (.mk cl t false bd []) = some bd := by
  show (if (false = true) then encK f [] [] else if bd.length ≤ 20000 then some bd else none) = some bd
  rw [if_neg (by decide), if_pos h]
theorem itemR_enc (lax : Bool) (bs : List Int) (hb : ∀ i, 0 ≤ bs.getD i 0 ∧ bs.getD i 0 ≤ 255) : ∀ (r p e : Nat) {x : It} {nx : Nat}, p ≤ e → e ≤ bs.length → e ≤ 20000 → itemR lax bs r p e = .ok x nx → Enc1 r x (nx - p) := by
  intro r
  induction r with
  | zero => intro p e x nx _ _ _ h; simp only [itemR] at h; cases h
  | succ r ih =>
    intro p e x nx hp hel he h
    have hplace := itemR_place (r + 1) p e hp h
    simp only [itemR] at h
    split at h
    · cases h
    · cases ht : tagR lax bs p e with
      | no c q => rw [ht] at h; cases h
      | ok t q =>
        rw [ht] at h
        have h1 := tagR_place (by omega) ht
        obtain ⟨t1, t2, t3, t4⟩ := tagR_head hb ht
        have hcl : 0 ≤ clsN bs p ∧ clsN bs p ≤ 3 := by have := hb p; unfold clsN; omega
        simp only at h
        cases hl : lenR lax (consN bs p) bs q e with
        | no c q2 => rw [hl] at h; cases h
        | ok o q2 =>
          rw [hl] at h
          have h2 := lenR_place h1.2 hl
          cases o with
          | none =>
            simp only [bodyR] at h
            cases ho : openR (fun i => itemR lax bs r i e) bs e (e - q2 + 1) [] q2 with
            | no c q3 => rw [ho] at h; cases h
            | ok ks q3 =>
              rw [ho] at h
              obtain ⟨l, l1, l2⟩ := openR_enc lax bs r e he (fun p x nx hp h => ih p e hp hel he h) q2 _ [] q2 h2.2 (Nat.le_refl _) ⟨[], rfl, by simp⟩ ho
              cases h
              simp only [Option.getD_none] at hplace ⊢
              refine enc_of r _ l _ (shape_mk hcl ⟨t1, t2⟩ t3 (by simp)) (by simp only [innerBy, It.cons, It.kids, if_true]; exact l1) ?_ (by omega)
              rw [headL_size]
              have hll : (lenL l.length).length ≤ 3 := by
                unfold lenL
                split
                · simp
                · split
                  · simp
                  · split
                    · simp
                    · exfalso; omega
              show (if t < 31 then 1 else 1 + (putN t.toNat).length) + _ + _ ≤ _
              omega
          | some n =>
            simp only [bodyR] at h
            split at h
            · cases h
            · rename_i hne
              split at h
              · cases hc : closedR (fun i => itemR lax bs r i (q2 + n)) (q2 + n) n [] q2 with
                | no c q3 => rw [hc] at h; cases h
                | ok ks q3 =>
                  rw [hc] at h
                  have h4 := closedR_place (fun p x nx hp h => itemR_place r p (q2 + n) (by omega) h) _ _ _ (by omega) (by omega) hc
                  obtain ⟨l, l1, l2⟩ := closedR_enc lax bs r (q2 + n) (by omega) (fun p x nx hp h => ih p (q2 + n) hp (by omega) (by omega) h) q2 _ [] q2 (by omega) (Nat.le_refl _) ⟨[], rfl, by simp⟩ hc
                  have hlh := lenR_head hb hel hl l.length (by omega) (by omega)
                  cases h
                  simp only [Option.getD_some] at hplace ⊢
                  refine enc_of r _ l _ (shape_mk hcl ⟨t1, t2⟩ t3 (by simp)) (by simp only [innerBy, It.cons, It.kids, if_true]; exact l1) ?_ (by omega)
                  rw [headL_size]
                  show (if t < 31 then 1 else 1 + (putN t.toNat).length) + _ + _ ≤ _
                  omega
              · cases h
                have hbl : ((bs.drop q2).take n).length ≤ n := List.length_take_le n _
                have hlh := lenR_head hb hel hl ((bs.drop q2).take n).length hbl (by omega)
                refine enc_of r _ ((bs.drop q2).take n) _ (shape_mk hcl ⟨t1, t2⟩ t3 (by simp)) (innerBy_leaf _ _ _ _ (Nat.le_trans hbl (by omega))) ?_ (by omega)
                rw [headL_size]
                show (if t < 31 then 1 else 1 + (putN t.toNat).length) + _ + _ ≤ _
                omega
theorem readR_enc {lax : Bool} {bs : List Int} (hb : ∀ i, 0 ≤ bs.getD i 0 ∧ bs.getD i 0 ≤ 255) {x : It} {nx : Nat} (h : readR lax bs = .ok x nx) : Enc1 12 x bs.length := by
  unfold readR at h
  split at h
  · cases h
  · cases hi : itemR lax bs 12 0 bs.length with
    | no c p => rw [hi] at h; cases h
    | ok y n2 =>
      rw [hi] at h
      simp only at h
      split at h
      · cases h
      · cases h
        obtain ⟨l, h1, h2⟩ := itemR_enc lax bs hb 12 0 bs.length (Nat.zero_le _) (Nat.le_refl _) (by omega) hi
        have := itemR_place 12 0 bs.length (Nat.zero_le _) hi
        exact ⟨l, h1, by omega⟩

end Go.Proofs.YtjkkokjojaknkaaDoor
