import Derived.Test.YtjkkokjojaknkaaDoorRR4
import Derived.Test.YtjkkokjojaknkaaDoorWItem14
import Derived.Test.YtjkkokjojaknkaaDoorRRi
import Derived.Test.YtjkkokjojaknkaaDoorWWa
namespace Go.Proofs.YtjkkokjojaknkaaDoor
open Go.RowKit

/-! What is read, laxly or not, is right, and its own bytes are no more than were read. -/
theorem cnt_min {n c : Nat} (h1 : 1 ≤ c) (h : n < 128 ^ c) : cnt n ≤ c := by
  rcases (cnt_ok n).low with h2 | h2
  · omega
  · refine Nat.le_of_not_lt fun hlt => ?_
    have : 128 ^ c ≤ 128 ^ (cnt n - 1) := Nat.pow_le_pow_right (by decide) (by omega)
    omega
theorem grpR_bound {bs : List Int} {p e : Nat} (hb : ∀ i, 0 ≤ bs.getD i 0 ∧ bs.getD i 0 ≤ 255) : ∀ (n : Nat) (tag : Int) (q : Nat) {t : Int} {nx : Nat}, 0 ≤ tag → grpR bs p e n tag q = .ok t nx → q < nx ∧ 0 ≤ t ∧ t < (tag + 1) * 128 ^ (nx - q) := by
  intro n
  induction n with
  | zero => intro tag q t nx _ h; simp only [grpR] at h; split at h <;> cases h
  | succ n ih =>
    intro tag q t nx h0 h
    have hq := hb q
    simp only [grpR] at h
    split at h
    · cases h
    · split at h
      · cases h
        refine ⟨by omega, by omega, ?_⟩
        rw [show q + 1 - q = 1 by omega, Int.pow_one]
        omega
      · obtain ⟨h1, h2, h3⟩ := ih _ _ (by omega) h
        refine ⟨by omega, h2, ?_⟩
        obtain ⟨m, hm⟩ : ∃ m, nx - (q + 1) = m := ⟨_, rfl⟩
        rw [hm] at h3
        rw [show nx - q = m + 1 by omega, Int.pow_succ]
        have hpos : (0 : Int) ≤ 128 ^ m := Int.pow_nonneg (by decide)
        have h4 : tag * 128 + (bs.getD q 0 - 128) + 1 ≤ (tag + 1) * 128 := by omega
        have h5 := Int.mul_le_mul_of_nonneg_right h4 hpos
        have h6 : (tag + 1) * 128 * 128 ^ m = (tag + 1) * (128 ^ m * 128) := by rw [Int.mul_assoc, Int.mul_comm 128]
        omega
theorem tagR_head {lax : Bool} {bs : List Int} {p e : Nat} (hb : ∀ i, 0 ≤ bs.getD i 0 ∧ bs.getD i 0 ≤ 255) {t : Int} {q : Nat} (h : tagR lax bs p e = .ok t q) :
    0 ≤ t ∧ t ≤ 268435455 ∧ ¬ (clsN bs p = 0 ∧ t = 0) ∧ (if t < 31 then 1 else 1 + (putN t.toNat).length) + p ≤ q := by
  have hp := hb p
  unfold tagR at h
  split at h
  · cases hg : grpR bs p e 6 0 (p + 1) with
    | no c x => rw [hg] at h; cases h
    | ok t2 q2 =>
      rw [hg] at h
      obtain ⟨h1, h2, h3⟩ := grpR_bound hb 6 0 (p + 1) (Int.le_refl 0) hg
      simp only at h
      split at h
      · cases h
      · rename_i hn
        cases h
        refine ⟨h2, by omega, fun hc => hn (.inr (.inr hc)), ?_⟩
        split
        · omega
        · have h4 : t.toNat < 128 ^ (q - (p + 1)) := by
            have h5 : ((t.toNat : Nat) : Int) = t := Int.toNat_of_nonneg h2
            have h6 : ((128 ^ (q - (p + 1)) : Nat) : Int) = 128 ^ (q - (p + 1)) := by rw [Int.natCast_pow]; rfl
            rw [Int.zero_add, Int.one_mul] at h3
            omega
          have h7 := cnt_min (by omega) h4
          rw [putN, putL_len]
          omega
  · split at h
    · cases h
    · rename_i hn
      cases h
      refine ⟨by omega, by omega, hn, ?_⟩
      split <;> omega
theorem lenR_head {lax co : Bool} {bs : List Int} {q e : Nat} (hb : ∀ i, 0 ≤ bs.getD i 0 ∧ bs.getD i 0 ≤ 255) (he : e ≤ bs.length) {m q2 : Nat} (h : lenR lax co bs q e = .ok (some m) q2) (n : Nat) (hn : n ≤ m) (hn2 : n ≤ 20000) : (lenL n).length + q ≤ q2 := by
  unfold lenR at h
  by_cases h0 : q = e
  · rw [if_pos h0] at h; cases h
  rw [if_neg h0] at h
  by_cases h1 : bs.getD q 0 < 128
  · rw [if_pos h1] at h
    cases h
    have h5 := hb q
    have : lenL n = [(n : Int)] := by rw [lenL, if_pos (by omega)]
    rw [this]
    simp only [List.length_singleton]
    omega
  rw [if_neg h1] at h
  by_cases h2 : bs.getD q 0 = 128 ∧ lax = true ∧ co = true
  · rw [if_pos h2] at h; cases h
  rw [if_neg h2] at h
  by_cases h3 : bs.getD q 0 = 128 ∨ 132 < bs.getD q 0
  · rw [if_pos h3] at h; cases h
  rw [if_neg h3] at h
  by_cases h4 : e < q + 1 + (bs.getD q 0 - 128).toNat
  · rw [if_pos h4] at h; cases h
  rw [if_neg h4] at h
  by_cases h5 : lax = false ∧ (bs.getD (q + 1) 0 = 0 ∨ digR bs (q + 1) (bs.getD q 0 - 128).toNat < 128)
  · rw [if_pos h5] at h; cases h
  rw [if_neg h5] at h
  obtain ⟨k, hk⟩ : ∃ k, k = (bs.getD q 0 - 128).toNat := ⟨_, rfl⟩
  have hk4 : 1 ≤ k ∧ k ≤ 4 := by omega
  rw [← hk] at h h4
  have hd := digR_bounds bs (q + 1) hb k (by omega)
  cases h
  have p1 : (256 : Int) ^ 1 = 256 := by decide
  have p2 : (256 : Int) ^ 2 = 65536 := by decide
  have hc : k = 1 ∨ k = 2 ∨ 3 ≤ k := by omega
  unfold lenL
  rcases hc with rfl | rfl | hc
  · rw [p1] at hd
    split
    · simp only [List.length_singleton]; omega
    · split
      · simp only [List.length_cons, List.length_nil]; omega
      · exfalso; omega
  · rw [p2] at hd
    split
    · simp only [List.length_singleton]; omega
    · split
      · simp only [List.length_cons, List.length_nil]; omega
      · split
        · simp only [List.length_cons, List.length_nil]; omega
        · exfalso; omega
  · split
    · simp only [List.length_singleton]; omega
    · split
      · simp only [List.length_cons, List.length_nil]; omega
      · split
        · simp only [List.length_cons, List.length_nil]; omega
        · simp only [List.length_cons, List.length_nil]; omega
theorem encK_snoc (f : It → Option (List Int)) (x : It) : ∀ (xs : List It) (a : List Int), encK f a (xs ++ [x]) = match encK f a xs with | none => none | some l => match f x with | none => none | some p => if l.length + p.length ≤ 20000 then some (l ++ p) else none := by
  intro xs
  induction xs with
  | nil =>
    intro a
    simp only [List.nil_append, encK]
    cases f x with
    | none => rfl
    | some p => rfl
  | cons y ys ih =>
    intro a
    simp only [List.cons_append, encK]
    cases f y with
    | none => rfl
    | some p =>
      simp only []
      split
      · exact ih _
      · rfl
/-- The bytes of what is read: there, and no more than were read. -/
def Enc1 (r : Nat) (x : It) (n : Nat) : Prop := ∃ l, enc r x = some l ∧ l.length ≤ n
theorem closedR_enc (lax : Bool) (bs : List Int) (r : Nat) (e : Nat) (he : e ≤ 20000) (ih : ∀ (p : Nat) {x : It} {nx : Nat}, p ≤ e → itemR lax bs r p e = .ok x nx → Enc1 r x (nx - p)) (q0 : Nat) : ∀ (k : Nat) (acc : List It) (q : Nat) {ks : List It} {nx : Nat}, q ≤ e → q0 ≤ q →
    (∃ l, encK (enc r) [] acc = some l ∧ l.length ≤ q - q0) → closedR (fun i => itemR lax bs r i e) e k acc q = .ok ks nx → ∃ l, encK (enc r) [] ks = some l ∧ l.length ≤ nx - q0 := by
  intro k
  induction k with
  | zero => intro acc q ks nx _ _ ha h; simp only [closedR] at h; cases h; exact ha
  | succ k ih2 =>
    intro acc q ks nx hq hq0 ha h
    simp only [closedR] at h
    split at h
    · cases hfq : itemR lax bs r q e with
      | no c2 p2 => rw [hfq] at h; cases h
      | ok y n2 =>
        rw [hfq] at h
        obtain ⟨ly, e1, e2⟩ := ih q hq hfq
        have h2 := itemR_place r q e hq hfq
        obtain ⟨l, a1, a2⟩ := ha
        refine ih2 (acc ++ [y]) n2 h2.2 (by omega) ⟨l ++ ly, ?_, by rw [List.length_append]; omega⟩ h
        rw [encK_snoc, a1]
        simp only []
        rw [e1]
        simp only []
        rw [if_pos (by omega)]
    · cases h; exact ha
theorem openR_enc (lax : Bool) (bs : List Int) (r : Nat) (e : Nat) (he : e ≤ 20000) (ih : ∀ (p : Nat) {x : It} {nx : Nat}, p ≤ e → itemR lax bs r p e = .ok x nx → Enc1 r x (nx - p)) (q0 : Nat) : ∀ (k : Nat) (acc : List It) (q : Nat) {ks : List It} {nx : Nat}, q ≤ e → q0 ≤ q →
    (∃ l, encK (enc r) [] acc = some l ∧ l.length ≤ q - q0) → openR (fun i => itemR lax bs r i e) bs e k acc q = .ok ks nx → ∃ l, encK (enc r) [] ks = some l ∧ l.length + 2 ≤ nx - q0 := by
  intro k
  induction k with
  | zero => intro acc q ks nx _ _ ha h; simp only [openR] at h; cases h
  | succ k ih2 =>
    intro acc q ks nx hq hq0 ha h
    simp only [openR] at h
    split at h
    · cases h
    · split at h
      · split at h
        · cases h
        · split at h
          · cases h
            obtain ⟨l, a1, a2⟩ := ha
            exact ⟨l, a1, by omega⟩
          · cases h
      · cases hfq : itemR lax bs r q e with
        | no c2 p2 => rw [hfq] at h; cases h
        | ok y n2 =>
          rw [hfq] at h
          obtain ⟨ly, e1, e2⟩ := ih q hq hfq
          have h2 := itemR_place r q e hq hfq
          obtain ⟨l, a1, a2⟩ := ha
          refine ih2 (acc ++ [y]) n2 h2.2 (by omega) ⟨l ++ ly, ?_, by rw [List.length_append]; omega⟩ h
          rw [encK_snoc, a1]
          simp only []
          rw [e1]
          simp only []
          rw [if_pos (by omega)]
theorem headL_size (x : It) (n : Nat) : (headL x n).length = (if x.tag < 31 then 1 else 1 + (putN x.tag.toNat).length) + (lenL n).length := by
  unfold headL
  split <;> simp <;> omega
theorem enc_of (r : Nat) (x : It) (inner : List Int) (n : Nat) (hs : x.shape = true) (hi : innerBy (enc r) x = some inner) (hl : (headL x inner.length).length + inner.length ≤ n) (hn : n ≤ 20000) : Enc1 (r + 1) x n := by
  refine ⟨headL x inner.length ++ inner, ?_, by rw [List.length_append]; exact hl⟩
  simp only [enc, hs, if_true, hi]
  rw [if_pos (by rw [List.length_append]; omega)]
theorem shape_mk {cl t : Int} {co : Bool} {bd : List Int} {ks : List It} (h1 : 0 ≤ cl ∧ cl ≤ 3) (h2 : 0 ≤ t ∧ t ≤ 268435455) (h3 : ¬ (cl = 0 ∧ t = 0)) (h4 : if co then bd = [] else ks = []) : (It.mk cl t co bd ks).shape = true := by
  unfold It.shape
  have e1 : decide (0 ≤ cl ∧ cl ≤ 3 ∧ 0 ≤ t ∧ t ≤ 268435455 ∧ ¬(cl = 0 ∧ t = 0)) = true := decide_eq_true ⟨h1.1, h1.2, h2.1, h2.2, h3⟩
  show (decide (0 ≤ cl ∧ cl ≤ 3 ∧ 0 ≤ t ∧ t ≤ 268435455 ∧ ¬(cl = 0 ∧ t = 0)) && (if co = true then bd.isEmpty else ks.isEmpty)) = true
  rw [e1]
  cases co with
  | true => simp at h4; simp [h4]
  | false => simp at h4; simp [h4]
theorem innerBy_leaf (f : It → Option (List Int)) (cl t : Int) (bd : List Int) (h : bd.length ≤ 20000) : innerBy f (.mk cl t false bd []) = some bd := by
  show (if (false = true) then encK f [] [] else if bd.length ≤ 20000 then some bd else none) = some bd
  rw [if_neg (by decide), if_pos h]
theorem itemR_enc (lax : Bool) (bs : List Int) (hb : ∀ i, 0 ≤ bs.getD i 0 ∧ bs.getD i 0 ≤ 255) : ∀ (r p e : Nat) {x : It} {nx : Nat}, p ≤ e → e ≤ bs.length → e ≤ 20000 → itemR lax bs r p e = .ok x nx → Enc1 r x (nx - p) := by
  intro r
  induction r with
  | zero => intro p e x nx _ _ _ h; simp only [itemR] at h; cases h
  | succ r ih =>
    intro p e x nx hp hel he h
    have hplace := itemR_place (r + 1) p e hp h
    simp only [itemR] at h
    split at h
    · cases h
    · cases ht : tagR lax bs p e with
      | no c q => rw [ht] at h; cases h
      | ok t q =>
        rw [ht] at h
        have h1 := tagR_place (by omega) ht
        obtain ⟨t1, t2, t3, t4⟩ := tagR_head hb ht
        have hcl : 0 ≤ clsN bs p ∧ clsN bs p ≤ 3 := by have := hb p; unfold clsN; omega
        simp only at h
        cases hl : lenR lax (consN bs p) bs q e with
        | no c q2 => rw [hl] at h; cases h
        | ok o q2 =>
          rw [hl] at h
          have h2 := lenR_place h1.2 hl
          cases o with
          | none =>
            simp only [bodyR] at h
            cases ho : openR (fun i => itemR lax bs r i e) bs e (e - q2 + 1) [] q2 with
            | no c q3 => rw [ho] at h; cases h
            | ok ks q3 =>
              rw [ho] at h
              obtain ⟨l, l1, l2⟩ := openR_enc lax bs r e he (fun p x nx hp h => ih p e hp hel he h) q2 _ [] q2 h2.2 (Nat.le_refl _) ⟨[], rfl, by simp⟩ ho
              cases h
              simp only [Option.getD_none] at hplace ⊢
              refine enc_of r _ l _ (shape_mk hcl ⟨t1, t2⟩ t3 (by simp)) (by simp only [innerBy, It.cons, It.kids, if_true]; exact l1) ?_ (by omega)
              rw [headL_size]
              have hll : (lenL l.length).length ≤ 3 := by
                unfold lenL
                split
                · simp
                · split
                  · simp
                  · split
                    · simp
                    · exfalso; omega
              show (if t < 31 then 1 else 1 + (putN t.toNat).length) + _ + _ ≤ _
              omega
          | some n =>
            simp only [bodyR] at h
            split at h
            · cases h
            · rename_i hne
              split at h
              · cases hc : closedR (fun i => itemR lax bs r i (q2 + n)) (q2 + n) n [] q2 with
                | no c q3 => rw [hc] at h; cases h
                | ok ks q3 =>
                  rw [hc] at h
                  have h4 := closedR_place (fun p x nx hp h => itemR_place r p (q2 + n) (by omega) h) _ _ _ (by omega) (by omega) hc
                  obtain ⟨l, l1, l2⟩ := closedR_enc lax bs r (q2 + n) (by omega) (fun p x nx hp h => ih p (q2 + n) hp (by omega) (by omega) h) q2 _ [] q2 (by omega) (Nat.le_refl _) ⟨[], rfl, by simp⟩ hc
                  have hlh := lenR_head hb hel hl l.length (by omega) (by omega)
                  cases h
                  simp only [Option.getD_some] at hplace ⊢
                  refine enc_of r _ l _ (shape_mk hcl ⟨t1, t2⟩ t3 (by simp)) (by simp only [innerBy, It.cons, It.kids, if_true]; exact l1) ?_ (by omega)
                  rw [headL_size]
                  show (if t < 31 then 1 else 1 + (putN t.toNat).length) + _ + _ ≤ _
                  omega
              · cases h
                have hbl : ((bs.drop q2).take n).length ≤ n := List.length_take_le n _
                have hlh := lenR_head hb hel hl ((bs.drop q2).take n).length hbl (by omega)
                refine enc_of r _ ((bs.drop q2).take n) _ (shape_mk hcl ⟨t1, t2⟩ t3 (by simp)) (innerBy_leaf _ _ _ _ (Nat.le_trans hbl (by omega))) ?_ (by omega)
                rw [headL_size]
                show (if t < 31 then 1 else 1 + (putN t.toNat).length) + _ + _ ≤ _
                omega
theorem readR_enc {lax : Bool} {bs : List Int} (hb : ∀ i, 0 ≤ bs.getD i 0 ∧ bs.getD i 0 ≤ 255) {x : It} {nx : Nat} (h : readR lax bs = .ok x nx) : Enc1 12 x bs.length := by
  unfold readR at h
  split at h
  · cases h
  · cases hi : itemR lax bs 12 0 bs.length with
    | no c p => rw [hi] at h; cases h
    | ok y n2 =>
      rw [hi] at h
      simp only at h
      split at h
      · cases h
      · cases h
        obtain ⟨l, h1, h2⟩ := itemR_enc lax bs hb 12 0 bs.length (Nat.zero_le _) (Nat.le_refl _) (by omega) hi
        have := itemR_place 12 0 bs.length (Nat.zero_le _) hi
        exact ⟨l, h1, by omega⟩

end Go.Proofs.YtjkkokjojaknkaaDoor

namespace Go.Proofs.YtjkkokjojaknkaaDoor
open Go.RowKit

/-! What is read is no longer than its bytes. -/
theorem wtS_snoc (d : Nat) (xs : List It) (x : It) : wtS (d + 1) (xs ++ [x]) = wtS (d + 1) xs + 1 + (x.body.length + wtS d x.kids) := by
  simp [wtS]; omega
theorem closedR_size (lax : Bool) (bs : List Int) (r : Nat) (ih : ∀ (p e : Nat) {x : It} {nx : Nat}, p ≤ e → itemR lax bs r p e = .ok x nx → p + x.body.length + wtS r x.kids + 2 ≤ nx) (e : Nat) : ∀ (k : Nat) (acc : List It) (q : Nat) {ks : List It} {nx : Nat}, q ≤ e →
    closedR (fun i => itemR lax bs r i e) e k acc q = .ok ks nx → wtS (r + 1) ks + q ≤ wtS (r + 1) acc + nx := by
  intro k
  induction k with
  | zero => intro acc q ks nx _ h; simp only [closedR] at h; cases h; omega
  | succ k ih2 =>
    intro acc q ks nx hq h
    simp only [closedR] at h
    split at h
    · cases hfq : itemR lax bs r q e with
      | no c2 p2 => rw [hfq] at h; cases h
      | ok y n2 =>
        rw [hfq] at h
        have h1 := ih q e hq hfq
        have h2 := itemR_place r q e hq hfq
        have h3 := ih2 (acc ++ [y]) n2 h2.2 h
        rw [wtS_snoc] at h3
        omega
    · cases h; omega
theorem openR_size (lax : Bool) (bs : List Int) (r : Nat) (ih : ∀ (p e : Nat) {x : It} {nx : Nat}, p ≤ e → itemR lax bs r p e = .ok x nx → p + x.body.length + wtS r x.kids + 2 ≤ nx) (e : Nat) : ∀ (k : Nat) (acc : List It) (q : Nat) {ks : List It} {nx : Nat}, q ≤ e →
    openR (fun i => itemR lax bs r i e) bs e k acc q = .ok ks nx → wtS (r + 1) ks + q ≤ wtS (r + 1) acc + nx := by
  intro k
  induction k with
  | zero => intro acc q ks nx _ h; simp only [openR] at h; cases h
  | succ k ih2 =>
    intro acc q ks nx hq h
    simp only [openR] at h
    split at h
    · cases h
    · split at h
      · split at h
        · cases h
        · split at h
          · cases h; omega
          · cases h
      · cases hfq : itemR lax bs r q e with
        | no c2 p2 => rw [hfq] at h; cases h
        | ok y n2 =>
          rw [hfq] at h
          have h1 := ih q e hq hfq
          have h2 := itemR_place r q e hq hfq
          have h3 := ih2 (acc ++ [y]) n2 h2.2 h
          rw [wtS_snoc] at h3
          omega
theorem wtS_nil (d : Nat) : wtS d [] = 0 := by cases d <;> simp [wtS]
theorem itemR_size (lax : Bool) (bs : List Int) : ∀ (r p e : Nat) {x : It} {nx : Nat}, p ≤ e → itemR lax bs r p e = .ok x nx → p + x.body.length + wtS r x.kids + 2 ≤ nx := by
  intro r
  induction r with
  | zero => intro p e x nx hp h; simp only [itemR] at h; cases h
  | succ r ih =>
    intro p e x nx hp h
    simp only [itemR] at h
    split at h
    · cases h
    · cases ht : tagR lax bs p e with
      | no c q => rw [ht] at h; cases h
      | ok t q =>
        rw [ht] at h
        have h1 := tagR_place (by omega) ht
        simp only at h
        cases hl : lenR lax (consN bs p) bs q e with
        | no c q2 => rw [hl] at h; cases h
        | ok o q2 =>
          rw [hl] at h
          have h2 := lenR_place h1.2 hl
          cases o with
          | none =>
            simp only [bodyR] at h
            cases ho : openR (fun i => itemR lax bs r i e) bs e (e - q2 + 1) [] q2 with
            | no c q3 => rw [ho] at h; cases h
            | ok ks q3 =>
              rw [ho] at h
              have h3 := openR_size lax bs r ih e _ _ _ h2.2 ho
              rw [wtS_nil] at h3
              cases h
              show p + ([] : List Int).length + wtS (r + 1) ks + 2 ≤ (none : Option Nat).getD q3
              simp only [List.length_nil, Option.getD_none]
              omega
          | some n =>
            simp only [bodyR] at h
            split at h
            · cases h
            · split at h
              · cases hc : closedR (fun i => itemR lax bs r i (q2 + n)) (q2 + n) n [] q2 with
                | no c q3 => rw [hc] at h; cases h
                | ok ks q3 =>
                  rw [hc] at h
                  have h3 := closedR_size lax bs r ih (q2 + n) _ _ _ (by omega) hc
                  have h4 := closedR_place (fun p x nx hp h => itemR_place r p (q2 + n) (by omega) h) _ _ _ (by omega) (by omega) hc
                  rw [wtS_nil] at h3
                  cases h
                  show p + ([] : List Int).length + wtS (r + 1) ks + 2 ≤ (some (q2 + n) : Option Nat).getD q3
                  simp only [List.length_nil, Option.getD_some]
                  omega
              · cases h
                show p + ((bs.drop q2).take n).length + wtS (r + 1) [] + 2 ≤ q2 + n
                have := List.length_take_le n (bs.drop q2)
                rw [wtS_nil]
                omega

/-! What both functions answer, in one form. -/
def yO (R : Rs It) : It := match R with | .ok x _ => x | .no _ _ => zeroIt
def cO (R : Rs It) : Int := match R with | .ok _ _ => 0 | .no c _ => (c : Int)
def pO (R : Rs It) : Int := match R with | .ok _ _ => 0 | .no _ p => (p : Int)
theorem readR_size (lax : Bool) (bs : List Int) : (yO (readR lax bs)).body.length + wtS 12 (yO (readR lax bs)).kids ≤ 20000 := by
  unfold readR
  split
  · exact Nat.zero_le _
  · cases hi : itemR lax bs 12 0 bs.length with
    | no c p => exact Nat.zero_le _
    | ok x nx =>
      have h1 := itemR_size lax bs 12 0 bs.length (Nat.zero_le _) hi
      have h2 := itemR_place 12 0 bs.length (Nat.zero_le _) hi
      simp only
      split
      · exact Nat.zero_le _
      · show x.body.length + wtS 12 x.kids ≤ 20000
        omega
theorem RiPost.out {R : Rs It} {w w' : World} {ev : Ending} (h : RiPost R w ev w') : Below w.heap.size w w' ∧ ∃ ab nb cb ak nk ck M, ev = .returned (.tuple #[itv (yO R) ab nb cb ak nk ck, .int .i64 (cO R), .int .i64 (pO R)]) ∧ w.heap.size ≤ M ∧ M ≤ w'.heap.size ∧ OwnB w.heap.size M w' ab nb cb (yO R).body ∧ OwnKids 12 M w'.heap.size w' ak nk (yO R).kids := by
  refine ⟨h.1, ?_⟩
  have h2 := h.2
  cases R with
  | ok x nx => exact h2
  | no c p =>
    obtain rfl := h2
    exact ⟨none, 0, 0, none, 0, 0, w'.heap.size, rfl, h.1.size, Nat.le_refl _, ownB_none _ _ _, ownKids_nil 11 _ _ _ none⟩

end Go.Proofs.YtjkkokjojaknkaaDoor

namespace Go.Proofs.YtjkkokjojaknkaaDoor
open Go.RowKit

/-- What Canon answers: the bytes of what is read laxly, or none and the fault. -/
def cnL (bs : List Int) : List Int := match readR true bs with
  | .ok x _ => (enc 12 x).getD []
  | .no _ _ => []
def CnPost (bs : List Int) (w : World) (ev : Ending) (w' : World) : Prop := Below w.heap.size w w' ∧ ∃ a cap, ev = .returned (.tuple #[.slice a (cnL bs).length cap, .int .i64 (cO (readR true bs)), .int .i64 (pO (readR true bs))]) ∧ Own w.heap.size w' a (cnL bs).length cap (cnL bs)

theorem readR_code {lax : Bool} {bs : List Int} {c p : Nat} (h : readR lax bs = .no c p) : c ≠ 0 := by
  unfold readR at h
  split at h
  · cases h; decide
  · cases hi : itemR lax bs 12 0 bs.length with
    | no c2 p2 => rw [hi] at h; cases h; exact itemR_code 12 0 bs.length (Nat.zero_le _) hi
    | ok y n2 =>
      rw [hi] at h
      simp only at h
      split at h
      · cases h; decide
      · cases h

set_option maxRecDepth 10000 in
set_option maxHeartbeats 4000000 in
theorem implCanon_any (a : Option Addr) (n cap : Nat) (bs : List Int) (w : World) (hE : ErrT w) (h : Row w a n bs) (hcap : n ≤ cap) (hn63 : n ≤ 9223372036854775807) :
    Calls Tryd.prog 16 #[.slice a n cap] w fun ev w' => CnPost bs w ev w' := by
  have HC := implReadItem_any a n cap true bs w hE h hcap hn63
  have hby := h.byte
  have hlen := h.len
  clear h hE
  cases hrd : readR true bs with
  | no c p =>
    rw [hrd] at HC
    have hcode := readR_code hrd
    have hne : ((c : Int) != 0) = true := by simp; omega
    have hf : Hid (cnL bs = [] ∧ cO (readR true bs) = c ∧ pO (readR true bs) = p) := by show _ ∧ _ ∧ _; unfold cnL; rw [hrd]; exact ⟨rfl, rfl, rfl⟩
    clear hrd hby
    go_enter Tryd.func16, Tryd.ntmps16
    go_wp2_with (go_at_call 14; refine HC.mono ?_; rintro ev w3 ⟨hb3, hev⟩; obtain rfl : ev = .returned (.tuple #[.agg #[.int .i64 0, .int .i64 0, .bool false, .slice none 0 0, .slice none 0 0], .int .i64 (c : Int), .int .i64 (p : Int)]) := hev)
    go_ret3
    refine ⟨hb3.alloc hb3.size _, none, 0, ?_⟩
    rw [hf.out.1, hf.out.2.1, hf.out.2.2]
    exact ⟨rfl, own_none _ _⟩
  | ok x nx =>
    rw [hrd] at HC
    obtain ⟨l, hl1, hl2⟩ := readR_enc hby hrd
    have hf : Hid (cnL bs = l ∧ cO (readR true bs) = 0 ∧ pO (readR true bs) = 0) := by show _ ∧ _ ∧ _; unfold cnL; rw [hrd]; exact ⟨by simp only [hl1]; rfl, rfl, rfl⟩
    have HEN : Hid (enc 12 x = some l) := hl1
    clear hrd hby hl1
    go_enter Tryd.func16, Tryd.ntmps16
    go_wp2_with fail
    refine HC.mono ?_
    rintro ev w3 ⟨hb3, ab, nb, cb, ak, nk, ck, M, rfl, m1, m2, ob, ok⟩
    have hal : Below w3.heap.size w3 (w3.alloc (.cells #[.int .i64 x.cls, .int .i64 x.tag, .bool x.cons, .slice ab nb cb, .slice ak nk ck] 26)) := (Below.refl _ _).alloc (Nat.le_refl _) _
    have hs3 := hb3.size
    have HI := implItemBytes_any 12 x ab nb cb ak nk ck (w3.alloc (.cells #[.int .i64 x.cls, .int .i64 x.tag, .bool x.cons, .slice ab nb cb, .slice ak nk ck] 26)) (ob.kept hal).own.toRow ob.own.nil ob.own.max (ok.kept hal).kids
    have hbb : Below w.heap.size w (w3.alloc (.cells #[.int .i64 x.cls, .int .i64 x.tag, .bool x.cons, .slice ab nb cb, .slice ak nk ck] 26)) := hb3.trans (hal.mono hs3)
    have hsa : (w3.alloc (.cells #[.int .i64 x.cls, .int .i64 x.tag, .bool x.cons, .slice ab nb cb, .slice ak nk ck] 26)).heap.size = w3.heap.size + 1 := by simp
    rw [HEN.out] at HI
    have HBB : Hid (_) := hbb
    clear ob ok hal hbb HC
    unfold itv at HI ⊢
    go_wp2_with fail
    refine HI.mono ?_
    rintro ev w4 ⟨hans, hb4⟩
    rcases hans with ⟨a4, n4, c4, bs4, rfl, he4, ho4⟩ | ⟨rfl, he4⟩
    · obtain rfl : l = bs4 := by simpa using he4.out
      obtain rfl : n4 = l.length := ho4.length.symm
      have hb5 := HBB.out.trans (hb4.mono (by omega))
      go_wp2
      go_ret3
      refine ⟨hb5, a4, c4, ?_⟩
      rw [hf.out.1, hf.out.2.1, hf.out.2.2]
      exact ⟨rfl, ho4.mono (by omega)⟩
    · cases he4.out

set_option maxRecDepth 10000 in
set_option maxHeartbeats 4000000 in
theorem specCanon_any (a : Option Addr) (n cap : Nat) (bs : List Int) (w : World) (h : Row w a n bs) (hcap : n ≤ cap) (hn63 : n ≤ 9223372036854775807) :
    Calls Tryd.prog 29 #[.slice a n cap] w fun ev w' => CnPost bs w ev w' := by
  have HC := specReadItem_any a n cap true bs w h hcap hn63
  have hby := h.byte
  have hlen := h.len
  clear h
  cases hrd : readR true bs with
  | no c p =>
    rw [hrd] at HC
    have hcode := readR_code hrd
    have hne : ((c : Int) != 0) = true := by simp; omega
    have hf : Hid (cnL bs = [] ∧ cO (readR true bs) = c ∧ pO (readR true bs) = p) := by show _ ∧ _ ∧ _; unfold cnL; rw [hrd]; exact ⟨rfl, rfl, rfl⟩
    clear hrd hby
    go_enter Tryd.func29, Tryd.ntmps29
    go_wp2_with (go_at_call 21; refine HC.mono ?_; rintro ev w3 ⟨hb3, hev⟩; obtain rfl : ev = .returned (.tuple #[.agg #[.int .i64 0, .int .i64 0, .bool false, .slice none 0 0, .slice none 0 0], .int .i64 (c : Int), .int .i64 (p : Int)]) := hev; have hs3 := hb3.size)
    go_ret3
    refine ⟨(hb3.alloc hs3 _).alloc (by simp; omega) _, some ⟨w3.heap.size + 1, 0, none⟩, 0, ?_⟩
    rw [hf.out.1, hf.out.2.1, hf.out.2.2]
    exact ⟨rfl, own_zero _ _ _ (by simp) (by simp; omega)⟩
  | ok x nx =>
    rw [hrd] at HC
    obtain ⟨l, hl1, hl2⟩ := readR_enc hby hrd
    have hf : Hid (cnL bs = l ∧ cO (readR true bs) = 0 ∧ pO (readR true bs) = 0) := by show _ ∧ _ ∧ _; unfold cnL; rw [hrd]; exact ⟨by simp only [hl1]; rfl, rfl, rfl⟩
    have HEN : Hid (enc 12 x = some l) := hl1
    clear hrd hby hl1
    go_enter Tryd.func29, Tryd.ntmps29
    go_wp2_with fail
    refine HC.mono ?_
    rintro ev w3 ⟨hb3, ab, nb, cb, ak, nk, ck, M, rfl, m1, m2, ob, ok⟩
    have hal : Below w3.heap.size w3 (w3.alloc (.cells #[.int .i64 x.cls, .int .i64 x.tag, .bool x.cons, .slice ab nb cb, .slice ak nk ck] 26)) := (Below.refl _ _).alloc (Nat.le_refl _) _
    have hs3 := hb3.size
    have HI := specBytes_all 12 12 x l ab nb cb ak nk ck (w3.alloc (.cells #[.int .i64 x.cls, .int .i64 x.tag, .bool x.cons, .slice ab nb cb, .slice ak nk ck] 26)) HEN.out (ob.kept hal).own.toRow ob.own.nil (ok.kept hal).kids
    have hbb : Below w.heap.size w (w3.alloc (.cells #[.int .i64 x.cls, .int .i64 x.tag, .bool x.cons, .slice ab nb cb, .slice ak nk ck] 26)) := hb3.trans (hal.mono hs3)
    have hsa : (w3.alloc (.cells #[.int .i64 x.cls, .int .i64 x.tag, .bool x.cons, .slice ab nb cb, .slice ak nk ck] 26)).heap.size = w3.heap.size + 1 := by simp
    have HBB : Hid (_) := hbb
    clear ob ok hal hbb HC
    unfold itv at HI ⊢
    go_wp2_with fail
    refine HI.mono ?_
    rintro ev w4 ⟨a4, c4, rfl, ho4, hb4⟩
    have hb5 := HBB.out.trans (hb4.mono (by omega))
    go_wp2
    go_ret3
    refine ⟨hb5, a4, c4, ?_⟩
    rw [hf.out.1, hf.out.2.1, hf.out.2.2]
    exact ⟨rfl, ho4.mono (by omega)⟩

end Go.Proofs.YtjkkokjojaknkaaDoor

namespace Go.Proofs.YtjkkokjojaknkaaDoor
open Go.RowKit

theorem cnL_size {bs : List Int} (hb : ∀ i, 0 ≤ bs.getD i 0 ∧ bs.getD i 0 ≤ 255) : (cnL bs).length ≤ 20000 := by
  unfold cnL
  cases h : readR true bs with
  | no c p => exact Nat.zero_le _
  | ok x nx =>
    obtain ⟨l, h1, h2⟩ := readR_enc hb h
    simp only [h1, Option.getD_some]
    have h3 : bs.length ≤ 20000 := by
      unfold readR at h
      split at h
      · cases h
      · omega
    omega

set_option maxRecDepth 10000 in
set_option maxHeartbeats 20000000 in
theorem lawCanon_walk (a : Option Addr) (n cap : Nat) (bs : List Int) (w : World) (hE : ErrT w) (hrow : Row w a n bs) (hn63 : n ≤ 9223372036854775807) :
    Calls Tryd.prog 7 #[.slice a n cap] w fun e w' => e = .returned (.bool true) ∧ Below w.heap.size w w' := by
  have HR : Hid (Row w a n bs) := hrow
  have HE : Hid (ErrT w) := hE
  have hw0 : 0 < w.heap.size := hE.1
  have HSZ0 := cnL_size hrow.byte
  clear hrow hE
  by_cases hbig : n ≤ 1048576
  · have hbi : ¬ (1048576 : Int) < (n : Int) := by omega
    have HO0 : ∀ (w w' : World) (ev : Ending), CnPost bs w ev w' → Below w.heap.size w w' ∧ ∃ a cap, ev = .returned (.tuple #[.slice a (cnL bs).length cap, .int .i64 (cO (readR true bs)), .int .i64 (pO (readR true bs))]) ∧ Own w.heap.size w' a (cnL bs).length cap (cnL bs) := fun _ _ _ h => h
    obtain ⟨l, hl⟩ : ∃ l, l = cnL bs := ⟨_, rfl⟩
    obtain ⟨c, hc⟩ : ∃ c, c = cO (readR true bs) := ⟨_, rfl⟩
    obtain ⟨p, hp⟩ : ∃ p, p = pO (readR true bs) := ⟨_, rfl⟩
    rw [← hl] at HSZ0
    rw [← hl, ← hc, ← hp] at HO0
    obtain ⟨m, hm⟩ : ∃ m, m = l.length := ⟨_, rfl⟩
    rw [← hm] at HO0 HSZ0
    have HO : Hid (_) := HO0
    clear HO0 hl hc hp hm
    have mx : m ≤ maxLen := by unfold maxLen; omega
    have nx : n ≤ maxLen := by unfold maxLen; omega
    have t1 : (c != c) = false := by simp
    have t2 : (p != p) = false := by simp
    go_enter Tryd.func7, Tryd.ntmps7
    go_wp2_with fail
    refine (toByteS_any a n cap bs _ HR.out hbig).mono ?_
    rintro e w1 ⟨a1, rfl, o1, B1⟩
    go_wp2_with fail
    refine (specCanon_any a1 n n bs w1 o1.toRow (Nat.le_refl _) hn63).mono ?_
    rintro e w2 hp2
    obtain ⟨b2, aw, cw, rfl, ow⟩ := HO.out _ _ _ hp2
    have z1 := B1.size
    have z2 := b2.size
    have B2 : Below w.heap.size w w2 := B1.trans (b2.mono z1)
    have W2 : Hid (OwnB w1.heap.size w2.heap.size w2 aw m cw l) := ow.ownB
    clear hp2 o1 B1 b2 ow
    go_wp2_with fail
    refine (toByteS_any a n cap bs _ (HR.out.kept B2) hbig).mono ?_
    rintro e w4 ⟨a4, rfl, o4, b4⟩
    have z4 := b4.size
    have B4 : Below w.heap.size w w4 := B2.trans (b4.mono B2.size)
    have W4 : Hid (_) := W2.out.kept b4
    have X4 : Hid (OwnB w2.heap.size w4.heap.size w4 a4 n n bs) := o4.ownB
    clear o4 b4 W2
    go_wp2_with fail
    refine (implCanon_any a4 n n bs w4 (HE.out.below hw0 B4) X4.out.own.toRow (Nat.le_refl _) hn63).mono ?_
    rintro e w5 hp5
    obtain ⟨b5, ag, cg, rfl, og⟩ := HO.out _ _ _ hp5
    have z5 := b5.size
    have B5 : Below w.heap.size w w5 := B4.trans (b5.mono B4.size)
    have W5 : Hid (_) := W4.out.kept b5
    have X5 : Hid (_) := X4.out.kept b5
    have G5 : Hid (OwnB w4.heap.size w5.heap.size w5 ag m cg l) := og.ownB
    clear hp5 og b5 W4 X4
    go_wp2_with fail
    refine (eqByteS_any ag aw m m cg cw l l _ G5.out.own.toRow W5.out.own.toRow mx mx).mono ?_
    rintro e w7 ⟨rfl, b7⟩
    rw [decide_eq_true (rfl : l = l)]
    have z7 := b7.size
    have B7 : Below w.heap.size w w7 := B5.trans (b7.mono B5.size)
    have G7 : Hid (_) := G5.out.kept b7
    have W7 : Hid (_) := W5.out.kept b7
    have X7 : Hid (_) := X5.out.kept b7
    clear b7 G5 W5 X5
    go_wp2_with fail
    refine (toByteS_any a n cap bs _ (HR.out.kept B7) hbig).mono ?_
    rintro e w8 ⟨a8, rfl, o8, b8⟩
    have z8 := b8.size
    have B8 : Below w.heap.size w w8 := B7.trans (b8.mono B7.size)
    have X8 := X7.out.kept b8
    go_wp2_with fail
    refine (eqByteS_any a4 a8 n n n n bs bs _ X8.own.toRow o8.toRow nx nx).mono ?_
    rintro e w9 ⟨rfl, b9⟩
    rw [decide_eq_true (rfl : bs = bs)]
    have z9 := b9.size
    have b79 : Below w7.heap.size w7 w9 := b8.trans (b9.mono z8)
    have B9 : Below w.heap.size w w9 := B8.trans (b9.mono B8.size)
    have G9 : Hid (_) := G7.out.kept b79
    have W9 : Hid (_) := W7.out.kept b79
    have X9 : Hid (_) := X8.kept b9
    clear b8 b9 b79 o8 X8 G7 W7 X7
    go_wp2_with fail
    refine (markByteS_any w2.heap.size a4 n n 1 bs w9 X9.out.own (by omega) (by omega)).mono ?_
    rintro e wA ⟨rfl, oA, gA⟩
    have tA : Touch w2.heap.size w4.heap.size w9 wA := X9.out.wrote gA
    have zA := tA.size
    have BA : Below w.heap.size w wA := B9.trans (tA.below (by have := B2.size; omega) (by omega))
    have WA : Hid (_) := W9.out.touch (.inl (Nat.le_refl _)) tA
    have GA : Hid (_) := G9.out.touch (.inr (Nat.le_refl _)) tA
    obtain ⟨qn, hqn⟩ : ∃ qn : Int, qn = ((1 + n : Nat) : Int) := ⟨_, rfl⟩
    rw [← hqn]
    have gqn : ¬ qn < 0 := by omega
    clear hqn oA gA tA G9 W9 X9
    go_wp2_with fail
    refine (eqByteS_any ag aw m m cg cw l l _ GA.out.own.toRow WA.out.own.toRow mx mx).mono ?_
    rintro e wB ⟨rfl, bB⟩
    rw [decide_eq_true (rfl : l = l)]
    have zB := bB.size
    have BB : Below w.heap.size w wB := BA.trans (bB.mono BA.size)
    have GB : Hid (_) := GA.out.kept bB
    have WB : Hid (_) := WA.out.kept bB
    clear bB GA WA
    go_wp2_with fail
    refine (markByteS_any w4.heap.size ag m cg 1 l wB GB.out.own (by omega) (by omega)).mono ?_
    rintro e wC ⟨rfl, oC, gC⟩
    have tC : Touch w4.heap.size w5.heap.size wB wC := GB.out.wrote gC
    have zC := tC.size
    have BC : Below w.heap.size w wC := BB.trans (tC.below (by have := B4.size; omega) (by omega))
    have WC : Hid (_) := WB.out.touch (.inl (by omega)) tC
    have HC : Hid (_) := oC
    have HELD : ∀ W : World, Row W ag m (marks 1 m) → Hid (Calls Tryd.prog 30 #[.slice ag m cg, .int .i64 1] W fun e w' => e = .returned (.int .i64 ((1 + m : Nat) : Int)) ∧ w' = W) := fun W h => heldByteS_any ag m cg 1 W h (by omega) (by omega)
    obtain ⟨qm, hqm⟩ : ∃ qm : Int, qm = ((1 + m : Nat) : Int) := ⟨_, rfl⟩
    rw [← hqm] at HELD ⊢
    have gqm : ¬ qm < 0 := by omega
    have tqm : (qm != qm) = false := by simp
    clear hqm oC gC tC GB WB
    go_wp2_with fail
    refine Calls.mono (HELD wC HC.out.toRow).out ?_
    rintro e wD ⟨rfl, rfl⟩
    go_wp2_with fail
    refine (toByteS_any a n cap bs _ (HR.out.kept BC) hbig).mono ?_
    rintro e wE ⟨aE, rfl, oE, bE⟩
    have zE := bE.size
    have BE : Below w.heap.size w wE := BC.trans (bE.mono BC.size)
    have WE : Hid (_) := WC.out.kept bE
    have HEE : Hid (_) := HC.out.kept bE
    clear bE WC HC
    go_wp2_with fail
    refine (implCanon_any aE n n bs wE (HE.out.below hw0 BE) oE.toRow (Nat.le_refl _) hn63).mono ?_
    rintro e wF hpF
    obtain ⟨bF, aF, cF, rfl, oF⟩ := HO.out _ _ _ hpF
    have zF := bF.size
    have BF : Below w.heap.size w wF := BE.trans (bF.mono BE.size)
    have WF : Hid (_) := WE.out.kept bF
    have HF : Hid (_) := HEE.out.kept bF
    clear hpF bF oE WE HEE
    go_wp2_with fail
    refine (eqByteS_any aF aw m m cF cw l l _ oF.toRow WF.out.own.toRow mx mx).mono ?_
    rintro e wG ⟨rfl, bG⟩
    rw [decide_eq_true (rfl : l = l)]
    have BG : Below w.heap.size w wG := BF.trans (bG.mono BF.size)
    have HG := HF.out.kept bG
    clear bG oF WF HF
    go_wp2_with fail
    refine Calls.mono (HELD wG HG.toRow).out ?_
    rintro e wH ⟨rfl, rfl⟩
    go_wp2
    go_ret
    exact ⟨rfl, BG⟩
  · have hbi : (1048576 : Int) < (n : Int) := by omega
    go_enter Tryd.func7, Tryd.ntmps7
    go_wp2
    go_ret
    exact ⟨rfl, Below.refl _ _⟩

end Go.Proofs.YtjkkokjojaknkaaDoor
