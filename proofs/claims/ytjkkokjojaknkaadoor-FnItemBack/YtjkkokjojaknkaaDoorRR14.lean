import Derived.Test.YtjkkokjojaknkaaDoorRR13
import Derived.Test.YtjkkokjojaknkaaDoorRR7
import Derived.Test.YtjkkokjojaknkaaDoorRR8
namespace Go.Proofs.YtjkkokjojaknkaaDoor
open Go.RowKit

/-! No code is 0. -/
theorem grpR_code {bs : List Int} {p e : Nat} : ∀ (n : Nat) (tag : Int) (q : Nat) {c x : Nat}, grpR bs p e n tag q = .no c x → c ≠ 0 := by
  intro n
  induction n with
  | zero => intro tag q c x h; simp only [grpR] at h; split at h <;> (cases h; decide)
  | succ n ih =>
    intro tag q c x h
    simp only [grpR] at h
    split at h
    · cases h; decide
    · split at h
      · cases h
      · exact ih _ _ h
theorem stagR_code {lax : Bool} {bs : List Int} {p e c x : Nat} (h : stagR lax bs p e = .no c x) : c ≠ 0 := by
  unfold stagR at h
  split at h
  · cases h
  · cases hg : grpR bs p e 6 0 (p + 1) with
    | no c2 q2 => rw [hg] at h; cases h; exact grpR_code _ _ _ hg
    | ok t q2 =>
      rw [hg] at h
      simp only at h
      split at h
      · cases h; decide
      · cases h
theorem stagR_place {lax : Bool} {bs : List Int} {p e : Nat} {t : Int} {nx : Nat} (hp : p < e) (h : stagR lax bs p e = .ok t nx) : p < nx ∧ nx ≤ e := by
  unfold stagR at h
  split at h
  · cases h; omega
  · cases hg : grpR bs p e 6 0 (p + 1) with
    | no c2 q2 => rw [hg] at h; cases h
    | ok t2 q2 =>
      rw [hg] at h
      have := grpR_place 6 0 (p + 1) (by omega) hg
      simp only at h
      split at h
      · cases h
      · cases h; omega
theorem lenR_code {lax cons : Bool} {bs : List Int} {q e c x : Nat} (h : lenR lax cons bs q e = .no c x) : c ≠ 0 := by
  unfold lenR at h
  by_cases h0 : q = e
  · rw [if_pos h0] at h; cases h; decide
  rw [if_neg h0] at h
  by_cases h1 : bs.getD q 0 < 128
  · rw [if_pos h1] at h; cases h
  rw [if_neg h1] at h
  by_cases h2 : bs.getD q 0 = 128 ∧ lax = true ∧ cons = true
  · rw [if_pos h2] at h; cases h
  rw [if_neg h2] at h
  by_cases h3 : bs.getD q 0 = 128 ∨ 132 < bs.getD q 0
  · rw [if_pos h3] at h; cases h; decide
  rw [if_neg h3] at h
  by_cases h4 : e < q + 1 + (bs.getD q 0 - 128).toNat
  · rw [if_pos h4] at h; cases h; decide
  rw [if_neg h4] at h
  by_cases h5 : lax = false ∧ (bs.getD (q + 1) 0 = 0 ∨ digR bs (q + 1) (bs.getD q 0 - 128).toNat < 128)
  · rw [if_pos h5] at h; cases h; decide
  rw [if_neg h5] at h
  cases h
theorem closedR_code_le (lax : Bool) (bs : List Int) (r : Nat) (ih : ∀ (p e : Nat) {c x : Nat}, p ≤ e → itemR lax bs r p e = .no c x → c ≠ 0) (e : Nat) : ∀ (k : Nat) (acc : List It) (q : Nat) {c x : Nat}, q ≤ e → closedR (fun i => itemR lax bs r i e) e k acc q = .no c x → c ≠ 0 := by
  intro k
  induction k with
  | zero => intro acc q c x _ h; simp only [closedR] at h; cases h
  | succ k ih2 =>
    intro acc q c x hq h
    simp only [closedR] at h
    split at h
    · cases hfq : itemR lax bs r q e with
      | no c2 p2 => rw [hfq] at h; cases h; exact ih _ _ hq hfq
      | ok y n2 =>
        rw [hfq] at h
        exact ih2 _ _ (itemR_place r q e hq hfq).2 h
    · cases h
theorem openR_code_le (lax : Bool) (bs : List Int) (r : Nat) (ih : ∀ (p e : Nat) {c x : Nat}, p ≤ e → itemR lax bs r p e = .no c x → c ≠ 0) (e : Nat) : ∀ (k : Nat) (acc : List It) (q : Nat) {c x : Nat}, q ≤ e → e + 1 ≤ q + k → openR (fun i => itemR lax bs r i e) bs e k acc q = .no c x → c ≠ 0 := by
  intro k
  induction k with
  | zero => intro acc q c x h1 h2 h; omega
  | succ k ih2 =>
    intro acc q c x h1 h2 h
    simp only [openR] at h
    split at h
    · cases h; decide
    · split at h
      · split at h
        · cases h; decide
        · split at h
          · cases h
          · cases h; decide
      · cases hfq : itemR lax bs r q e with
        | no c2 p2 => rw [hfq] at h; cases h; exact ih _ _ h1 hfq
        | ok y n2 =>
          rw [hfq] at h
          have := itemR_place r q e h1 hfq
          exact ih2 _ _ (by omega) (by omega) h
theorem itemR_code {lax : Bool} {bs : List Int} : ∀ (r p e : Nat) {c x : Nat}, p ≤ e → itemR lax bs r p e = .no c x → c ≠ 0 := by
  intro r
  induction r with
  | zero => intro p e c x hp h; simp only [itemR] at h; cases h; decide
  | succ r ih =>
    intro p e c x hp h
    simp only [itemR] at h
    split at h
    · cases h; decide
    · have hts := tagR_stag lax bs p e
      cases ht : tagR lax bs p e with
      | no c2 q =>
        rw [ht] at h hts
        cases h
        cases hs : stagR lax bs p e with
        | no c3 q3 => rw [hs] at hts; cases hts; exact stagR_code hs
        | ok t3 q3 =>
          rw [hs] at hts
          simp only at hts
          split at hts
          · cases hts; decide
          · cases hts
      | ok t q =>
        rw [ht] at h
        have h1 := tagR_place (by omega) ht
        simp only at h
        cases hl : lenR lax (consN bs p) bs q e with
        | no c2 q2 => rw [hl] at h; cases h; exact lenR_code hl
        | ok o q2 =>
          rw [hl] at h
          have h2 := lenR_place h1.2 hl
          cases o with
          | none =>
            simp only [bodyR] at h
            cases ho : openR (fun i => itemR lax bs r i e) bs e (e - q2 + 1) [] q2 with
            | ok ks q3 => rw [ho] at h; cases h
            | no c2 q3 =>
              rw [ho] at h
              cases h
              exact openR_code_le lax bs r ih e _ _ _ h2.2 (by omega) ho
          | some n =>
            simp only [bodyR] at h
            split at h
            · cases h; decide
            · split at h
              · cases hc : closedR (fun i => itemR lax bs r i (q2 + n)) (q2 + n) n [] q2 with
                | ok ks q3 => rw [hc] at h; cases h
                | no c2 q3 =>
                  rw [hc] at h
                  cases h
                  exact closedR_code_le lax bs r ih (q2 + n) _ _ _ (by omega) hc
              · cases h

end Go.Proofs.YtjkkokjojaknkaaDoor
