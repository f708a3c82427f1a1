import Derived.Test.YtjkkokjojaknkaaDoorRR11
import Derived.Test.YtjkkokjojaknkaaDoorWWt
namespace Go.Proofs.YtjkkokjojaknkaaDoor
open Go.RowKit

/-! What is read is no longer than its bytes. -/
theorem wtS_snoc (d : Nat) (xs : List It) (x : It) : wtS (d + 1) (xs ++ [x]) = wtS (d + 1) xs + 1 + (x.body.length + wtS d x.kids) := by
  simp [wtS]; omega
theorem closedR_size (lax : Bool) (bs : List Int) (r : Nat) (ih : ∀ (p e : Nat) {x : It} {nx : Nat}, p ≤ e → itemR lax bs r p e = .ok x nx → p + x.body.length + wtS r x.kids + 2 ≤ nx) (e : Nat) : ∀ (k : Nat) (acc : List It) (q : Nat) {ks : List It} {nx : Nat}, q ≤ e →
    closedR (fun i => itemR lax bs r i e) e k acc q = .ok ks nx → wtS (r + 1) ks + q ≤ wtS (r + 1) acc + nx := by
  intro k
  induction k with
  | zero => intro acc q ks nx _ h; simp only [closedR] at h; cases h; omega
  | succ k ih2 =>
    intro acc q ks nx hq h
    simp only [closedR] at h
    split at h
    · cases hfq : itemR lax bs r q e with
      | no c2 p2 => rw [hfq] at h; cases h
      | ok y n2 =>
        rw [hfq] at h
        have h1 := ih q e hq hfq
        have h2 := itemR_place r q e hq hfq
        have h3 := ih2 (acc ++ [y]) n2 h2.2 h
        rw [wtS_snoc] at h3
        omega
    · cases h; omega
theorem openR_size (lax : Bool) (bs : List Int) (r : Nat) (ih : ∀ (p e : Nat) {x : It} {nx : Nat}, p ≤ e → itemR lax bs r p e = .ok x nx → p + x.body.length + wtS r x.kids + 2 ≤ nx) (e : Nat) : ∀ (k : Nat) (acc : List It) (q : Nat) {ks : List It} {nx : Nat}, q ≤ e →
    openR (fun i => itemR lax bs r i e) bs e k acc q = .ok ks nx → wtS (r + 1) ks + q ≤ wtS (r + 1) acc + nx := by
  intro k
  induction k with
  | zero => intro acc q ks nx _ h; simp only [openR] at h; cases h
  | succ k ih2 =>
    intro acc q ks nx hq h
    simp only [openR] at h
    split at h
    · cases h
    · split at h
      · split at h
        · cases h
        · split at h
          · cases h; omega
          · cases h
      · cases hfq : itemR lax bs r q e with
        | no c2 p2 => rw [hfq] at h; cases h
        | ok y n2 =>
          rw [hfq] at h
          have h1 := ih q e hq hfq
          have h2 := itemR_place r q e hq hfq
          have h3 := ih2 (acc ++ [y]) n2 h2.2 h
          rw [wtS_snoc] at h3
          omega
theorem wtS_nil (d : Nat) : wtS d [] = 0 := by cases d <;> simp [wtS]
theorem itemR_size (lax : Bool) (bs : List Int) : ∀ (r p e : Nat) {x : It} {nx : Nat}, p ≤ e → itemR lax bs r p e = .ok x nx → p + x.body.length + wtS r x.kids + 2 ≤ nx := by
  intro r
  induction r with
  | zero => intro p e x nx hp h; simp only [itemR] at h; cases h
  | succ r ih =>
    intro p e x nx hp h
    simp only [itemR] at h
    split at h
    · cases h
    · cases ht : tagR lax bs p e with
      | no c q => rw [ht] at h; cases h
      | ok t q =>
        rw [ht] at h
        have h1 := tagR_place (by omega) ht
        simp only at h
        cases hl : lenR lax (consN bs p) bs q e with
        | no c q2 => rw [hl] at h; cases h
        | ok o q2 =>
          rw [hl] at h
          have h2 := lenR_place h1.2 hl
          cases o with
          | none =>
            simp only [bodyR] at h
            cases ho : openR (fun i => itemR lax bs r i e) bs e (e - q2 + 1) [] q2 with
            | no c q3 => rw [ho] at h; cases h
            | ok ks q3 =>
              rw [ho] at h
              have h3 := openR_size lax bs r ih e _ _ _ h2.2 ho
              rw [wtS_nil] at h3
              cases h
              show p + ([] : List Int).length + wtS (r + 1) ks + 2 ≤ (none : Option Nat).getD q3
              simp only [List.length_nil, Option.getD_none]
              omega
          | some n =>
            simp only [bodyR] at h
            split at h
            · cases h
            · split at h
              · cases hc : closedR (fun i => itemR lax bs r i (q2 + n)) (q2 + n) n [] q2 with
                | no c q3 => rw [hc] at h; cases h
                | ok ks q3 =>
                  rw [hc] at h
                  have h3 := closedR_size lax bs r ih (q2 + n) _ _ _ (by omega) hc
                  have h4 := closedR_place (fun p x nx hp h => itemR_place r p (q2 + n) (by omega) h) _ _ _ (by omega) (by omega) hc
                  rw [wtS_nil] at h3
                  cases h
                  show p + ([] : List Int).length + wtS (r + 1) ks + 2 ≤ (some (q2 + n) : Option Nat).getD q3
                  simp only [List.length_nil, Option.getD_some]
                  omega
              · cases h
                show p + ((bs.drop q2).take n).length + wtS (r + 1) [] + 2 ≤ q2 + n
                have := List.length_take_le n (bs.drop q2)
                rw [wtS_nil]
                omega

/-! What both functions answer, in one form. -/
def yO (R : Rs It) : It := match R with | .ok x _ => x | .no _ _ => zeroIt
def cO (R : Rs It) : Int := match R with | .ok _ _ => 0 | .no c _ => (c : Int)
def pO (R : Rs It) : Int := match R with | .ok _ _ => 0 | .no _ p => (p : Int)
theorem readR_size (lax : Bool) (bs : List Int) : (yO (readR lax bs)).body.length + wtS 12 (yO (readR lax bs)).kids ≤ 20000 := by
  unfold readR
  split
  · exact Nat.zero_le _
  · cases hi : itemR lax bs 12 0 bs.length with
    | no c p => exact Nat.zero_le _
    | ok x nx =>
      have h1 := itemR_size lax bs 12 0 bs.length (Nat.zero_le _) hi
      have h2 := itemR_place 12 0 bs.length (Nat.zero_le _) hi
      simp only
      split
      · exact Nat.zero_le _
      · show x.body.length + wtS 12 x.kids ≤ 20000
        omega
theorem RiPost.out {R : Rs It} {w w' : World} {ev : Ending} (h : RiPost R w ev w') : Below w.heap.size w w' ∧ ∃ ab nb cb ak nk ck M, ev = .returned (.tuple #[itv (yO R) ab nb cb ak nk ck, .int .i64 (cO R), .int .i64 (pO R)]) ∧ w.heap.size ≤ M ∧ M ≤ w'.heap.size ∧ OwnB w.heap.size M w' ab nb cb (yO R).body ∧ OwnKids 12 M w'.heap.size w' ak nk (yO R).kids := by
  refine ⟨h.1, ?_⟩
  have h2 := h.2
  cases R with
  | ok x nx => exact h2
  | no c p =>
    obtain rfl := h2
    exact ⟨none, 0, 0, none, 0, 0, w'.heap.size, rfl, h.1.size, Nat.le_refl _, ownB_none _ _ _, ownKids_nil 11 _ _ _ none⟩

end Go.Proofs.YtjkkokjojaknkaaDoor
