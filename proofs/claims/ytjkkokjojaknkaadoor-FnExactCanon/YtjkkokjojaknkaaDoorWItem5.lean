import Derived.Test.YtjkkokjojaknkaaDoorWItem4
namespace Go.Proofs.YtjkkokjojaknkaaDoor
open Go.RowKit

/-- The bytes of kids, one behind the other, up to 20000. -/
def encK (f : It → Option (List Int)) : List Int → List It → Option (List Int)
  | acc, [] => some acc
  | acc, x :: xs => match f x with
    | none => none
    | some p => if acc.length + p.length ≤ 20000 then encK f (acc ++ p) xs else none

/-- What stands behind an item's head. -/
def innerBy (f : It → Option (List Int)) (x : It) : Option (List Int) := if x.cons then encK f [] x.kids else if x.body.length ≤ 20000 then some x.body else none

/-- An item's bytes, r levels deep at most. -/
def enc : Nat → It → Option (List Int)
  | 0, _ => none
  | r + 1, x => if x.shape then
      match innerBy (enc r) x with
      | none => none
      | some inner => if (headL x inner.length ++ inner).length ≤ 20000 then some (headL x inner.length ++ inner) else none
    else none

theorem encK_len (f : It → Option (List Int)) (xs : List It) : ∀ acc l, acc.length ≤ 20000 → encK f acc xs = some l → l.length ≤ 20000 := by
  induction xs with
  | nil => intro acc l h e; simp [encK] at e; subst e; exact h
  | cons x xs ih =>
    intro acc l h e
    simp only [encK] at e
    split at e
    · cases e
    · split at e
      · exact ih _ _ (by rw [List.length_append]; assumption) e
      · cases e
theorem innerBy_len (f : It → Option (List Int)) (x : It) (l : List Int) (h : innerBy f x = some l) : l.length ≤ 20000 := by
  unfold innerBy at h
  split at h
  · exact encK_len f _ _ _ (by simp) h
  · split at h
    · simp at h; subst h; assumption
    · cases h
theorem enc_len (r : Nat) (x : It) (l : List Int) (h : enc r x = some l) : l.length ≤ 20000 := by
  cases r with
  | zero => simp [enc] at h
  | succ r =>
    simp only [enc] at h
    split at h
    · split at h
      · cases h
      · split at h
        · simp at h; subst h; assumption
        · cases h
    · cases h
theorem drop_get (xs : List It) (k : Nat) (h : k < xs.length) : xs.drop k = xs.getD k default :: xs.drop (k + 1) := by
  rw [List.drop_eq_getElem_cons h]
  simp [h]
theorem encK_next (f : It → Option (List Int)) (xs : List It) (k : Nat) (h : k < xs.length) (acc p : List Int) (hp : f (xs.getD k default) = some p) (hl : acc.length + p.length ≤ 20000) : encK f acc (xs.drop k) = encK f (acc ++ p) (xs.drop (k + 1)) := by
  rw [drop_get xs k h, encK, hp]
  simp [hl]
theorem encK_none (f : It → Option (List Int)) (xs : List It) (k : Nat) (h : k < xs.length) (acc : List Int) (hp : f (xs.getD k default) = none) : encK f acc (xs.drop k) = none := by
  rw [drop_get xs k h, encK, hp]
theorem encK_long (f : It → Option (List Int)) (xs : List It) (k : Nat) (h : k < xs.length) (acc p : List Int) (hp : f (xs.getD k default) = some p) (hl : ¬ acc.length + p.length ≤ 20000) : encK f acc (xs.drop k) = none := by
  rw [drop_get xs k h, encK, hp]
  simp only [if_neg hl]
theorem encK_end (f : It → Option (List Int)) (xs : List It) (k : Nat) (h : xs.length ≤ k) (acc : List Int) : encK f acc (xs.drop k) = some acc := by
  rw [List.drop_eq_nil_of_le h, encK]

theorem shape_bounds {x : It} (h : x.shape = true) : (0 ≤ x.cls ∧ x.cls ≤ 3) ∧ 0 ≤ x.tag ∧ x.tag ≤ 268435455 := by
  unfold It.shape at h
  simp only [Bool.and_eq_true, decide_eq_true_eq] at h
  omega

/-- An answer of bytes, or none. -/
def Ans (B : Nat) (o : Option (List Int)) (e : Ending) (w' : World) : Prop :=
  (∃ a n cap bs, e = .returned (.tuple #[.slice a n cap, .bool true]) ∧ Hid (o = some bs) ∧ Own B w' a n cap bs) ∨ (e = .returned (.tuple #[.slice none 0 0, .bool false]) ∧ Hid (o = none))

end Go.Proofs.YtjkkokjojaknkaaDoor
