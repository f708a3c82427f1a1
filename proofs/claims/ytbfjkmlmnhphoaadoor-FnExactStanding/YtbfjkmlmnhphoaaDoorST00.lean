import Derived.Test.YtbfjkmlmnhphoaaDoorBase
set_option linter.unusedVariables false
namespace Go.Proofs.YtbfjkmlmnhphoaaDoor
open Go.RowKit
open Classical

/-- e counts ahead of b. -/
def aheadP (e b : Int × Int) : Prop := e.2 < b.2 ∨ (e.2 = b.2 ∧ e.1 < b.1)
noncomputable def pick : Option (Int × Int) → Int × Int → Option (Int × Int)
  | none, e => some e
  | some b, e => if aheadP e b then some e else some b
/-- The one that counts ahead of all. -/
noncomputable def best (l : List (Int × Int)) : Option (Int × Int) := l.foldl pick none
theorem best_snoc (l : List (Int × Int)) (e : Int × Int) : best (l ++ [e]) = pick (best l) e := by simp [best, List.foldl_append]
theorem best_none (l : List (Int × Int)) : best l = none ↔ l = [] := by
  constructor
  · intro h
    by_cases he : l = []
    · exact he
    · exfalso
      have hl := List.dropLast_concat_getLast he
      rw [← hl, best_snoc] at h
      cases hb : best l.dropLast with
      | none => rw [hb] at h; simp [pick] at h
      | some b => rw [hb] at h; simp only [pick] at h; split at h <;> simp at h
  · rintro rfl; rfl
theorem pick_some (b e : Int × Int) : ∃ r, pick (some b) e = some r ∧ r = if aheadP e b then e else b := by
  by_cases h : aheadP e b <;> simp [pick, h]

end Go.Proofs.YtbfjkmlmnhphoaaDoor
