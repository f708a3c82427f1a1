import Derived.Test.YtifdcfchliaipaaQL8
namespace Go.Proofs.Ytifdcfchliaipaa
open Go.RowKit Go.Sort

/-- The roots of the first m and of all n that a proof leads to; sp: as the specification works it out. -/
def bothR (sp : Bool) (old : Int) (m n : Nat) (fl : Bool) (ps : List Int) : Int × Int × Bool :=
  if _h : n ≤ m ∨ n ≤ 1 then
    if fl then (old, old, decide (ps.length = 0))
    else if sp then (if ps.length = 1 then (ps.getD 0 0, ps.getD 0 0, true) else (0, 0, false))
    else (if ps.length = 0 then (0, 0, false) else (ps.getD (ps.length - 1) 0, ps.getD (ps.length - 1) 0, decide (ps.length = 1)))
  else if ps.length = 0 then (0, 0, false)
  else if m ≤ hk n then
    ((bothR sp old m (hk n) fl (ps.take (ps.length - 1))).1, pairN (bothR sp old m (hk n) fl (ps.take (ps.length - 1))).2.1 (ps.getD (ps.length - 1) 0), (bothR sp old m (hk n) fl (ps.take (ps.length - 1))).2.2)
  else
    (pairN (ps.getD (ps.length - 1) 0) (bothR sp (if sp then old else 0) (m - hk n) (n - hk n) false (ps.take (ps.length - 1))).1, pairN (ps.getD (ps.length - 1) 0) (bothR sp (if sp then old else 0) (m - hk n) (n - hk n) false (ps.take (ps.length - 1))).2.1, (bothR sp (if sp then old else 0) (m - hk n) (n - hk n) false (ps.take (ps.length - 1))).2.2)
termination_by n
decreasing_by all_goals (have := hk_pos n; have := hk_lt (show 2 ≤ n by omega); omega)
theorem bothR_known (sp : Bool) (old : Int) (m n : Nat) (ps : List Int) (h : n ≤ m ∨ n ≤ 1) : bothR sp old m n true ps = (old, old, decide (ps.length = 0)) := by rw [bothR, dif_pos h]; rfl
theorem bothR_spec (old : Int) (m n : Nat) (ps : List Int) (h : n ≤ m ∨ n ≤ 1) : bothR true old m n false ps = if ps.length = 1 then (ps.getD 0 0, ps.getD 0 0, true) else (0, 0, false) := by rw [bothR, dif_pos h]; rfl
theorem bothR_impl (old : Int) (m n : Nat) (ps : List Int) (h : n ≤ m ∨ n ≤ 1) : bothR false old m n false ps = if ps.length = 0 then (0, 0, false) else (ps.getD (ps.length - 1) 0, ps.getD (ps.length - 1) 0, decide (ps.length = 1)) := by rw [bothR, dif_pos h]; rfl
theorem bothR_nil (sp : Bool) (old : Int) (m n : Nat) (fl : Bool) (ps : List Int) (h : 2 ≤ n) (hm : m < n) (hp : ps.length = 0) : bothR sp old m n fl ps = (0, 0, false) := by rw [bothR, dif_neg (by omega), if_pos hp]
theorem bothR_lo (sp : Bool) (old : Int) (m n : Nat) (fl : Bool) (ps : List Int) (h : 2 ≤ n) (hm : m < n) (q : Nat) (hp : ps.length = q + 1) (hi : m ≤ hk n) : bothR sp old m n fl ps = ((bothR sp old m (hk n) fl (ps.take q)).1, pairN (bothR sp old m (hk n) fl (ps.take q)).2.1 (ps.getD q 0), (bothR sp old m (hk n) fl (ps.take q)).2.2) := by
  conv => lhs; rw [bothR]
  rw [dif_neg (by omega), if_neg (by omega), if_pos hi, hp, Nat.add_sub_cancel]
theorem bothR_hi (sp : Bool) (old : Int) (m n : Nat) (fl : Bool) (ps : List Int) (h : 2 ≤ n) (hm : m < n) (q : Nat) (hp : ps.length = q + 1) (hi : ¬ m ≤ hk n) : bothR sp old m n fl ps = (pairN (ps.getD q 0) (bothR sp (if sp then old else 0) (m - hk n) (n - hk n) false (ps.take q)).1, pairN (ps.getD q 0) (bothR sp (if sp then old else 0) (m - hk n) (n - hk n) false (ps.take q)).2.1, (bothR sp (if sp then old else 0) (m - hk n) (n - hk n) false (ps.take q)).2.2) := by
  conv => lhs; rw [bothR]
  rw [dif_neg (by omega), if_neg (by omega), if_neg hi, hp, Nat.add_sub_cancel]
theorem bothR_bd : ∀ (N : Nat) (sp : Bool) (old : Int) (m n : Nat) (fl : Bool) (ps : List Int), n ≤ N → U64 old → (∀ k, U64 (ps.getD k 0)) → U64 (bothR sp old m n fl ps).1 ∧ U64 (bothR sp old m n fl ps).2.1 := by
  have z : U64 0 := by simp [U64]
  intro N
  induction N with
  | zero =>
    intro sp old m n fl ps hN ho hp
    cases fl with
    | true => rw [bothR_known sp old m n ps (by omega)]; exact ⟨ho, ho⟩
    | false =>
      cases sp with
      | true => rw [bothR_spec old m n ps (by omega)]; split; exact ⟨hp _, hp _⟩; exact ⟨z, z⟩
      | false => rw [bothR_impl old m n ps (by omega)]; split; exact ⟨z, z⟩; exact ⟨hp _, hp _⟩
  | succ N ih =>
    intro sp old m n fl ps hN ho hp
    by_cases h1 : n ≤ m ∨ n ≤ 1
    · cases fl with
      | true => rw [bothR_known sp old m n ps h1]; exact ⟨ho, ho⟩
      | false =>
        cases sp with
        | true => rw [bothR_spec old m n ps h1]; split; exact ⟨hp _, hp _⟩; exact ⟨z, z⟩
        | false => rw [bothR_impl old m n ps h1]; split; exact ⟨z, z⟩; exact ⟨hp _, hp _⟩
    · by_cases h2 : ps.length = 0
      · rw [bothR_nil sp old m n fl ps (by omega) (by omega) h2]; exact ⟨z, z⟩
      · by_cases h3 : m ≤ hk n
        · rw [bothR_lo sp old m n fl ps (by omega) (by omega) (ps.length - 1) (by omega) h3]
          exact ⟨(ih sp old m (hk n) fl _ (by have := hk_lt (show 2 ≤ n by omega); omega) ho (u64_take hp _)).1, pairN_bd _ _⟩
        · rw [bothR_hi sp old m n fl ps (by omega) (by omega) (ps.length - 1) (by omega) h3]
          exact ⟨pairN_bd _ _, pairN_bd _ _⟩
/-- Both sides work out the same, where the proof has as many digests as it must. -/
theorem both_same : ∀ (N : Nat) (o1 o2 : Int) (m n : Nat) (fl : Bool) (ps : List Int), n ≤ N → (fl = true → o1 = o2) → (bothR true o1 m n fl ps).2.2 = (bothR false o2 m n fl ps).2.2 ∧ ((bothR true o1 m n fl ps).2.2 = true → bothR true o1 m n fl ps = bothR false o2 m n fl ps) := by
  have base : ∀ (o1 o2 : Int) (m n : Nat) (fl : Bool) (ps : List Int), (n ≤ m ∨ n ≤ 1) → (fl = true → o1 = o2) → (bothR true o1 m n fl ps).2.2 = (bothR false o2 m n fl ps).2.2 ∧ ((bothR true o1 m n fl ps).2.2 = true → bothR true o1 m n fl ps = bothR false o2 m n fl ps) := by
    intro o1 o2 m n fl ps h1 ho
    cases fl with
    | true => rw [bothR_known true o1 m n ps h1, bothR_known false o2 m n ps h1, ho rfl]; exact ⟨rfl, fun _ => rfl⟩
    | false =>
      rw [bothR_spec o1 m n ps h1, bothR_impl o2 m n ps h1]
      by_cases h3 : ps.length = 1
      · rw [if_pos h3, if_neg (by omega), h3]; exact ⟨rfl, fun _ => rfl⟩
      · by_cases h4 : ps.length = 0
        · rw [if_neg h3, if_pos h4]; exact ⟨rfl, fun _ => rfl⟩
        · rw [if_neg h3, if_neg h4]; simp [h3]
  intro N
  induction N with
  | zero => intro o1 o2 m n fl ps hN ho; exact base o1 o2 m n fl ps (by omega) ho
  | succ N ih =>
    intro o1 o2 m n fl ps hN ho
    by_cases h1 : n ≤ m ∨ n ≤ 1
    · exact base o1 o2 m n fl ps h1 ho
    · have hl := hk_lt (show 2 ≤ n by omega)
      have hp := hk_pos n
      by_cases h2 : ps.length = 0
      · rw [bothR_nil true o1 m n fl ps (by omega) (by omega) h2, bothR_nil false o2 m n fl ps (by omega) (by omega) h2]; exact ⟨rfl, fun _ => rfl⟩
      · by_cases h3 : m ≤ hk n
        · rw [bothR_lo true o1 m n fl ps (by omega) (by omega) (ps.length - 1) (by omega) h3, bothR_lo false o2 m n fl ps (by omega) (by omega) (ps.length - 1) (by omega) h3]
          obtain ⟨e1, e2⟩ := ih o1 o2 m (hk n) fl (ps.take (ps.length - 1)) (by omega) ho
          exact ⟨e1, fun h => by rw [e2 h]⟩
        · rw [bothR_hi true o1 m n fl ps (by omega) (by omega) (ps.length - 1) (by omega) h3, bothR_hi false o2 m n fl ps (by omega) (by omega) (ps.length - 1) (by omega) h3]
          obtain ⟨e1, e2⟩ := ih (if true then o1 else 0) (if false then o2 else 0) (m - hk n) (n - hk n) false (ps.take (ps.length - 1)) (by omega) (by simp)
          exact ⟨e1, fun h => by rw [e2 h]⟩

end Go.Proofs.Ytifdcfchliaipaa
