import Derived.Test.YtifdcfchliaipaaQT2
import Derived.Test.YtifdcfchliaipaaQL12
namespace Go.Proofs.Ytifdcfchliaipaa
open Go.RowKit Go.Sort

/-- The first tile that has the part. -/
def fnd : List TP → Int → Int → Nat → Option Int
  | [], _, _, _ => none
  | t :: r, lv, ix, j => if t.lv = lv ∧ t.ix = ix ∧ j < t.hs.length then some (t.hs.getD j 0) else fnd r lv ix j
theorem fnd_at (xs : List TP) (lv ix : Int) (j k : Nat) (h : k < xs.length) : fnd (xs.drop k) lv ix j = if (xs.getD k default).lv = lv ∧ (xs.getD k default).ix = ix ∧ j < (xs.getD k default).hs.length then some ((xs.getD k default).hs.getD j 0) else fnd (xs.drop (k + 1)) lv ix j := by
  have e : xs.getD k default = xs[k] := by simp [h]
  rw [e, List.drop_eq_getElem_cons h, fnd]
theorem fnd_hit (xs : List TP) (lv ix : Int) (j k : Nat) (h : k < xs.length) (y : TP) (hy : y = xs.getD k default) (h1 : y.lv = lv) (h2 : y.ix = ix) (h3 : j < y.hs.length) : fnd (xs.drop k) lv ix j = some (y.hs.getD j 0) := by
  rw [fnd_at xs lv ix j k h, ← hy, if_pos ⟨h1, h2, h3⟩]
theorem fnd_miss (xs : List TP) (lv ix : Int) (j k : Nat) (h : k < xs.length) (y : TP) (hy : y = xs.getD k default) (hn : ¬ (y.lv = lv ∧ y.ix = ix ∧ j < y.hs.length)) : fnd (xs.drop k) lv ix j = fnd (xs.drop (k + 1)) lv ix j := by
  rw [fnd_at xs lv ix j k h, ← hy, if_neg hn]
theorem fnd_bd (lv ix : Int) (j : Nat) : ∀ (xs : List TP), (∀ t ∈ xs, ∀ k, U64 (t.hs.getD k 0)) → ∀ v, fnd xs lv ix j = some v → U64 v
  | [], _, v, h => by simp [fnd] at h
  | t :: r, hx, v, h => by
    rw [fnd] at h
    split at h
    · simp at h; rw [← h]; exact hx t (by simp) j
    · exact fnd_bd lv ix j r (fun t ht => hx t (by simp [ht])) v h
/-- The level whose parts are so long. -/
def lvOf (n : Nat) : Option Nat := if n = 1 then some 0 else if n = 4 then some 1 else if n = 16 then some 2 else if n = 64 then some 3 else none
theorem lvOf_pow (n l : Nat) (hl : l ≤ 3) : lvOf n = some l ↔ 4 ^ l = n := by
  have h4 : l = 0 ∨ l = 1 ∨ l = 2 ∨ l = 3 := by omega
  unfold lvOf
  rcases h4 with rfl | rfl | rfl | rfl
  · constructor
    · intro h; split at h
      · omega
      · split at h
        · simp at h
        · split at h
          · simp at h
          · split at h <;> simp at h
    · intro h; rw [if_pos (by omega)]
  · constructor
    · intro h; split at h
      · simp at h
      · split at h
        · omega
        · split at h
          · simp at h
          · split at h <;> simp at h
    · intro h; rw [if_neg (by omega), if_pos (by omega)]
  · constructor
    · intro h; split at h
      · simp at h
      · split at h
        · simp at h
        · split at h
          · omega
          · split at h <;> simp at h
    · intro h; rw [if_neg (by omega), if_neg (by omega), if_pos (by omega)]
  · constructor
    · intro h; split at h
      · simp at h
      · split at h
        · simp at h
        · split at h
          · simp at h
          · split at h
            · omega
            · simp at h
    · intro h; rw [if_neg (by omega), if_neg (by omega), if_neg (by omega), if_pos (by omega)]
theorem lvOf_le (n l : Nat) (h : lvOf n = some l) : l ≤ 3 := by
  unfold lvOf at h
  repeat (split at h; (simp at h; omega))
  simp at h
def partT (xs : List TP) (fr n : Nat) : Option Int :=
  match lvOf n with
  | some l => if fr % n = 0 then fnd xs l (fr / n / 4 : Nat) (fr / n % 4) else none
  | none => none
theorem partT_lv (xs : List TP) (fr n l : Nat) (h : lvOf n = some l) : partT xs fr n = if fr % n = 0 then fnd xs l (fr / n / 4 : Nat) (fr / n % 4) else none := by unfold partT; rw [h]
theorem partT_no (xs : List TP) (fr n : Nat) (h : lvOf n = none) : partT xs fr n = none := by unfold partT; rw [h]
theorem partT_bd (xs : List TP) (fr n : Nat) (hx : ∀ t ∈ xs, ∀ k, U64 (t.hs.getD k 0)) (v : Int) (h : partT xs fr n = some v) : U64 v := by
  unfold partT at h
  split at h
  · split at h
    · exact fnd_bd _ _ _ xs hx v h
    · simp at h
  · simp at h
/-- The root of the n digests from fr on, out of tiles, and how many of their digests are taken. -/
def tilR (xs : List TP) (fr n : Nat) : Option (Int × Nat) :=
  match partT xs fr n with
  | some h => some (h, 1)
  | none =>
    if _h : n ≤ 1 then none
    else match tilR xs fr (hk n), tilR xs (fr + hk n) (n - hk n) with
      | some a, some b => some (pairN a.1 b.1, a.2 + b.2)
      | _, _ => none
termination_by n
decreasing_by all_goals (have := hk_pos n; have := hk_lt (show 2 ≤ n by omega); omega)
theorem tilR_part (xs : List TP) (fr n : Nat) (h : Int) (e : partT xs fr n = some h) : tilR xs fr n = some (h, 1) := by rw [tilR, e]
theorem tilR_one (xs : List TP) (fr n : Nat) (e : partT xs fr n = none) (h : n ≤ 1) : tilR xs fr n = none := by rw [tilR, e]; simp [h]
theorem tilR_more (xs : List TP) (fr n : Nat) (e : partT xs fr n = none) (h : 2 ≤ n) : tilR xs fr n = match tilR xs fr (hk n), tilR xs (fr + hk n) (n - hk n) with
      | some a, some b => some (pairN a.1 b.1, a.2 + b.2)
      | _, _ => none := by
  conv => lhs; rw [tilR, e]
  simp only []
  rw [dif_neg (by omega)]
/-- What the program tells of it. -/
structure TrR (o : Option (Int × Nat)) (n : Nat) (v t : Int) (ok : Bool) : Prop where
  bd : U64 v
  lo : 0 ≤ t
  hi : t ≤ n
  yes : ∀ h c, o = some (h, c) → ok = true ∧ v = h ∧ t = c
  no : o = none → ok = false
/-- What the specification tells of it. -/
def tsV (o : Option (Int × Nat)) : Int × Int := match o with | some (h, c) => (h, c) | none => (0, -1)
theorem tilR_bd : ∀ (N : Nat) (xs : List TP) (fr n : Nat), n ≤ N → (∀ t ∈ xs, ∀ k, U64 (t.hs.getD k 0)) → 0 < n → ∀ h c, tilR xs fr n = some (h, c) → U64 h ∧ 1 ≤ c ∧ c ≤ n := by
  intro N
  induction N with
  | zero => intro xs fr n hN _ h0; omega
  | succ N ih =>
    intro xs fr n hN hx h0 h c e
    cases ep : partT xs fr n with
    | some v =>
      rw [tilR_part xs fr n v ep] at e
      simp at e
      obtain ⟨rfl, rfl⟩ := e
      exact ⟨partT_bd xs fr n hx _ ep, Nat.le_refl _, h0⟩
    | none =>
      by_cases h1 : n ≤ 1
      · rw [tilR_one xs fr n ep h1] at e; simp at e
      · have hl := hk_lt (show 2 ≤ n by omega)
        have hp := hk_pos n
        rw [tilR_more xs fr n ep (by omega)] at e
        cases ea : tilR xs fr (hk n) with
        | none => rw [ea] at e; simp at e
        | some a =>
          cases eb : tilR xs (fr + hk n) (n - hk n) with
          | none => rw [ea, eb] at e; simp at e
          | some b =>
            rw [ea, eb] at e
            simp at e
            obtain ⟨rfl, rfl⟩ := e
            have ia := ih xs fr (hk n) (by omega) hx (by omega) a.1 a.2 (by rw [ea])
            have ib := ih xs (fr + hk n) (n - hk n) (by omega) hx (by omega) b.1 b.2 (by rw [eb])
            exact ⟨pairN_bd _ _, by omega, by omega⟩
theorem Tls.rngs {w : World} {a : Option Addr} {n : Nat} {xs : List TP} (h : Tls w a n xs) : ∀ t ∈ xs, ∀ k, U64 (t.hs.getD k 0) := by
  intro t ht k
  obtain ⟨i, hi, rfl⟩ := List.getElem_of_mem ht
  obtain ⟨b, off, a1, n1, c1, _, _, _, hp, _⟩ := h.get i (by rw [← h.len]; exact hi)
  have e : xs.getD i default = xs[i] := by simp [hi]
  rw [e] at hp
  exact hp.rng k

end Go.Proofs.Ytifdcfchliaipaa
