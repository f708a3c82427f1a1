import Derived.Test.YtjdfbebdcpjpiaaDoorO1n
import Derived.Test.YtjdfbebdcpjpiaaDoorW5
namespace Go.Proofs.YtjdfbebdcpjpiaaDoor
open Go.RowKit

theorem getL_ok (l : List Int) : ∀ (m p v q : Int), 0 ≤ m → getL l m p = (v, q, 0) → p < q ∧ q ≤ p + l.length ∧ 0 ≤ v ∧ v ≤ 9223372036854775807 ∧ ∃ d : Nat, q = p + 1 + d ∧ m * 128 * 128 ^ d ≤ v := by
  induction l with
  | nil => intro m p v q _ h; rw [getL] at h; simp at h
  | cons x r ih =>
    intro m p v q hm h
    rw [getL] at h
    have hx := Int.emod_nonneg x (show (128 : Int) ≠ 0 by decide)
    have hx2 := Int.emod_lt_of_pos x (show (0 : Int) < 128 by decide)
    split at h
    · simp at h
    · rename_i hb
      split at h
      · simp only [Prod.mk.injEq, and_true] at h
        obtain ⟨rfl, rfl⟩ := h
        refine ⟨by omega, by simp; omega, by omega, by omega, 0, by omega, by simp; omega⟩
      · obtain ⟨h1, h2, h3, h4, d, h5, h6⟩ := ih (m * 128 + x % 128) (p + 1) v q (by omega) h
        refine ⟨by omega, by simp at h2 ⊢; omega, h3, h4, d + 1, by push_cast; omega, Int.le_trans ?_ h6⟩
        have hp : (0 : Int) ≤ 128 ^ d := Int.pow_nonneg (by decide)
        have e : m * 128 * 128 ^ (d + 1) = (m * 128) * 128 * 128 ^ d := by rw [Int.pow_succ, Int.mul_comm (128 ^ d) 128, ← Int.mul_assoc]
        rw [e]
        exact Int.mul_le_mul_of_nonneg_right (by omega) hp

theorem getN_ok (bs : List Int) (hb : ∀ k, 0 ≤ bs.getD k 0 ∧ bs.getD k 0 ≤ 255) (p : Int) (h0 : 0 ≤ p) (hp : p < bs.length) (hc : (getN bs p).2.2 = 0) :
    p < (getN bs p).2.1 ∧ (getN bs p).2.1 ≤ bs.length ∧ 0 ≤ (getN bs p).1 ∧ (getN bs p).1 ≤ 9223372036854775807 ∧ ((getN bs p).1 ≤ 1099511627776 → (getN bs p).2.1 ≤ p + 6) := by
  obtain ⟨k, rfl⟩ := Int.eq_ofNat_of_zero_le h0
  have hk : k < bs.length := by omega
  have hbk := hb k
  unfold getN at hc ⊢
  rw [if_neg (by omega)] at hc ⊢
  rw [Int.toNat_natCast] at hc ⊢
  split at hc
  · simp at hc
  · rename_i h128
    rw [if_neg h128]
    obtain ⟨⟨v, q, cd⟩, ht⟩ : ∃ t, t = getL (bs.drop k) 0 k := ⟨_, rfl⟩
    rw [← ht] at hc ⊢
    simp only at hc
    subst hc
    obtain ⟨h1, h2, h3, h4, _⟩ := getL_ok _ 0 k v q (Int.le_refl _) ht.symm
    rw [List.length_drop] at h2
    refine ⟨h1, by show q ≤ _; omega, h3, h4, fun hv => ?_⟩
    show q ≤ _
    by_cases hx : bs.getD k 0 < 128
    · rw [getL_last hk (by decide) hx] at ht
      simp only [Prod.mk.injEq] at ht
      omega
    · rw [getL_next hk (by decide) hx] at ht
      obtain ⟨_, _, _, _, d, h5, h6⟩ := getL_ok _ _ _ v q (by omega) ht.symm
      by_cases hd : 5 ≤ d
      · have hpw : (128 : Int) ^ 5 ≤ 128 ^ d := by
          have := Nat.pow_le_pow_right (n := 128) (by decide) hd
          exact_mod_cast this
        have h7 : (1 : Int) * 128 * 128 ^ d ≤ (0 * 128 + bs.getD k 0 % 128) * 128 * 128 ^ d := Int.mul_le_mul_of_nonneg_right (by omega) (Int.pow_nonneg (by decide))
        have h8 : (1 : Int) * 128 * 128 ^ 5 ≤ 1 * 128 * 128 ^ d := Int.mul_le_mul_of_nonneg_left hpw (by decide)
        have h9 : (1 : Int) * 128 * 128 ^ 5 = 4398046511104 := by decide
        have hv' : v ≤ 1099511627776 := hv
        omega
      · omega

/-- What is read from a place on, to the end. -/
inductive Ro (bs : List Int) : Int → Option (List Int) → Prop
  | fin (p : Int) (h : (bs.length : Int) ≤ p) : Ro bs p (some [])
  | bad (p : Int) (h : p < bs.length) (hc : (getN bs p).2.2 ≠ 0) : Ro bs p none
  | step (p : Int) (r : Option (List Int)) (h : p < bs.length) (hc : (getN bs p).2.2 = 0) (hr : Ro bs (getN bs p).2.1 r) : Ro bs p (r.map ((getN bs p).1 :: ·))
theorem Ro.one {bs : List Int} {p : Int} {r : Option (List Int)} (h : Ro bs p r) : ∀ {s : Option (List Int)}, Ro bs p s → r = s := by
  induction h with
  | fin p h =>
    intro s k
    cases k with
    | fin _ _ => rfl
    | bad _ h2 _ => omega
    | step _ _ h2 _ _ => omega
  | bad p h hc =>
    intro s k
    cases k with
    | fin _ h2 => omega
    | bad _ _ _ => rfl
    | step _ _ _ h3 _ => exact absurd h3 hc
  | step p r h hc hr ih =>
    intro s k
    cases k with
    | fin _ h2 => omega
    | bad _ _ h3 => exact absurd hc h3
    | step _ r2 _ _ h4 => rw [ih h4]
theorem Ro.bytes {bs : List Int} (hb : ∀ k, 0 ≤ bs.getD k 0 ∧ bs.getD k 0 ≤ 255) {p : Int} {r : Option (List Int)} (h : Ro bs p r) : ∀ l, r = some l → 0 ≤ p → (∀ v ∈ l, v ≤ 1099511627776) → (bs.length : Int) ≤ p + 6 * l.length := by
  induction h with
  | fin p h => intro l hl _ _; simp at hl; subst hl; simp; exact h
  | bad p h hc => intro l hl; simp at hl
  | step p r h hc hr ih =>
    intro l hl h0 hv
    cases r with
    | none => simp at hl
    | some r =>
      simp at hl
      subst hl
      obtain ⟨g1, _, _, _, g5⟩ := getN_ok bs hb p h0 h hc
      have g6 := g5 (hv _ (by simp))
      have := ih r rfl (by omega) (fun v hm => hv v (by simp [hm]))
      simp
      omega

/-- The first number is two arcs. -/
def split2 : List Int → List Int
  | [] => []
  | n :: r => min (n / 40) 2 :: (n - 40 * min (n / 40) 2) :: r
def oidR (bs zs : List Int) (ok : Bool) : Prop := (ok = true ∧ ∃ l, Ro bs 0 (some l) ∧ l ≠ [] ∧ zs = split2 l ∧ arcP zs) ∨ (ok = false ∧ zs = [] ∧ ∀ l, Ro bs 0 (some l) → l ≠ [] → ¬ arcP (split2 l))
theorem oidR_one {bs a b : List Int} {x y : Bool} (h : oidR bs a x) (k : oidR bs b y) : a = b ∧ x = y := by
  rcases h with ⟨rfl, l, h1, h2, rfl, h3⟩ | ⟨rfl, rfl, h1⟩
  · rcases k with ⟨rfl, l', k1, k2, rfl, k3⟩ | ⟨_, _, k1⟩
    · have := h1.one k1
      simp at this
      exact ⟨by rw [this], rfl⟩
    · exact absurd h3 (k1 l h1 h2)
  · rcases k with ⟨_, l', k1, k2, rfl, k3⟩ | ⟨rfl, rfl, _⟩
    · exact absurd k3 (h1 l' k1 k2)
    · exact ⟨rfl, rfl⟩
theorem oidR_none {bs : List Int} (h : Ro bs 0 none) : oidR bs [] false := .inr ⟨rfl, rfl, fun l h1 _ => by have := h.one h1; simp at this⟩
theorem arcP_long {l : List Int} (h : arcP (split2 l)) : l.length ≤ 11 ∧ ∀ v ∈ l, v ≤ 1099511627776 := by
  cases l with
  | nil => simp
  | cons n r =>
    obtain ⟨h1, h2, h3, h4⟩ := h
    simp only [split2, List.length_cons] at h1 h4
    simp only [split2, List.getD_cons_zero, List.getD_cons_succ] at h2 h3
    have ha : arc2 (min (n / 40) 2) ≤ 1000 := by unfold arc2; split <;> omega
    refine ⟨by simp; omega, fun v hv => ?_⟩
    rcases List.mem_cons.1 hv with rfl | hv
    · omega
    · obtain ⟨j, hj, rfl⟩ := List.getElem_of_mem hv
      have := (h4 (j + 2) (by omega) (by omega)).2
      simpa [hj] using this
theorem oidR_long {bs : List Int} (hb : ∀ k, 0 ≤ bs.getD k 0 ∧ bs.getD k 0 ≤ 255) (h : 100 < bs.length) : oidR bs [] false := .inr ⟨rfl, rfl, fun l h1 _ h3 => by
  obtain ⟨h4, h5⟩ := arcP_long h3
  have := h1.bytes hb l rfl (Int.le_refl _) h5
  omega⟩
theorem oidR_end {bs l : List Int} (h : Ro bs 0 (some l)) (hn : l ≠ []) (ok : Bool) (hk : ok = true ↔ arcP (split2 l)) : oidR bs (if ok = true then split2 l else []) ok := by
  cases ok with
  | true => exact .inl ⟨rfl, l, h, hn, by simp, by simpa using hk.1 rfl⟩
  | false => exact .inr ⟨rfl, by simp, fun l' h1 _ h3 => by
      have := h.one h1
      simp at this
      subst this
      exact Bool.false_ne_true (hk.2 h3)⟩
theorem oidR_empty {bs : List Int} (h : Ro bs 0 (some [])) : oidR bs [] false := .inr ⟨rfl, rfl, fun l h1 h2 => by have := h.one h1; simp at this; exact absurd this h2⟩

/-- What has been read so far stands ahead. -/
def Sofar (bs l : List Int) (p : Int) : Prop := ∀ r, Ro bs p r → Ro bs 0 (r.map (l ++ ·))
theorem sofar_zero (bs : List Int) : Sofar bs [] 0 := fun r h => by simpa using h
theorem Sofar.next {bs l : List Int} {p : Int} (h : Sofar bs l p) (hp : p < bs.length) (hc : (getN bs p).2.2 = 0) : Sofar bs (l ++ [(getN bs p).1]) (getN bs p).2.1 := fun r hr => by
  have := h _ (.step p r hp hc hr)
  cases r with
  | none => simpa using this
  | some r => simpa using this
theorem Sofar.fail {bs l : List Int} {p : Int} (h : Sofar bs l p) (hp : p < bs.length) (hc : (getN bs p).2.2 ≠ 0) : Ro bs 0 none := h none (.bad p hp hc)
theorem Sofar.done {bs l : List Int} {p : Int} (h : Sofar bs l p) (hp : (bs.length : Int) ≤ p) : Ro bs 0 (some l) := by simpa using h _ (.fin p hp)

end Go.Proofs.YtjdfbebdcpjpiaaDoor
