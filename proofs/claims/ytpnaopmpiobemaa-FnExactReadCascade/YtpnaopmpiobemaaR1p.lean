import Derived.Test.YtpnaopmpiobemaaB5
import Derived.Test.YtpnaopmpiobemaaW5
namespace Go.Proofs.Ytpnaopmpiobemaa
open Go.RowKit

theorem getL_ok {l : List Int} (hb : ∀ x ∈ l, 0 ≤ x) {m p v to : Int} (hm : 0 ≤ m) (h : getL l m p = (v, to, 0)) : 0 ≤ v ∧ v ≤ 9223372036854775807 ∧ p < to ∧ to ≤ p + l.length := by
  induction l generalizing m p with
  | nil => simp [getL] at h
  | cons x r ih =>
    rw [getL] at h
    split at h
    · simp at h
    · split at h
      · simp only [Prod.mk.injEq, and_true] at h
        obtain ⟨rfl, rfl⟩ := h
        simp only [List.length_cons]
        omega
      · have := ih (fun y hy => hb y (List.mem_cons_of_mem _ hy)) (by omega) h
        simp only [List.length_cons]
        omega
theorem byte_mem {bs : List Int} (hb : ∀ k, 0 ≤ bs.getD k 0) : ∀ x ∈ bs, 0 ≤ x := by
  intro x hx
  obtain ⟨k, hk, rfl⟩ := List.getElem_of_mem hx
  have := hb k
  simpa [hk] using this
theorem getN_ok {bs : List Int} (hb : ∀ k, 0 ≤ bs.getD k 0) {p v to : Int} (h : getN bs p = (v, to, 0)) : 0 ≤ v ∧ v ≤ 9223372036854775807 ∧ p < to ∧ to ≤ bs.length ∧ 0 ≤ p := by
  unfold getN at h
  split at h
  · simp at h
  · rename_i hp
    split at h
    · simp at h
    · have := getL_ok (fun x hx => byte_mem hb x (List.mem_of_mem_drop hx)) (Int.le_refl 0) h
      rw [List.length_drop] at this
      omega
/-- A bit of a byte, the first one the highest. -/
def btA (x : Int) (r : Nat) : Int := x / 2 ^ (7 - r) % 2
theorem btA_bd (x : Int) (r : Nat) : 0 ≤ btA x r ∧ btA x r ≤ 1 := by unfold btA; omega
theorem and_all : ∀ r : Nat, r < 8 → ∀ x : Nat, x < 256 → bits .and .u8 (x : Int) ((2 ^ (7 - r) : Nat) : Int) = btA (x : Int) r * ((2 ^ (7 - r) : Nat) : Int) := by decide +kernel
theorem and_one : ∀ x : Nat, x < 256 → bits .and .u8 (x : Int) 1 = ((x % 2 : Nat) : Int) := by decide +kernel
/-- The first k of n bits that begin at the place to. -/
def unH (bs : List Int) (to n k : Nat) : List Int := (List.range n).map fun i => if i < k then btA (bs.getD (to + i / 8) 0) (i % 8) else 0
def unL (bs : List Int) (to n : Nat) : List Int := unH bs to n n
theorem unH_len (bs : List Int) (to n k : Nat) : (unH bs to n k).length = n := by simp [unH]
theorem unL_len (bs : List Int) (to n : Nat) : (unL bs to n).length = n := unH_len _ _ _ _
theorem unH_zero (bs : List Int) (to n : Nat) : unH bs to n 0 = List.replicate n 0 := by
  unfold unH
  apply List.ext_getElem?
  intro i
  by_cases h : i < n
  · simp [h]
  · rw [List.getElem?_eq_none (by simp; omega), List.getElem?_eq_none (by simp; omega)]
theorem unH_byte (bs : List Int) (to n k : Nat) : ∀ i, 0 ≤ (unH bs to n k).getD i 0 ∧ (unH bs to n k).getD i 0 ≤ 255 := by
  intro i
  by_cases h : i < n
  · simp only [unH, List.getD_eq_getElem?_getD, List.getElem?_map, List.getElem?_range h, Option.map_some, Option.getD_some]
    split
    · have := btA_bd (bs.getD (to + i / 8) 0) (i % 8)
      simp only [List.getD_eq_getElem?_getD] at this
      omega
    · omega
  · rw [List.getD_eq_getElem?_getD, List.getElem?_eq_none (by rw [unH_len]; omega)]; simp
theorem unH_set (bs : List Int) (to n k : Nat) : (unH bs to n k).set k (btA (bs.getD (to + k / 8) 0) (k % 8)) = unH bs to n (k + 1) := by
  apply List.ext_getElem?
  intro i
  rw [List.getElem?_set]
  by_cases e : k = i
  · subst e
    simp only [if_true, unH_len]
    by_cases h : k < n
    · rw [if_pos h]; simp [unH, h]
    · rw [if_neg h, List.getElem?_eq_none (by rw [unH_len]; omega)]
  · rw [if_neg e]
    by_cases h : i < n
    · simp only [unH, List.getElem?_map, List.getElem?_range h, Option.map_some]
      congr 1
      by_cases c : i < k
      · rw [if_pos c, if_pos (by omega)]
      · rw [if_neg c, if_neg (by omega)]
    · rw [List.getElem?_eq_none (by rw [unH_len]; omega), List.getElem?_eq_none (by rw [unH_len]; omega)]
theorem unH_same (bs : List Int) (to n k : Nat) (h : btA (bs.getD (to + k / 8) 0) (k % 8) = 0) : unH bs to n k = unH bs to n (k + 1) := by
  rw [← unH_set, h]
  apply List.ext_getElem?
  intro i
  rw [List.getElem?_set]
  by_cases e : k = i
  · subst e
    simp only [if_true, unH_len]
    by_cases hk : k < n
    · rw [if_pos hk]; simp [unH, hk]
    · rw [if_neg hk, List.getElem?_eq_none (by rw [unH_len]; omega)]
  · rw [if_neg e]
/-- A row that is read at a place: its bits, and the place behind it. -/
def rdRow (bs : List Int) (p : Int) : Option (List Int × Int) :=
  let g := getN bs p
  if g.2.2 ≠ 0 ∨ 160000 < g.1 ∨ (bs.length : Int) < g.2.1 + (g.1 + 7) / 8 then none else some (unL bs g.2.1.toNat g.1.toNat, g.2.1 + (g.1 + 7) / 8)
def rdI (bs : List Int) (p : Int) : Nat → Option (List (List Int) × Int)
  | 0 => some ([], p)
  | i + 1 => match rdI bs p i with
    | none => none
    | some (rs, q) => match rdRow bs q with
      | none => none
      | some (r, q') => some (rs ++ [r], q')
def rcP (bs : List Int) (bss : List (List Int)) : Prop := ∃ n to q, getN bs 0 = (n, to, 0) ∧ n ≤ 30 ∧ rdI bs to n.toNat = some (bss, q) ∧ cbP bss ∧ cbL bss = bs
theorem rcP_one {bs : List Int} {b1 b2 : List (List Int)} (h : rcP bs b1) (g : rcP bs b2) : b1 = b2 := by
  obtain ⟨n, to, q, h1, _, h2, _⟩ := h
  obtain ⟨n', to', q', g1, _, g2, _⟩ := g
  rw [h1] at g1
  simp only [Prod.mk.injEq, and_true] at g1
  obtain ⟨rfl, rfl⟩ := g1
  rw [h2] at g2
  simp only [Option.some.injEq, Prod.mk.injEq] at g2
  exact g2.1

end Go.Proofs.Ytpnaopmpiobemaa
