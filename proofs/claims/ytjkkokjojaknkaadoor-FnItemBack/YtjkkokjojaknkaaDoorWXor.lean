import Derived.Test.YtjkkokjojaknkaaDoorFA
import Derived.Test.YtjkkokjojaknkaaDoorFC
namespace Go.Proofs.YtjkkokjojaknkaaDoor
open Go.RowKit

def xr (xs ys : List Int) (i : Nat) : Int := bits .xor .u8 (xs.getD i 0) (ys.getD (i % ys.length) 0)
def xorTo (xs ys : List Int) (k : Nat) : List Int := (List.range xs.length).map fun i => if i < k then xr xs ys i else xs.getD i 0
def xorL (xs ys : List Int) : List Int := if ys = [] then xs else xorTo xs ys xs.length

theorem xr_byte {xs ys : List Int} (hx : ∀ k, 0 ≤ xs.getD k 0 ∧ xs.getD k 0 ≤ 255) (hy : ∀ k, 0 ≤ ys.getD k 0 ∧ ys.getD k 0 ≤ 255) (i : Nat) : 0 ≤ xr xs ys i ∧ xr xs ys i ≤ 255 := by
  unfold xr
  have h1 := hx i
  have h2 := hy (i % ys.length)
  rw [u8_xor _ _ h1.1 (by omega) h2.1 (by omega)]
  have : (xs.getD i 0).toNat ^^^ (ys.getD (i % ys.length) 0).toNat < 2 ^ 8 := Nat.xor_lt_two_pow (by omega) (by omega)
  omega
theorem xorTo_len (xs ys : List Int) (k : Nat) : (xorTo xs ys k).length = xs.length := by simp [xorTo]
theorem xorTo_zero (xs ys : List Int) : xorTo xs ys 0 = xs := by
  unfold xorTo
  apply List.ext_getElem
  · simp
  · intro i h1 h2; simp [h2]
theorem xorTo_get (xs ys : List Int) (k : Nat) (h : k < xs.length) : (xorTo xs ys k).getD k 0 = xs.getD k 0 := by simp [xorTo, h]
theorem xorTo_set (xs ys : List Int) (k : Nat) : (xorTo xs ys k).set k (xr xs ys k) = xorTo xs ys (k + 1) := by
  unfold xorTo
  apply List.ext_getElem
  · simp
  · intro i h1 h2
    simp at h1 h2
    rw [List.getElem_set]
    by_cases e : k = i
    · subst e; simp
    · rw [if_neg e]
      simp
      by_cases h3 : i < k
      · rw [if_pos h3, if_pos (by omega)]
      · rw [if_neg h3, if_neg (by omega)]

theorem own_heap {B : Nat} {w : World} {g n : Nat} {bs : List Int} (h : Own B w (some ⟨g, 0, none⟩) n n bs) : w.heap[g]? = some (.cells (bs.map (Value.int .u8)).toArray 5 (0, 0)) := by
  rcases h.row.2 with ⟨h', _⟩ | ⟨g', cap', cur, h', hb, hg, _, _, hsz, ht⟩
  · simp at h'
  · simp only [Value.slice.injEq, Option.some.injEq, Addr.mk.injEq, and_true, true_and] at h'
    obtain ⟨rfl, rfl⟩ := h'
    rw [List.take_of_length_le (by simp; omega)] at ht
    rw [hg, ← ht]
theorem own_of_heap {B : Nat} {w : World} {g n : Nat} {bs : List Int} (hB : B ≤ g) (hn : bs.length = n) (hm : n ≤ maxLen) (h : w.heap[g]? = some (.cells (bs.map (Value.int .u8)).toArray 5 (0, 0))) (hb : ∀ k, 0 ≤ bs.getD k 0 ∧ bs.getD k 0 ≤ 255) : Own B w (some ⟨g, 0, none⟩) n n bs :=
  ⟨⟨by simp [hn], .inr ⟨g, n, _, rfl, hB, h, Nat.le_refl _, hm, by simp [hn], List.take_of_length_le (by simp [hn])⟩⟩, hb⟩
theorem splice_all {α : Type} (L cs : List α) (h : cs.length = L.length) : splice L 0 cs = cs := by simp [splice, h]

theorem copy_src {w : World} {a : Option Addr} {n : Nat} {xs : List Int} {cs : List Value} (h : Row w a n xs) (hc : cs = xs.map (Value.int .u8)) (h0 : 0 < cs.length) : ∃ ad, a = some ad ∧ ∀ j v, cs[j]? = some v → w.cell? (ad.add j) = some v := by
  subst hc
  obtain ⟨b, off, rfl, _, _⟩ := h.get 0 (by rw [← h.len]; simpa using h0)
  exact ⟨_, rfl, row_cells h⟩

end Go.Proofs.YtjkkokjojaknkaaDoor
