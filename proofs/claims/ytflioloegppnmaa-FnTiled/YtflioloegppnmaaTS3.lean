import Derived.Test.YtflioloegppnmaaTS1
import Derived.Test.YtflioloegppnmaaW2
namespace Go.Proofs.Ytflioloegppnmaa
open Go.RowKit

def mkU (zs : List Int) (k j : Nat) : List Int := (List.range zs.length).map fun i => if i < j then ((k + i : Nat) : Int) else zs.getD i 0
theorem mkU_len (zs : List Int) (k j : Nat) : (mkU zs k j).length = zs.length := by simp [mkU]
theorem mkU_zero (zs : List Int) (k : Nat) : mkU zs k 0 = zs := by
  apply List.ext_getElem?
  intro i
  unfold mkU
  rw [List.getElem?_map]
  by_cases h : i < zs.length
  · rw [List.getElem?_range h, List.getElem?_eq_getElem h]
    simp [h]
  · rw [List.getElem?_eq_none (by simpa using h), List.getElem?_eq_none (by omega)]
    rfl
theorem mkU_set (zs : List Int) (k j : Nat) (hj : j < zs.length) : (mkU zs k j).set j ((k + j : Nat) : Int) = mkU zs k (j + 1) := by
  apply List.ext_getElem?
  intro i
  rw [List.getElem?_set, mkU_len]
  simp only [mkU, List.getElem?_map]
  by_cases hi : i < zs.length
  · rw [List.getElem?_range hi]
    by_cases e : j = i
    · subst e
      simp [hj]
    · simp only [e, if_false, Option.map_some]
      congr 1
      by_cases c : i < j
      · rw [if_pos c, if_pos (by omega)]
      · rw [if_neg c, if_neg (by omega)]
  · rw [List.getElem?_eq_none (by simp; omega)]
    split
    · omega
    · rfl
def marksU (k n : Nat) : List Int := (List.range n).map fun i => ((k + i : Nat) : Int)
theorem marksU_len (k n : Nat) : (marksU k n).length = n := by simp [marksU]
theorem mkU_all (zs : List Int) (k n : Nat) (h : zs.length = n) : mkU zs k n = marksU k n := by
  unfold mkU marksU
  rw [h]
  apply List.map_congr_left
  intro i hi
  rw [if_pos (List.mem_range.1 hi)]
theorem mkU_bd (zs : List Int) (hz : ∀ i, U64 (zs.getD i 0)) (k j : Nat) (hk : k ≤ 1000000000) (hl : zs.length ≤ 1000000000) : ∀ i, U64 ((mkU zs k j).getD i 0) := by
  intro i
  unfold mkU
  rw [List.getD_eq_getElem?_getD, List.getElem?_map]
  by_cases h : i < zs.length
  · rw [List.getElem?_range h]
    show U64 (if i < j then ((k + i : Nat) : Int) else zs.getD i 0)
    split
    · unfold U64; omega
    · exact hz i
  · rw [List.getElem?_eq_none (by simpa using h)]; simp [U64]

theorem marksU_get (k n i : Nat) (h : i < n) : (marksU k n).getD i 0 = ((k + i : Nat) : Int) := by simp [marksU, h]

end Go.Proofs.Ytflioloegppnmaa
