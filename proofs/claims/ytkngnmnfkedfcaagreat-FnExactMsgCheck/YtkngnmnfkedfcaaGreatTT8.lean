import Derived.Test.YtkngnmnfkedfcaaGreatTT7
namespace Go.Proofs.YtkngnmnfkedfcaaGreat
open Go.RowKit

def HN (h : Int) (N : Nat) : Prop := (h = 0 ∧ N = 1) ∨ (h = 1 ∧ N = 2) ∨ (h = 2 ∧ N = 4) ∨ (h = 3 ∧ N = 8) ∨ (h = 4 ∧ N = 16) ∨ (h = 5 ∧ N = 32)
theorem HN.of {h : Int} (h0 : 0 ≤ h) (h5 : h ≤ 5) : ∃ N, HN h N := by
  unfold HN
  have : h = 0 ∨ h = 1 ∨ h = 2 ∨ h = 3 ∨ h = 4 ∨ h = 5 := by omega
  rcases this with rfl | rfl | rfl | rfl | rfl | rfl
  · exact ⟨1, by omega⟩
  · exact ⟨2, by omega⟩
  · exact ⟨4, by omega⟩
  · exact ⟨8, by omega⟩
  · exact ⟨16, by omega⟩
  · exact ⟨32, by omega⟩
theorem HN.le {h : Int} {N : Nat} (hn : HN h N) : 1 ≤ N ∧ N ≤ 32 := by unfold HN at hn; omega
theorem HN.one {h : Int} {N M : Nat} (hn : HN h N) (hm : HN h M) : N = M := by unfold HN at hn hm; omega
theorem HN.sh {h : Int} {N : Nat} (hn : HN h N) : wrap64 ((2 : Int) ^ h.toNat) = (N : Int) := by
  unfold HN at hn
  rcases hn with ⟨rfl, rfl⟩ | ⟨rfl, rfl⟩ | ⟨rfl, rfl⟩ | ⟨rfl, rfl⟩ | ⟨rfl, rfl⟩ | ⟨rfl, rfl⟩ <;> decide +kernel
def leavesN (seed : Int) (N : Nat) : List Int := (List.range N).map fun (i : Nat) => leafN seed (i : Int)
theorem leavesN_len (seed : Int) (N : Nat) : (leavesN seed N).length = N := by simp [leavesN]
theorem leavesN_get (seed : Int) (N k : Nat) (h : k < N) : (leavesN seed N).getD k 0 = leafN seed (k : Int) := by simp [leavesN, h]
theorem leavesN_bd (seed : Int) (N : Nat) : ∀ k, U64 ((leavesN seed N).getD k 0) := by
  intro k
  by_cases h : k < N
  · rw [leavesN_get seed N k h]; exact leafN_bd _ _
  · rw [List.getD_eq_getElem?_getD, List.getElem?_eq_none (by rw [leavesN_len]; omega)]; simp [U64]
theorem leavesN_snoc (seed : Int) (N k : Nat) (h : k < N) : (leavesN seed N).take (k + 1) = (leavesN seed N).take k ++ [leafN seed (k : Int)] := by
  rw [take_snoc _ _ (by rw [leavesN_len]; exact h), leavesN_get seed N k h]

end Go.Proofs.YtkngnmnfkedfcaaGreat
