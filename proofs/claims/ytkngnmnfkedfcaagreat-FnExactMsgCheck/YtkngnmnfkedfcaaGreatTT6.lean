import Derived.Test.YtkngnmnfkedfcaaGreatTT5
namespace Go.Proofs.YtkngnmnfkedfcaaGreat
open Go.RowKit

def upN (zs : List Int) (i : Nat) : Int := hashD ndW [zs.getD (2 * i) 0, zs.getD (2 * i + 1) 0]
def upL (zs : List Int) : List Int := (List.range (zs.length / 2)).map (upN zs)
theorem upL_len (zs : List Int) : (upL zs).length = zs.length / 2 := by simp [upL]
theorem upL_get (zs : List Int) (i : Nat) (h : i < zs.length / 2) : (upL zs).getD i 0 = upN zs i := by simp [upL, h]
theorem upL_bd (zs : List Int) : ∀ k, U64 ((upL zs).getD k 0) := by
  intro k
  by_cases h : k < zs.length / 2
  · rw [upL_get zs k h]; exact hashD_bd _ _
  · rw [List.getD_eq_getElem?_getD, List.getElem?_eq_none (by rw [upL_len]; omega)]; simp [U64]
theorem rowU_lit2 (w : World) (x y : Int) (hx : U64 x) (hy : U64 y) : RowU (w.alloc (.cells #[.int .u64 x, .int .u64 y] 48)) (some ⟨w.heap.size, 0, none⟩) 2 [x, y] := by
  refine ⟨rfl, fun k hk => ⟨w.heap.size, 0, rfl, by simp, ?_⟩, fun k => ?_⟩
  · rw [Nat.zero_add, cell_of_row _ w.heap.size k _ 48 _ (heap_alloc_new w _)]
    match k, hk with
    | 0, _ => rfl
    | 1, _ => rfl
  · match k with
    | 0 => exact hx
    | 1 => exact hy
    | k + 2 => simp [U64]

end Go.Proofs.YtkngnmnfkedfcaaGreat
