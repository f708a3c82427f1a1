import Derived.Test.YtjkkokjojaknkaaDoorWCl
import Derived.Deep.AppendLies
namespace Go.Proofs.YtjkkokjojaknkaaDoor
open Go.RowKit

theorem OwnPre.regrow {K : Nat → Nat → World → Option Addr → Nat → List It → Prop} (hK : Moves K) {lo hi : Nat} {w w' : World} {g g' i : Nat} {xs : List It} (h : OwnPre K lo hi w g i xs)
    (hc : ∀ j, j < i * 5 → w'.cell? ⟨g', j, none⟩ = w.cell? ⟨g, j, none⟩) (hg : g' = g ∨ hi ≤ g') (ht : Touch g (g + 1) w w') : OwnPre K lo hi w' g' i xs := by
  obtain ⟨L, H, h1, h2, h3⟩ := h
  refine ⟨L, H, fun k hk => ?_, h2, fun k hk => ?_⟩
  · have := h1 k hk
    rcases hg with rfl | hg
    · exact this
    · omega
  · obtain ⟨ab, nb, cb, ak, nk, ck, M, c0, c1, c2, c3, c4, m1, m2, ob, ok⟩ := h3 k hk
    have hb := h1 k hk
    exact ⟨ab, nb, cb, ak, nk, ck, M, (hc _ (by omega)).trans c0, (hc _ (by omega)).trans c1, (hc _ (by omega)).trans c2, (hc _ (by omega)).trans c3, (hc _ (by omega)).trans c4, m1, m2,
      ob.touch (by omega) ht, hK _ _ _ _ _ _ _ _ _ ok (by omega) ht⟩
theorem OwnPre.wide {K : Nat → Nat → World → Option Addr → Nat → List It → Prop} {lo hi hi' : Nat} {w : World} {g i : Nat} {xs : List It} (h : OwnPre K lo hi w g i xs) (hh : hi ≤ hi') : OwnPre K lo hi' w g i xs := by
  obtain ⟨L, H, h1, h2, h3⟩ := h
  exact ⟨L, H, fun k hk => by have := h1 k hk; omega, h2, h3⟩
theorem OwnPre.more' {K : Nat → Nat → World → Option Addr → Nat → List It → Prop} {lo hi s hi' M : Nat} {w : World} {g i : Nat} {xs : List It} (h : OwnPre K lo hi w g i xs) (hs : hi ≤ s) (hg : g < s ∨ hi' ≤ g) (hlo : lo ≤ s) (m1 : s ≤ M) (m2 : M ≤ hi')
    {ab : Option Addr} {nb cb : Nat} {ak : Option Addr} {nk ck : Nat} (c0 : w.cell? ⟨g, i * 5, none⟩ = some (.int .i64 (xs.getD i default).cls)) (c1 : w.cell? ⟨g, i * 5 + 1, none⟩ = some (.int .i64 (xs.getD i default).tag)) (c2 : w.cell? ⟨g, i * 5 + 2, none⟩ = some (.bool (xs.getD i default).cons))
    (c3 : w.cell? ⟨g, i * 5 + 3, none⟩ = some (.slice ab nb cb)) (c4 : w.cell? ⟨g, i * 5 + 4, none⟩ = some (.slice ak nk ck)) (ob : OwnB s M w ab nb cb (xs.getD i default).body) (ok : K M hi' w ak nk (xs.getD i default).kids) : OwnPre K lo hi' w g (i + 1) xs := by
  obtain ⟨L, H, h1, h2, h3⟩ := h
  refine ⟨fun k => if k = i then s else L k, fun k => if k = i then hi' else H k, fun k hk => ?_, fun j k hjk hk => ?_, fun k hk => ?_⟩
  · by_cases hki : k = i
    · subst hki
      simp only [if_true]
      omega
    · have := h1 k (by omega)
      simp only [if_neg hki]
      omega
  · have hj := h1 j (by omega)
    simp only [if_neg (show j ≠ i by omega)]
    by_cases hki : k = i
    · simp only [if_pos hki]; omega
    · simp only [if_neg hki]; exact h2 j k hjk (by omega)
  · by_cases hki : k = i
    · subst hki
      simp only [if_true]
      exact ⟨ab, nb, cb, ak, nk, ck, M, c0, c1, c2, c3, c4, m1, m2, ob, ok⟩
    · simp only [if_neg hki]
      exact h3 k (by omega)

theorem cells_new (w : World) (cs : Array Value) (t : TypeId) : ∀ j u, cs.toList[j]? = some u → (w.alloc (.cells cs t)).cell? ((⟨w.heap.size, 0, none⟩ : Addr).add j) = some u := by
  intro j u hj
  rw [Addr.add_lit, Nat.zero_add, cell_of_row _ w.heap.size j _ t (0, 0) (heap_alloc_new w _)]
  simpa using hj

end Go.Proofs.YtjkkokjojaknkaaDoor
