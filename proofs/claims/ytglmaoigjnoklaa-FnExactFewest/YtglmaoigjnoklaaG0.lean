import Derived.Test.YtglmaoigjnoklaaF1
import Derived.Test.YtglmaoigjnoklaaS6
namespace Go.Proofs.Ytglmaoigjnoklaa
open Go.RowKit

theorem Try.info2i : (Try.prog.info? 2).map (fun i => (i.zero, i.size, i.bytes)) = some (some (.int .i64 0), 1, 8) := by kernel_rfl

/-- A row of n numbers. -/
structure ArrM (w : World) (g n : Nat) (L : Nat → Int) : Prop where
  heap : ∃ cs, w.heap[g]? = some (.cells cs 2 (0, 0)) ∧ cs.size = n ∧ ∀ i, i < n → cs[i]? = some (.int .i64 (L i))
theorem ArrM.cell {w : World} {g n : Nat} {L : Nat → Int} (h : ArrM w g n L) (i : Nat) (hi : i < n) : w.cell? ⟨g, i, none⟩ = some (.int .i64 (L i)) := by
  obtain ⟨cs, hh, _, hc⟩ := h.heap
  exact (cell_of_row _ g i _ _ (0, 0) hh).trans (hc i hi)
theorem ArrM.frozen {w : World} {g n : Nat} {L : Nat → Int} (h : ArrM w g n L) (i : Nat) : w.frozen? ⟨g, i, none⟩ = false := by
  obtain ⟨cs, hh, _, _⟩ := h.heap
  exact frozen_of_row w g i _ _ hh
theorem ArrM.lt {w : World} {g n : Nat} {L : Nat → Int} (h : ArrM w g n L) : g < w.heap.size := by
  obtain ⟨cs, hh, _, _⟩ := h.heap
  exact (Array.getElem?_eq_some_iff.1 hh).1
theorem ArrM.set {w : World} {g n : Nat} {L : Nat → Int} (h : ArrM w g n L) (j : Nat) (v : Int) : ArrM (w.setCell ⟨g, j, none⟩ (.int .i64 v)) g n (upd L j v) := by
  obtain ⟨cs, hh, hs, hc⟩ := h.heap
  refine ⟨cs.setIfInBounds j (.int .i64 v), heap_setCell_same w g j cs _ _ hh, by simpa using hs, fun i hi => ?_⟩
  rw [Array.getElem?_setIfInBounds]
  unfold upd
  by_cases hij : i = j
  · subst hij
    simp [hs, hi]
  · have h2 : ¬ j = i := fun e => hij e.symm
    simp only [if_neg h2, if_neg hij]
    exact hc i hi
theorem ArrM.kept {w w' : World} {g n : Nat} {L : Nat → Int} (h : ArrM w g n L) (hb : w'.heap[g]? = w.heap[g]?) : ArrM w' g n L := by
  obtain ⟨cs, hh, hs, hc⟩ := h.heap
  exact ⟨cs, hb.trans hh, hs, hc⟩
theorem arrM_made {B n g : Nat} {w : World} (h : w.ownsRow B 2 1 (.slice (some ⟨g, 0, none⟩) n n) n (madeCells (Value.int .i64 0).cells (n * 1)).toList) : ArrM w g n (fun _ => 0) := by
  rcases h.2 with ⟨hv, _⟩ | ⟨g', cap, cur, hv, _, hg, _, _, hs, ht⟩
  · simp at hv
  · simp only [Value.slice.injEq, Option.some.injEq, Addr.mk.injEq, and_true, true_and] at hv
    obtain ⟨rfl, rfl⟩ := hv
    refine ⟨cur, hg, by omega, fun i hi => ?_⟩
    have e : (madeCells (Value.int .i64 0).cells (n * 1)).toList = List.replicate n (Value.int .i64 0) := by rw [Nat.mul_one]; exact toList_madeCells_one _ _
    rw [e] at ht
    have h2 : (cur.toList.take (n * 1))[i]? = some (Value.int .i64 0) := by rw [ht]; simp [hi]
    rw [List.getElem?_take, if_pos (by omega)] at h2
    simpa using h2


end Go.Proofs.Ytglmaoigjnoklaa
