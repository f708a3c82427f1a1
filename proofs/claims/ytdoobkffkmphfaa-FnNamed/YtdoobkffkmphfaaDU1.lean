import Derived.Test.YtdoobkffkmphfaaDS2
namespace Go.Proofs.Ytdoobkffkmphfaa
open Go.RowKit

theorem ptc_take (xs : List PT) (k : Nat) : ptc (xs.take k) = (ptc xs).take (k * 2) := by
  induction xs generalizing k with
  | nil => simp [ptc]
  | cons x r ih =>
    cases k with
    | zero => simp [ptc]
    | succ k =>
      have e : (k + 1) * 2 = k * 2 + 1 + 1 := by omega
      have := ih k
      simp [ptc, e] at this ⊢
      exact this
theorem OwnPt.cut {B : Nat} {w : World} {g n cap : Nat} {xs : List PT} (h : OwnPt B w (some ⟨g, 0, none⟩) n cap xs) (k : Nat) (hk : k ≤ n) : OwnPt B w (some ⟨g, 0, none⟩) k cap (xs.take k) := by
  have hl := h.len
  rcases h.row.2 with ⟨e, _⟩ | ⟨g', cap', cur, hv, hb, hg, hn, hm, hs, ht⟩
  · simp at e
  · simp only [Value.slice.injEq, Option.some.injEq, Addr.mk.injEq, and_true, true_and] at hv
    obtain ⟨rfl, rfl⟩ := hv
    refine ⟨⟨by rw [ptc_take, List.length_take, h.row.1]; omega, .inr ⟨g, cap, cur, rfl, hb, hg, by omega, hm, hs, ?_⟩⟩, by rw [List.length_take]; omega, fun x hx => h.small x (List.mem_of_mem_take hx)⟩
    rw [ptc_take, ← ht, List.take_take]
    congr 1
    omega
theorem OwnPt.cap {B : Nat} {w : World} {a : Option Addr} {n cap : Nat} {xs : List PT} (h : OwnPt B w a n cap xs) : n ≤ cap := by
  rcases h.row.2 with ⟨hv, h0⟩ | ⟨g, cap', cur, hv, _, _, hc, _⟩
  · omega
  · simp only [Value.slice.injEq] at hv
    omega

/-- Two drawn names in their boxes. -/
structure DU (w : World) (P : Nat) (W : World) (ao : Option Addr) (m c : Nat) (xs : List PT) (a2 : Option Addr) (m2 c2 : Nat) (ys : List PT) : Prop where
  b2 : W.heap[w.heap.size]? = some (.cells #[.slice none 0 0] 26 (0, 0))
  b3 : W.heap[w.heap.size + 1]? = some (.cells #[.slice none 0 0] 26 (0, 0))
  b5 : W.heap[P]? = some (.cells #[.slice ao m c] 26 (0, 0))
  b6 : W.heap[P + 1]? = some (.cells #[.slice a2 m2 c2] 26 (0, 0))
  o1 : OwnPt (w.heap.size + 2) W ao m c xs
  o2 : OwnPt (w.heap.size + 2) W a2 m2 c2 ys
  l1 : ∀ q, ao = some q → q.block < P
  l2 : ∀ q, a2 = some q → q.block < P
  hP : w.heap.size + 2 ≤ P
  size : P + 2 ≤ W.heap.size
  below : Below w.heap.size w W
theorem DU.cells {w : World} {P : Nat} {W : World} {ao : Option Addr} {m c : Nat} {xs : List PT} {a2 : Option Addr} {m2 c2 : Nat} {ys : List PT} (h : DU w P W ao m c xs a2 m2 c2 ys) :
    (W.cell? ⟨P, 0, none⟩ = some (.slice ao m c) ∧ W.cell? ⟨P + 1, 0, none⟩ = some (.slice a2 m2 c2) ∧ W.frozen? ⟨P + 1, 0, none⟩ = false ∧ P + 1 < W.heap.size ∧ P < W.heap.size) ∧
    (W.cell? ⟨w.heap.size, 0, none⟩ = some (.slice none 0 0) ∧ W.cell? ⟨w.heap.size + 1, 0, none⟩ = some (.slice none 0 0) ∧ W.frozen? ⟨w.heap.size, 0, none⟩ = false ∧ W.frozen? ⟨w.heap.size + 1, 0, none⟩ = false ∧ w.heap.size < W.heap.size ∧ w.heap.size + 1 < W.heap.size) := by
  have h1 := h.hP
  have h2 := h.size
  exact ⟨⟨(cell_of_row _ _ 0 _ 26 (0, 0) h.b5).trans rfl, (cell_of_row _ _ 0 _ 26 (0, 0) h.b6).trans rfl, frozen_of_row W _ 0 _ 26 h.b6, by omega, by omega⟩, (cell_of_row _ _ 0 _ 26 (0, 0) h.b2).trans rfl, (cell_of_row _ _ 0 _ 26 (0, 0) h.b3).trans rfl, frozen_of_row W _ 0 _ 26 h.b2, frozen_of_row W _ 0 _ 26 h.b3, by omega, by omega⟩
theorem DU.cut {w : World} {P : Nat} {W : World} {ao : Option Addr} {m c : Nat} {xs : List PT} {gb m2 c2 : Nat} {ys : List PT} (h : DU w P W ao m c xs (some ⟨gb, 0, none⟩) m2 c2 ys) (k : Nat) (hk : k ≤ m2) : DU w P (W.setCell ⟨P + 1, 0, none⟩ (.slice (some ⟨gb, 0, none⟩) k c2)) ao m c xs (some ⟨gb, 0, none⟩) k c2 (ys.take k) := by
  have h1 := h.hP
  have h2 := h.size
  have e : ∀ l, l ≠ P + 1 → (W.setCell ⟨P + 1, 0, none⟩ (.slice (some ⟨gb, 0, none⟩) k c2)).heap[l]? = W.heap[l]? := fun l hl => Below.heap_setCell _ _ _ _ (by show l ≠ P + 1; exact hl)
  exact ⟨(e _ (by omega)).trans h.b2, (e _ (by omega)).trans h.b3, (e _ (by omega)).trans h.b5, (heap_setCell_same W (P + 1) 0 _ 26 _ h.b6).trans rfl, h.o1.keep fun q hq _ _ => e _ (by have := h.l1 q hq; omega), (h.o2.cut k hk).keep fun q hq _ _ => e _ (by have := h.l2 q hq; omega), h.l1, h.l2, h1, by simpa [World.setCell] using h2, ⟨h.below.os, h.below.tape, h.below.output, by simpa [World.setCell] using h.below.size, fun l hl => (e l (by omega)).trans (h.below.block l hl)⟩⟩
theorem DU.fin {w : World} {P : Nat} {W : World} {ao : Option Addr} {m c : Nat} {xs : List PT} {a2 : Option Addr} {m2 c2 : Nat} {ys : List PT} (h : DU w P W ao m c xs a2 m2 c2 ys) (hm : m ≤ 9) (hm2 : m2 ≤ 9) {W' : World} (e0 : W'.os = W.os) (e1 : W'.tape = W.tape) (e2 : W'.output = W.output) (e3 : W.heap.size ≤ W'.heap.size) (e : ∀ l, l ≠ w.heap.size → l ≠ w.heap.size + 1 → W'.heap[l]? = W.heap[l]?) :
    DsR w (.returned (.tuple #[nmv ao m c, nmv a2 m2 c2])) W' := by
  have h1 := h.hP
  have h2 := h.size
  refine ⟨m, c, ao, xs, m2, c2, a2, ys, rfl, hm, hm2, (h.o1.keep fun q _ hq _ => e _ (by omega) (by omega)).lower (by omega), (h.o2.keep fun q _ hq _ => e _ (by omega) (by omega)).lower (by omega), e0.trans h.below.os, e1.trans h.below.tape, e2.trans h.below.output, Nat.le_trans h.below.size e3, fun l hl => (e l (by omega) (by omega)).trans (h.below.block l hl)⟩

end Go.Proofs.Ytdoobkffkmphfaa
