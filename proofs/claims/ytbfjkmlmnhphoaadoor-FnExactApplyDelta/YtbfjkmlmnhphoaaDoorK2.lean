import Derived.Test.YtbfjkmlmnhphoaaDoorGN5K1
namespace Go.Proofs.YtbfjkmlmnhphoaaDoor
open Go.RowKit

theorem results_go {fn : Func} {t : Tmp} (h : fn.results = #[.cell t 63]) (tmps : Array Value) (g : Nat) (ht : tmps.getD t undef = .pointer (some ⟨g, 0, none⟩)) (w : World) (c0 c1 c2 c3 : Value)
    (hb : w.heap[g]? = some (.cells #[c0, c1, c2, c3] 63 (0, 0))) : (results fn tmps).run Tryd.prog w = .ok (.agg #[c0, c1, c2, c3]) w := by
  have d0 : w.cell? ⟨g, 0, none⟩ = some c0 := (cell_of_row _ g 0 _ 63 (0, 0) hb).trans rfl
  have d1 : w.cell? ⟨g, 1, none⟩ = some c1 := (cell_of_row _ g 1 _ 63 (0, 0) hb).trans rfl
  have d2 : w.cell? ⟨g, 2, none⟩ = some c2 := (cell_of_row _ g 2 _ 63 (0, 0) hb).trans rfl
  have d3 : w.cell? ⟨g, 3, none⟩ = some c3 := (cell_of_row _ g 3 _ 63 (0, 0) hb).trans rfl
  clear hb
  have ht' : tmps[t]?.getD undef = .pointer (some ⟨g, 0, none⟩) := by rw [← ht]; simp
  simp [results, h, go_sem, ht', d0, d1, d2, d3]
/-- Four cells of the row g are written, from o on. -/
def put4 (w : World) (g o : Nat) (v0 v1 v2 v3 : Value) : World := (((w.setCell ⟨g, o, none⟩ v0).setCell ⟨g, o + 1, none⟩ v1).setCell ⟨g, o + 2, none⟩ v2).setCell ⟨g, o + 3, none⟩ v3
theorem put4_other (w : World) (g o l : Nat) (h : l ≠ g) (v0 v1 v2 v3 : Value) : (put4 w g o v0 v1 v2 v3).heap[l]? = w.heap[l]? :=
  (Below.heap_setCell _ _ _ _ (by show l ≠ g; exact h)).trans ((Below.heap_setCell _ _ _ _ (by show l ≠ g; exact h)).trans ((Below.heap_setCell _ _ _ _ (by show l ≠ g; exact h)).trans (Below.heap_setCell _ _ _ _ (by show l ≠ g; exact h))))
theorem put4_size (w : World) (g o : Nat) (v0 v1 v2 v3 : Value) : (put4 w g o v0 v1 v2 v3).heap.size = w.heap.size := by simp [put4]
theorem put4_row {w : World} {g t : Nat} {c0 c1 c2 c3 : Value} (h : w.heap[g]? = some (.cells #[c0, c1, c2, c3] t (0, 0))) (v0 v1 v2 v3 : Value) : (put4 w g 0 v0 v1 v2 v3).heap[g]? = some (.cells #[v0, v1, v2, v3] t (0, 0)) := by
  have q1 := heap_setCell_same w g 0 _ t v0 h
  have q2 := heap_setCell_same _ g 1 _ t v1 q1
  have q3 := heap_setCell_same _ g 2 _ t v2 q2
  exact heap_setCell_same _ g 3 _ t v3 q3


/-- An entry as it is copied: its argument, its answer's box, its own box. -/
structure TG (w W : World) (a : Option Addr) (n c : Nat) (x : GP) (g1 : Nat) (v0 v1 v2 v3 : Value) : Prop where
  b0 : W.heap[w.heap.size]? = some (.cells #[.slice a n c, .int .i64 x.ser, .int .i64 x.tm, .int .i64 x.rs] 91 (0, 0))
  b1 : W.heap[w.heap.size + 1]? = some (.cells #[.slice none 0 0, .int .i64 0, .int .i64 0, .int .i64 0] 63 (0, 0))
  b2 : W.heap[w.heap.size + 1 + 1]? = some (.cells #[v0, v1, v2, v3] 63 (0, 0))
  pts : Pts W (some ⟨g1, 0, none⟩) n x.parts
  below : Below w.heap.size w W
  g3 : w.heap.size + 3 ≤ g1
  lt : w.heap.size + 3 ≤ W.heap.size
theorem TG.set {w W : World} {a : Option Addr} {n c : Nat} {x : GP} {g1 : Nat} {v0 v1 v2 v3 u0 u1 u2 u3 : Value} (h : TG w W a n c x g1 v0 v1 v2 v3) (j : Nat) (u : Value) (e : (#[v0, v1, v2, v3] : Array Value).setIfInBounds j u = #[u0, u1, u2, u3]) : TG w (W.setCell ⟨w.heap.size + 1 + 1, j, none⟩ u) a n c x g1 u0 u1 u2 u3 := by
  have hg := h.g3
  have f : ∀ l, l ≠ w.heap.size + 2 → (W.setCell ⟨w.heap.size + 1 + 1, j, none⟩ u).heap[l]? = W.heap[l]? := fun l hl => Below.heap_setCell _ _ _ _ (by show l ≠ w.heap.size + 1 + 1; omega)
  refine ⟨(f _ (by omega)).trans h.b0, (f _ (by omega)).trans h.b1, ?_, h.pts.same (f _ (by omega)) (by simp), ⟨h.below.os, h.below.tape, h.below.output, by simpa [World.setCell] using h.below.size, fun l hl => (f l (by omega)).trans (h.below.block l hl)⟩, hg, by simpa [World.setCell] using h.lt⟩
  rw [← e]
  exact heap_setCell_same W (w.heap.size + 1 + 1) j _ 63 u h.b2
theorem TG.out {w W : World} {a : Option Addr} {n c : Nat} {x : GP} {g1 : Nat} {v0 v1 v2 v3 : Value} (h : TG w W a n c x g1 v0 v1 v2 v3) (j : Nat) : W.cell? ⟨w.heap.size + 1 + 1, j, none⟩ = (#[v0, v1, v2, v3] : Array Value)[j]? ∧ W.frozen? ⟨w.heap.size + 1 + 1, j, none⟩ = false ∧ W.cell? ⟨w.heap.size, j, none⟩ = (#[.slice a n c, .int .i64 x.ser, .int .i64 x.tm, .int .i64 x.rs] : Array Value)[j]? :=
  ⟨cell_of_row _ _ j _ 63 (0, 0) h.b2, frozen_of_row W _ j _ 63 h.b2, cell_of_row _ _ j _ 91 (0, 0) h.b0⟩
theorem TG.all {w W : World} {a : Option Addr} {n c : Nat} {x : GP} {g1 : Nat} {v0 v1 v2 v3 : Value} (h : TG w W a n c x g1 v0 v1 v2 v3) : (W.cell? ⟨w.heap.size + 1 + 1, 0, none⟩ = some v0 ∧ W.cell? ⟨w.heap.size + 1 + 1, 1, none⟩ = some v1 ∧ W.cell? ⟨w.heap.size + 1 + 1, 2, none⟩ = some v2 ∧ W.cell? ⟨w.heap.size + 1 + 1, 3, none⟩ = some v3) ∧ (W.cell? ⟨w.heap.size + 1, 0, none⟩ = some (.slice none 0 0) ∧ W.cell? ⟨w.heap.size + 1, 1, none⟩ = some (.int .i64 0) ∧ W.cell? ⟨w.heap.size + 1, 2, none⟩ = some (.int .i64 0) ∧ W.cell? ⟨w.heap.size + 1, 3, none⟩ = some (.int .i64 0)) ∧ W.frozen? ⟨w.heap.size + 1, 0, none⟩ = false ∧ W.frozen? ⟨w.heap.size + 1, 1, none⟩ = false ∧ W.frozen? ⟨w.heap.size + 1, 2, none⟩ = false ∧ W.frozen? ⟨w.heap.size + 1, 3, none⟩ = false :=
  ⟨⟨(h.out 0).1, (h.out 1).1, (h.out 2).1, (h.out 3).1⟩, ⟨(cell_of_row _ _ 0 _ 63 (0, 0) h.b1).trans rfl, (cell_of_row _ _ 1 _ 63 (0, 0) h.b1).trans rfl, (cell_of_row _ _ 2 _ 63 (0, 0) h.b1).trans rfl, (cell_of_row _ _ 3 _ 63 (0, 0) h.b1).trans rfl⟩, frozen_of_row W _ 0 _ 63 h.b1, frozen_of_row W _ 1 _ 63 h.b1, frozen_of_row W _ 2 _ 63 h.b1, frozen_of_row W _ 3 _ 63 h.b1⟩

set_option maxRecDepth 10000 in
set_option maxHeartbeats 2000000 in
theorem toGone_at (a : Option Addr) (n c : Nat) (x : GP) (w : World) (h : Pts w a n x.parts) (hn : n ≤ 1048576) :
    Calls Tryd.prog 67 #[gov a n c x] w fun e w' => ∃ g', e = .returned (gov (some ⟨g', 0, none⟩) n n x) ∧ w.heap.size ≤ g' ∧ Pts w' (some ⟨g', 0, none⟩) n x.parts ∧ Below w.heap.size w w' := by
  have HK : Hid (Pts w a n x.parts) := h
  clear h
  unfold gov
  obtain ⟨W0, hW0⟩ : ∃ W0, W0 = (((w.alloc (.cells #[.slice a n c, .int .i64 x.ser, .int .i64 x.tm, .int .i64 x.rs] 91)).alloc (.cells #[.slice none 0 0, .int .i64 0, .int .i64 0, .int .i64 0] 63)).alloc (.cells #[.slice none 0 0, .int .i64 0, .int .i64 0, .int .i64 0] 63)) := ⟨_, rfl⟩
  have hB0 : Below w.heap.size w W0 := by rw [hW0]; exact three_below _ _ _ _
  have hS0 : W0.heap.size = w.heap.size + 3 := by rw [hW0]; simp
  obtain ⟨b0, b1, b2⟩ := three_blocks' w (.cells #[.slice a n c, .int .i64 x.ser, .int .i64 x.tm, .int .i64 x.rs] 91) (.cells #[.slice none 0 0, .int .i64 0, .int .i64 0, .int .i64 0] 63) (.cells #[.slice none 0 0, .int .i64 0, .int .i64 0, .int .i64 0] 63)
  rw [← hW0] at b0 b1 b2
  go_enter Tryd.func67, Tryd.ntmps67
  go_wp2_with fail
  rw [← hW0]
  clear hW0
  refine (toName_at a n c x.parts _ (HK.out.kept hB0) hn).mono ?_
  rintro e w1 ⟨g1, rfl, hg1, ho1, hb1⟩
  have hs1 := hb1.size
  have T1 : Hid (TG w w1 a n c x g1 (.slice none 0 0) (.int .i64 0) (.int .i64 0) (.int .i64 0)) := ⟨heap_kept' hb1 (by omega) b0, heap_kept' hb1 (by omega) b1, heap_kept' hb1 (by omega) b2, ho1, hB0.trans (hb1.mono (by omega)), by omega, by omega⟩
  clear b0 b1 b2 ho1 hb1 hB0 hg1 hs1 hS0 HK
  unfold nmv
  obtain ⟨o0, f0, a0⟩ := T1.out.out 0
  have o0 : w1.cell? ⟨w.heap.size + 1 + 1, 0, none⟩ = some (.slice none 0 0) := o0
  have a0 : w1.cell? ⟨w.heap.size, 0, none⟩ = some (.slice a n c) := a0
  have hl0 := T1.out.lt
  obtain ⟨w2, hw2⟩ : ∃ w2, w2 = w1.setCell ⟨w.heap.size + 1 + 1, 0, none⟩ (.slice (some ⟨g1, 0, none⟩) n n) := ⟨_, rfl⟩
  have T2 : Hid (TG w w2 a n c x g1 (.slice (some ⟨g1, 0, none⟩) n n) (.int .i64 0) (.int .i64 0) (.int .i64 0)) := by rw [hw2]; exact T1.out.set 0 _ rfl
  have HW2 : Hid (_ = _) := hw2
  clear hw2
  go_upto_region 3 with fail
  rw [← HW2.out]
  clear HW2 o0 f0 a0 hl0 T1
  obtain ⟨o1, f1, a1⟩ := T2.out.out 1
  have o1 : w2.cell? ⟨w.heap.size + 1 + 1, 1, none⟩ = some (.int .i64 0) := o1
  have a1 : w2.cell? ⟨w.heap.size, 1, none⟩ = some (.int .i64 x.ser) := a1
  have hl1 := T2.out.lt
  obtain ⟨w3, hw3⟩ : ∃ w3, w3 = w2.setCell ⟨w.heap.size + 1 + 1, 1, none⟩ (.int .i64 x.ser) := ⟨_, rfl⟩
  have T3 : Hid (TG w w3 a n c x g1 (.slice (some ⟨g1, 0, none⟩) n n) (.int .i64 x.ser) (.int .i64 0) (.int .i64 0)) := by rw [hw3]; exact T2.out.set 1 _ rfl
  have HW3 : Hid (_ = _) := hw3
  clear hw3
  go_upto_region 4 with fail
  rw [← HW3.out]
  clear HW3 o1 f1 a1 hl1 T2
  obtain ⟨o2, f2, a2⟩ := T3.out.out 2
  have o2 : w3.cell? ⟨w.heap.size + 1 + 1, 2, none⟩ = some (.int .i64 0) := o2
  have a2 : w3.cell? ⟨w.heap.size, 2, none⟩ = some (.int .i64 x.tm) := a2
  have hl2 := T3.out.lt
  obtain ⟨w4, hw4⟩ : ∃ w4, w4 = w3.setCell ⟨w.heap.size + 1 + 1, 2, none⟩ (.int .i64 x.tm) := ⟨_, rfl⟩
  have T4 : Hid (TG w w4 a n c x g1 (.slice (some ⟨g1, 0, none⟩) n n) (.int .i64 x.ser) (.int .i64 x.tm) (.int .i64 0)) := by rw [hw4]; exact T3.out.set 2 _ rfl
  have HW4 : Hid (_ = _) := hw4
  clear hw4
  go_upto_region 5 with fail
  rw [← HW4.out]
  clear HW4 o2 f2 a2 hl2 T3
  obtain ⟨o3, f3, a3⟩ := T4.out.out 3
  have o3 : w4.cell? ⟨w.heap.size + 1 + 1, 3, none⟩ = some (.int .i64 0) := o3
  have a3 : w4.cell? ⟨w.heap.size, 3, none⟩ = some (.int .i64 x.rs) := a3
  have hl3 := T4.out.lt
  obtain ⟨w5, hw5⟩ : ∃ w5, w5 = w4.setCell ⟨w.heap.size + 1 + 1, 3, none⟩ (.int .i64 x.rs) := ⟨_, rfl⟩
  have T5 : Hid (TG w w5 a n c x g1 (.slice (some ⟨g1, 0, none⟩) n n) (.int .i64 x.ser) (.int .i64 x.tm) (.int .i64 x.rs)) := by rw [hw5]; exact T4.out.set 3 _ rfl
  have HW5 : Hid (_ = _) := hw5
  clear hw5
  go_upto_region 6 with fail
  rw [← HW5.out]
  clear HW5 o3 f3 a3 hl3 T4
  obtain ⟨⟨o0, o1, o2, o3⟩, ⟨r0, r1, r2, r3⟩, f0, f1, f2, f3⟩ := T5.out.all
  have hl5 := T5.out.lt
  go_wp2
  try simp only [Exit.inBlock, Exit.then]
  have hgg := T5.out.g3
  have q1 := put4_row T5.out.b1 (.slice (some ⟨g1, 0, none⟩) n n) (.int .i64 x.ser) (.int .i64 x.tm) (.int .i64 x.rs)
  refine bodyPost_ret (results_go rfl _ (w.heap.size + 1) rfl _ _ _ _ _ q1) rfl ⟨_, rfl, by omega, T5.out.pts.same (put4_other _ _ _ _ (by omega) _ _ _ _) (by simp), ?_⟩
  exact ⟨T5.out.below.os, T5.out.below.tape, T5.out.below.output, by simpa [World.setCell] using T5.out.below.size, fun l hl => (put4_other _ _ _ _ (by omega) _ _ _ _).trans (T5.out.below.block l hl)⟩

end Go.Proofs.YtbfjkmlmnhphoaaDoor
