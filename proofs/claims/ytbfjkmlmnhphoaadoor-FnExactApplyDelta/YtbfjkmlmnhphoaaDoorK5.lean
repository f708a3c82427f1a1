import Derived.Test.YtbfjkmlmnhphoaaDoorGK3K4
namespace Go.Proofs.YtbfjkmlmnhphoaaDoor
open Go.RowKit

theorem results_cr {fn : Func} {t : Tmp} (h : fn.results = #[.cell t 36]) (tmps : Array Value) (g : Nat) (ht : tmps.getD t undef = .pointer (some ⟨g, 0, none⟩)) (w : World) (c0 c1 c2 c3 c4 c5 c6 c7 c8 : Value)
    (hb : w.heap[g]? = some (.cells #[c0, c1, c2, c3, c4, c5, c6, c7, c8] 36 (0, 0))) : (results fn tmps).run Tryd.prog w = .ok (.agg #[c0, c1, c2, c3, c4, c5, c6, c7, c8]) w := by
  have d0 : w.cell? ⟨g, 0, none⟩ = some c0 := (cell_of_row _ g 0 _ 36 (0, 0) hb).trans rfl
  have d1 : w.cell? ⟨g, 1, none⟩ = some c1 := (cell_of_row _ g 1 _ 36 (0, 0) hb).trans rfl
  have d2 : w.cell? ⟨g, 2, none⟩ = some c2 := (cell_of_row _ g 2 _ 36 (0, 0) hb).trans rfl
  have d3 : w.cell? ⟨g, 3, none⟩ = some c3 := (cell_of_row _ g 3 _ 36 (0, 0) hb).trans rfl
  have d4 : w.cell? ⟨g, 4, none⟩ = some c4 := (cell_of_row _ g 4 _ 36 (0, 0) hb).trans rfl
  have d5 : w.cell? ⟨g, 5, none⟩ = some c5 := (cell_of_row _ g 5 _ 36 (0, 0) hb).trans rfl
  have d6 : w.cell? ⟨g, 6, none⟩ = some c6 := (cell_of_row _ g 6 _ 36 (0, 0) hb).trans rfl
  have d7 : w.cell? ⟨g, 7, none⟩ = some c7 := (cell_of_row _ g 7 _ 36 (0, 0) hb).trans rfl
  have d8 : w.cell? ⟨g, 8, none⟩ = some c8 := (cell_of_row _ g 8 _ 36 (0, 0) hb).trans rfl
  clear hb
  have ht' : tmps[t]?.getD undef = .pointer (some ⟨g, 0, none⟩) := by rw [← ht]; simp
  simp [results, h, go_sem, ht', d0, d1, d2, d3, d4, d5, d6, d7, d8]

/-- What hangs on the blocks from B on alone. -/
def Stab (B : Nat) (R : World → Prop) : Prop := ∀ W W' : World, (∀ l, B ≤ l → l < W.heap.size → W'.heap[l]? = W.heap[l]?) → W.heap.size ≤ W'.heap.size → R W → R W'
theorem stab_and {B : Nat} {R Q : World → Prop} (h : Stab B R) (k : Stab B Q) : Stab B (fun W => R W ∧ Q W) := fun W W' e s r => ⟨h W W' e s r.1, k W W' e s r.2⟩
theorem stab_lt (B g : Nat) : Stab B (fun W => g < W.heap.size) := fun _ _ _ s h => Nat.lt_of_lt_of_le h s
theorem pts_move {B g n : Nat} {xs : List PT} (hB : B ≤ g) (W W' : World) (e : ∀ l, B ≤ l → l < W.heap.size → W'.heap[l]? = W.heap[l]?) (s : W.heap.size ≤ W'.heap.size) (h : Pts W (some ⟨g, 0, none⟩) n xs) : Pts W' (some ⟨g, 0, none⟩) n xs := by
  refine ⟨h.len, h.max, fun k hk => ?_⟩
  obtain ⟨b, off, ha, hlt, hc, hn⟩ := h.get k hk
  simp only [Option.some.injEq, Addr.mk.injEq, and_true] at ha
  obtain ⟨rfl, rfl⟩ := ha
  exact ⟨g, 0, rfl, Nat.lt_of_lt_of_le hlt s, hc.of (fun i => by simp [World.cell?, e g hB hlt]), hn⟩
theorem stab_pts {B g n : Nat} {xs : List PT} (hB : B ≤ g) : Stab B (fun W => Pts W (some ⟨g, 0, none⟩) n xs) := fun W W' e s h => pts_move hB W W' e s h
theorem stab_go {B g n : Nat} {xs : List GP} (hB : B ≤ g) : Stab B (fun W => GoPre W g n xs) := fun W W' e s h j hj => by
  obtain ⟨gn, nn, h1, h3, h4⟩ := h j hj
  have hlt : g < W.heap.size := World.block_lt_of_cell? W _ h3.c0
  exact ⟨gn, nn, h1, h3.of (fun i => by simp [World.cell?, e g hB hlt]), pts_move (by omega) W W' e s h4⟩
theorem stab_own {B B' : Nat} {a : Option Addr} {n cap : Nat} {bs : List Int} (hB : B ≤ B') : Stab B (fun W => Own B' W a n cap bs) := fun W W' e s h => by
  refine ⟨⟨h.row.1, ?_⟩, h.byte⟩
  rcases h.row.2 with q | ⟨g, c, cur, h1, hb, hg, r⟩
  · exact .inl q
  · exact .inr ⟨g, c, cur, h1, hb, (e g (by omega) (Array.getElem?_eq_some_iff.1 hg).1).trans hg, r⟩

/-- A list as it is copied. -/
structure TC (w W : World) (a1 : Option Addr) (n1 c1 : Nat) (a2 : Option Addr) (n2 c2 : Nat) (a3 : Option Addr) (n3 c3 : Nat) (x : CP) (R : World → Prop) (vs : Array Value) : Prop where
  b0 : W.heap[w.heap.size]? = some (.cells #[.slice a1 n1 c1, .int .i64 x.num, .int .i64 x.base, .int .i64 x.tm, .int .i64 x.next, .int .i64 x.scope, .bool x.ind, .slice a2 n2 c2, .slice a3 n3 c3] 28 (0, 0))
  b1 : W.heap[w.heap.size + 1]? = some (.cells #[.slice none 0 0, .int .i64 0, .int .i64 0, .int .i64 0, .int .i64 0, .int .i64 0, .bool false, .slice none 0 0, .slice none 0 0] 36 (0, 0))
  b2 : W.heap[w.heap.size + 1 + 1]? = some (.cells vs 36 (0, 0))
  st : Stab (w.heap.size + 3) R
  r : R W
  below : Below w.heap.size w W
  lt : w.heap.size + 3 ≤ W.heap.size
theorem TC.set {w W : World} {a1 : Option Addr} {n1 c1 : Nat} {a2 : Option Addr} {n2 c2 : Nat} {a3 : Option Addr} {n3 c3 : Nat} {x : CP} {R : World → Prop} {vs : Array Value} (h : TC w W a1 n1 c1 a2 n2 c2 a3 n3 c3 x R vs) {us : Array Value} (j : Nat) (u : Value) (e : vs.setIfInBounds j u = us) : TC w (W.setCell ⟨w.heap.size + 1 + 1, j, none⟩ u) a1 n1 c1 a2 n2 c2 a3 n3 c3 x R us := by
  have f : ∀ l, l ≠ w.heap.size + 2 → (W.setCell ⟨w.heap.size + 1 + 1, j, none⟩ u).heap[l]? = W.heap[l]? := fun l hl => Below.heap_setCell _ _ _ _ (by show l ≠ w.heap.size + 1 + 1; omega)
  refine ⟨(f _ (by omega)).trans h.b0, (f _ (by omega)).trans h.b1, ?_, h.st, h.st W _ (fun l hl _ => f l (by omega)) (by simp) h.r, ⟨h.below.os, h.below.tape, h.below.output, by simpa [World.setCell] using h.below.size, fun l hl => (f l (by omega)).trans (h.below.block l hl)⟩, by simpa [World.setCell] using h.lt⟩
  rw [← e]
  exact heap_setCell_same W (w.heap.size + 1 + 1) j _ 36 u h.b2
theorem TC.on {w W : World} {a1 : Option Addr} {n1 c1 : Nat} {a2 : Option Addr} {n2 c2 : Nat} {a3 : Option Addr} {n3 c3 : Nat} {x : CP} {R : World → Prop} {vs : Array Value} {W' : World} (h : TC w W a1 n1 c1 a2 n2 c2 a3 n3 c3 x R vs) (hb : Below W.heap.size W W') : TC w W' a1 n1 c1 a2 n2 c2 a3 n3 c3 x R vs := by
  have hl := h.lt
  have hs := hb.size
  exact ⟨(hb.block _ (by omega)).trans h.b0, (hb.block _ (by omega)).trans h.b1, (hb.block _ (by omega)).trans h.b2, h.st, h.st W W' (fun l _ hl => hb.block l hl) hs h.r, h.below.trans (hb.mono h.below.size), by omega⟩
theorem TC.more {w W : World} {a1 : Option Addr} {n1 c1 : Nat} {a2 : Option Addr} {n2 c2 : Nat} {a3 : Option Addr} {n3 c3 : Nat} {x : CP} {R : World → Prop} {vs : Array Value} {Q : World → Prop} (h : TC w W a1 n1 c1 a2 n2 c2 a3 n3 c3 x R vs) (s : Stab (w.heap.size + 3) Q) (q : Q W) : TC w W a1 n1 c1 a2 n2 c2 a3 n3 c3 x Q vs := ⟨h.b0, h.b1, h.b2, s, q, h.below, h.lt⟩
theorem TC.out {w W : World} {a1 : Option Addr} {n1 c1 : Nat} {a2 : Option Addr} {n2 c2 : Nat} {a3 : Option Addr} {n3 c3 : Nat} {x : CP} {R : World → Prop} {vs : Array Value} (h : TC w W a1 n1 c1 a2 n2 c2 a3 n3 c3 x R vs) (j : Nat) : W.cell? ⟨w.heap.size + 1 + 1, j, none⟩ = vs[j]? ∧ W.frozen? ⟨w.heap.size + 1 + 1, j, none⟩ = false ∧ W.cell? ⟨w.heap.size, j, none⟩ = (#[.slice a1 n1 c1, .int .i64 x.num, .int .i64 x.base, .int .i64 x.tm, .int .i64 x.next, .int .i64 x.scope, .bool x.ind, .slice a2 n2 c2, .slice a3 n3 c3] : Array Value)[j]? :=
  ⟨cell_of_row _ _ j _ 36 (0, 0) h.b2, frozen_of_row W _ j _ 36 h.b2, cell_of_row _ _ j _ 28 (0, 0) h.b0⟩
theorem TC.res {w W : World} {a1 : Option Addr} {n1 c1 : Nat} {a2 : Option Addr} {n2 c2 : Nat} {a3 : Option Addr} {n3 c3 : Nat} {x : CP} {R : World → Prop} {vs : Array Value} (h : TC w W a1 n1 c1 a2 n2 c2 a3 n3 c3 x R vs) (j : Nat) : W.cell? ⟨w.heap.size + 1, j, none⟩ = (#[.slice none 0 0, .int .i64 0, .int .i64 0, .int .i64 0, .int .i64 0, .int .i64 0, .bool false, .slice none 0 0, .slice none 0 0] : Array Value)[j]? ∧ W.frozen? ⟨w.heap.size + 1, j, none⟩ = false :=
  ⟨cell_of_row _ _ j _ 36 (0, 0) h.b1, frozen_of_row W _ j _ 36 h.b1⟩

set_option maxRecDepth 10000 in
set_option maxHeartbeats 4000000 in
theorem toCrl_any (a1 : Option Addr) (n1 c1 : Nat) (a2 : Option Addr) (n2 c2 : Nat) (a3 : Option Addr) (n3 c3 : Nat) (x : CP) (w : World) (h : Crs w a1 n1 a2 n2 a3 n3 x) (hz : CpOk n1 n2 n3 x) :
    Calls Tryd.prog 9 #[crv a1 n1 c1 a2 n2 c2 a3 n3 c3 x] w fun e w' => ∃ b1 b2 b3, e = .returned (crv b1 n1 n1 b2 n2 n2 b3 n3 n3 x) ∧ Crs w' b1 n1 b2 n2 b3 n3 x ∧ Below w.heap.size w w' := by
  have HK : Hid (Crs w a1 n1 a2 n2 a3 n3 x) := h
  have HZ : Hid (CpOk n1 n2 n3 x) := hz
  clear h hz
  unfold crv
  obtain ⟨W0, hW0⟩ : ∃ W0, W0 = (((w.alloc (.cells #[.slice a1 n1 c1, .int .i64 x.num, .int .i64 x.base, .int .i64 x.tm, .int .i64 x.next, .int .i64 x.scope, .bool x.ind, .slice a2 n2 c2, .slice a3 n3 c3] 28)).alloc (.cells #[.slice none 0 0, .int .i64 0, .int .i64 0, .int .i64 0, .int .i64 0, .int .i64 0, .bool false, .slice none 0 0, .slice none 0 0] 36)).alloc (.cells #[.slice none 0 0, .int .i64 0, .int .i64 0, .int .i64 0, .int .i64 0, .int .i64 0, .bool false, .slice none 0 0, .slice none 0 0] 36)) := ⟨_, rfl⟩
  have hB0 : Below w.heap.size w W0 := by rw [hW0]; exact three_below _ _ _ _
  have hS0 : W0.heap.size = w.heap.size + 3 := by rw [hW0]; simp
  obtain ⟨b0, b1, b2⟩ := three_blocks' w (.cells #[.slice a1 n1 c1, .int .i64 x.num, .int .i64 x.base, .int .i64 x.tm, .int .i64 x.next, .int .i64 x.scope, .bool x.ind, .slice a2 n2 c2, .slice a3 n3 c3] 28) (.cells #[.slice none 0 0, .int .i64 0, .int .i64 0, .int .i64 0, .int .i64 0, .int .i64 0, .bool false, .slice none 0 0, .slice none 0 0] 36) (.cells #[.slice none 0 0, .int .i64 0, .int .i64 0, .int .i64 0, .int .i64 0, .int .i64 0, .bool false, .slice none 0 0, .slice none 0 0] 36)
  rw [← hW0] at b0 b1 b2
  go_enter Tryd.func9, Tryd.ntmps9
  go_wp2_with fail
  rw [← hW0]
  clear hW0
  refine (toName_at a1 n1 c1 x.parts _ (HK.out.kept hB0).nm HZ.out.1).mono ?_
  rintro e w1 ⟨g1, rfl, hg1, ho1, hb1⟩
  have hs1 := hb1.size
  have T1 : Hid (TC w w1 a1 n1 c1 a2 n2 c2 a3 n3 c3 x (fun W => Pts W (some ⟨g1, 0, none⟩) n1 x.parts) #[.slice none 0 0, .int .i64 0, .int .i64 0, .int .i64 0, .int .i64 0, .int .i64 0, .bool false, .slice none 0 0, .slice none 0 0]) := ⟨heap_kept' hb1 (by omega) b0, heap_kept' hb1 (by omega) b1, heap_kept' hb1 (by omega) b2, stab_pts (by omega), ho1, hB0.trans (hb1.mono (by omega)), by omega⟩
  clear b0 b1 b2 ho1 hb1 hB0 hg1 hs1 hS0
  unfold nmv
  obtain ⟨o0, f0, l0⟩ := T1.out.out 0
  have o0 : w1.cell? ⟨w.heap.size + 1 + 1, 0, none⟩ = some (.slice none 0 0) := o0
  have l0 : w1.cell? ⟨w.heap.size, 0, none⟩ = some (.slice a1 n1 c1) := l0
  have m0 := T1.out.lt
  obtain ⟨w2, hw2⟩ : ∃ W, W = w1.setCell ⟨w.heap.size + 1 + 1, 0, none⟩ (.slice (some ⟨g1, 0, none⟩) n1 n1) := ⟨_, rfl⟩
  have T2 : Hid (TC w w2 a1 n1 c1 a2 n2 c2 a3 n3 c3 x (fun W => Pts W (some ⟨g1, 0, none⟩) n1 x.parts) #[.slice (some ⟨g1, 0, none⟩) n1 n1, .int .i64 0, .int .i64 0, .int .i64 0, .int .i64 0, .int .i64 0, .bool false, .slice none 0 0, .slice none 0 0]) := by rw [hw2]; exact T1.out.set 0 _ rfl
  have HW2 : Hid (_ = _) := hw2
  clear hw2
  go_upto_region 3 with fail
  rw [← HW2.out]
  clear HW2 o0 f0 l0 m0 T1
  obtain ⟨o1, f1, l1⟩ := T2.out.out 1
  have o1 : w2.cell? ⟨w.heap.size + 1 + 1, 1, none⟩ = some (.int .i64 0) := o1
  have l1 : w2.cell? ⟨w.heap.size, 1, none⟩ = some (.int .i64 x.num) := l1
  have m1 := T2.out.lt
  obtain ⟨w3, hw3⟩ : ∃ W, W = w2.setCell ⟨w.heap.size + 1 + 1, 1, none⟩ (.int .i64 x.num) := ⟨_, rfl⟩
  have T3 : Hid (TC w w3 a1 n1 c1 a2 n2 c2 a3 n3 c3 x (fun W => Pts W (some ⟨g1, 0, none⟩) n1 x.parts) #[.slice (some ⟨g1, 0, none⟩) n1 n1, .int .i64 x.num, .int .i64 0, .int .i64 0, .int .i64 0, .int .i64 0, .bool false, .slice none 0 0, .slice none 0 0]) := by rw [hw3]; exact T2.out.set 1 _ rfl
  have HW3 : Hid (_ = _) := hw3
  clear hw3
  go_upto_region 4 with fail
  rw [← HW3.out]
  clear HW3 o1 f1 l1 m1 T2
  obtain ⟨o2, f2, l2⟩ := T3.out.out 2
  have o2 : w3.cell? ⟨w.heap.size + 1 + 1, 2, none⟩ = some (.int .i64 0) := o2
  have l2 : w3.cell? ⟨w.heap.size, 2, none⟩ = some (.int .i64 x.base) := l2
  have m2 := T3.out.lt
  obtain ⟨w4, hw4⟩ : ∃ W, W = w3.setCell ⟨w.heap.size + 1 + 1, 2, none⟩ (.int .i64 x.base) := ⟨_, rfl⟩
  have T4 : Hid (TC w w4 a1 n1 c1 a2 n2 c2 a3 n3 c3 x (fun W => Pts W (some ⟨g1, 0, none⟩) n1 x.parts) #[.slice (some ⟨g1, 0, none⟩) n1 n1, .int .i64 x.num, .int .i64 x.base, .int .i64 0, .int .i64 0, .int .i64 0, .bool false, .slice none 0 0, .slice none 0 0]) := by rw [hw4]; exact T3.out.set 2 _ rfl
  have HW4 : Hid (_ = _) := hw4
  clear hw4
  go_upto_region 5 with fail
  rw [← HW4.out]
  clear HW4 o2 f2 l2 m2 T3
  obtain ⟨o3, f3, l3⟩ := T4.out.out 3
  have o3 : w4.cell? ⟨w.heap.size + 1 + 1, 3, none⟩ = some (.int .i64 0) := o3
  have l3 : w4.cell? ⟨w.heap.size, 3, none⟩ = some (.int .i64 x.tm) := l3
  have m3 := T4.out.lt
  obtain ⟨w5, hw5⟩ : ∃ W, W = w4.setCell ⟨w.heap.size + 1 + 1, 3, none⟩ (.int .i64 x.tm) := ⟨_, rfl⟩
  have T5 : Hid (TC w w5 a1 n1 c1 a2 n2 c2 a3 n3 c3 x (fun W => Pts W (some ⟨g1, 0, none⟩) n1 x.parts) #[.slice (some ⟨g1, 0, none⟩) n1 n1, .int .i64 x.num, .int .i64 x.base, .int .i64 x.tm, .int .i64 0, .int .i64 0, .bool false, .slice none 0 0, .slice none 0 0]) := by rw [hw5]; exact T4.out.set 3 _ rfl
  have HW5 : Hid (_ = _) := hw5
  clear hw5
  go_upto_region 6 with fail
  rw [← HW5.out]
  clear HW5 o3 f3 l3 m3 T4
  obtain ⟨o4, f4, l4⟩ := T5.out.out 4
  have o4 : w5.cell? ⟨w.heap.size + 1 + 1, 4, none⟩ = some (.int .i64 0) := o4
  have l4 : w5.cell? ⟨w.heap.size, 4, none⟩ = some (.int .i64 x.next) := l4
  have m4 := T5.out.lt
  obtain ⟨w6, hw6⟩ : ∃ W, W = w5.setCell ⟨w.heap.size + 1 + 1, 4, none⟩ (.int .i64 x.next) := ⟨_, rfl⟩
  have T6 : Hid (TC w w6 a1 n1 c1 a2 n2 c2 a3 n3 c3 x (fun W => Pts W (some ⟨g1, 0, none⟩) n1 x.parts) #[.slice (some ⟨g1, 0, none⟩) n1 n1, .int .i64 x.num, .int .i64 x.base, .int .i64 x.tm, .int .i64 x.next, .int .i64 0, .bool false, .slice none 0 0, .slice none 0 0]) := by rw [hw6]; exact T5.out.set 4 _ rfl
  have HW6 : Hid (_ = _) := hw6
  clear hw6
  go_upto_region 7 with fail
  rw [← HW6.out]
  clear HW6 o4 f4 l4 m4 T5
  obtain ⟨o5, f5, l5⟩ := T6.out.out 5
  have o5 : w6.cell? ⟨w.heap.size + 1 + 1, 5, none⟩ = some (.int .i64 0) := o5
  have l5 : w6.cell? ⟨w.heap.size, 5, none⟩ = some (.int .i64 x.scope) := l5
  have m5 := T6.out.lt
  obtain ⟨w7, hw7⟩ : ∃ W, W = w6.setCell ⟨w.heap.size + 1 + 1, 5, none⟩ (.int .i64 x.scope) := ⟨_, rfl⟩
  have T7 : Hid (TC w w7 a1 n1 c1 a2 n2 c2 a3 n3 c3 x (fun W => Pts W (some ⟨g1, 0, none⟩) n1 x.parts) #[.slice (some ⟨g1, 0, none⟩) n1 n1, .int .i64 x.num, .int .i64 x.base, .int .i64 x.tm, .int .i64 x.next, .int .i64 x.scope, .bool false, .slice none 0 0, .slice none 0 0]) := by rw [hw7]; exact T6.out.set 5 _ rfl
  have HW7 : Hid (_ = _) := hw7
  clear hw7
  go_upto_region 8 with fail
  rw [← HW7.out]
  clear HW7 o5 f5 l5 m5 T6
  obtain ⟨o6, f6, l6⟩ := T7.out.out 6
  have o6 : w7.cell? ⟨w.heap.size + 1 + 1, 6, none⟩ = some (.bool false) := o6
  have l6 : w7.cell? ⟨w.heap.size, 6, none⟩ = some (.bool x.ind) := l6
  have m6 := T7.out.lt
  obtain ⟨w8, hw8⟩ : ∃ W, W = w7.setCell ⟨w.heap.size + 1 + 1, 6, none⟩ (.bool x.ind) := ⟨_, rfl⟩
  have T8 : Hid (TC w w8 a1 n1 c1 a2 n2 c2 a3 n3 c3 x (fun W => Pts W (some ⟨g1, 0, none⟩) n1 x.parts) #[.slice (some ⟨g1, 0, none⟩) n1 n1, .int .i64 x.num, .int .i64 x.base, .int .i64 x.tm, .int .i64 x.next, .int .i64 x.scope, .bool x.ind, .slice none 0 0, .slice none 0 0]) := by rw [hw8]; exact T7.out.set 6 _ rfl
  have HW8 : Hid (_ = _) := hw8
  clear hw8
  go_upto_region 9 with fail
  rw [← HW8.out]
  clear HW8 o6 f6 l6 m6 T7
  obtain ⟨_, _, l7⟩ := T8.out.out 7
  have l7 : w8.cell? ⟨w.heap.size, 7, none⟩ = some (.slice a2 n2 c2) := l7
  have m7 := T8.out.lt
  go_wp2_with fail
  refine (toGoneS_at a2 n2 c2 x.ents _ (HK.out.kept T8.out.below).en HZ.out.2.2.1 HZ.out.2.2.2.1).mono ?_
  rintro e w9 ⟨rfl, hp9, hl9, hb9⟩
  obtain ⟨g2, hg2⟩ : ∃ g2, g2 = w8.heap.size := ⟨_, rfl⟩
  rw [← hg2] at hp9 hl9 ⊢
  have hg23 : w.heap.size + 3 ≤ g2 := by omega
  have T9 : Hid (TC w w9 a1 n1 c1 a2 n2 c2 a3 n3 c3 x (fun W => Pts W (some ⟨g1, 0, none⟩) n1 x.parts ∧ (GoPre W g2 n2 x.ents ∧ g2 < W.heap.size)) #[.slice (some ⟨g1, 0, none⟩) n1 n1, .int .i64 x.num, .int .i64 x.base, .int .i64 x.tm, .int .i64 x.next, .int .i64 x.scope, .bool x.ind, .slice none 0 0, .slice none 0 0]) := (T8.out.on hb9).more (stab_and T8.out.st (stab_and (stab_go hg23) (stab_lt _ _))) ⟨(T8.out.on hb9).r, hp9, hl9⟩
  clear hb9 hp9 hl9 hg2 T8 l7 m7
  obtain ⟨o7, f7, l7⟩ := T9.out.out 7
  have o7 : w9.cell? ⟨w.heap.size + 1 + 1, 7, none⟩ = some (.slice none 0 0) := o7
  have l7 : w9.cell? ⟨w.heap.size, 7, none⟩ = some (.slice a2 n2 c2) := l7
  have m7 := T9.out.lt
  obtain ⟨w10, hw10⟩ : ∃ W, W = w9.setCell ⟨w.heap.size + 1 + 1, 7, none⟩ (.slice (some ⟨g2, 0, none⟩) n2 n2) := ⟨_, rfl⟩
  have T10 : Hid (TC w w10 a1 n1 c1 a2 n2 c2 a3 n3 c3 x (fun W => Pts W (some ⟨g1, 0, none⟩) n1 x.parts ∧ (GoPre W g2 n2 x.ents ∧ g2 < W.heap.size)) #[.slice (some ⟨g1, 0, none⟩) n1 n1, .int .i64 x.num, .int .i64 x.base, .int .i64 x.tm, .int .i64 x.next, .int .i64 x.scope, .bool x.ind, .slice (some ⟨g2, 0, none⟩) n2 n2, .slice none 0 0]) := by rw [hw10]; exact T9.out.set 7 _ rfl
  have HW10 : Hid (_ = _) := hw10
  clear hw10
  go_upto_region 10 with fail
  rw [← HW10.out]
  clear HW10 o7 f7 l7 m7 T9
  obtain ⟨_, _, l8⟩ := T10.out.out 8
  have l8 : w10.cell? ⟨w.heap.size, 8, none⟩ = some (.slice a3 n3 c3) := l8
  have m8 := T10.out.lt
  go_wp2_with fail
  refine (toByteS_any a3 n3 c3 x.sig _ (HK.out.kept T10.out.below).sg HZ.out.2.2.2.2).mono ?_
  rintro e w11 ⟨s3, rfl, ho11, hb11⟩
  obtain ⟨s3b, hs3b⟩ : ∃ s3b, s3b = w10.heap.size := ⟨_, rfl⟩
  rw [← hs3b] at ho11
  have hs33 : w.heap.size + 3 ≤ s3b := by omega
  have T11 : Hid (TC w w11 a1 n1 c1 a2 n2 c2 a3 n3 c3 x (fun W => (Pts W (some ⟨g1, 0, none⟩) n1 x.parts ∧ (GoPre W g2 n2 x.ents ∧ g2 < W.heap.size)) ∧ Own s3b W s3 n3 n3 x.sig) #[.slice (some ⟨g1, 0, none⟩) n1 n1, .int .i64 x.num, .int .i64 x.base, .int .i64 x.tm, .int .i64 x.next, .int .i64 x.scope, .bool x.ind, .slice (some ⟨g2, 0, none⟩) n2 n2, .slice none 0 0]) := (T10.out.on hb11).more (stab_and T10.out.st (stab_own hs33)) ⟨(T10.out.on hb11).r, ho11⟩
  clear hb11 ho11 hs3b T10 l8 m8
  obtain ⟨o8, f8, l8⟩ := T11.out.out 8
  have o8 : w11.cell? ⟨w.heap.size + 1 + 1, 8, none⟩ = some (.slice none 0 0) := o8
  have l8 : w11.cell? ⟨w.heap.size, 8, none⟩ = some (.slice a3 n3 c3) := l8
  have m8 := T11.out.lt
  obtain ⟨w12, hw12⟩ : ∃ W, W = w11.setCell ⟨w.heap.size + 1 + 1, 8, none⟩ (.slice s3 n3 n3) := ⟨_, rfl⟩
  have T12 : Hid (TC w w12 a1 n1 c1 a2 n2 c2 a3 n3 c3 x (fun W => (Pts W (some ⟨g1, 0, none⟩) n1 x.parts ∧ (GoPre W g2 n2 x.ents ∧ g2 < W.heap.size)) ∧ Own s3b W s3 n3 n3 x.sig) #[.slice (some ⟨g1, 0, none⟩) n1 n1, .int .i64 x.num, .int .i64 x.base, .int .i64 x.tm, .int .i64 x.next, .int .i64 x.scope, .bool x.ind, .slice (some ⟨g2, 0, none⟩) n2 n2, .slice s3 n3 n3]) := by rw [hw12]; exact T11.out.set 8 _ rfl
  have HW12 : Hid (_ = _) := hw12
  clear hw12
  go_upto_region 11 with fail
  rw [← HW12.out]
  clear HW12 o8 f8 l8 m8 T11
  have o0 : w12.cell? ⟨w.heap.size + 1 + 1, 0, none⟩ = some (.slice (some ⟨g1, 0, none⟩) n1 n1) := (T12.out.out 0).1
  have r0 : w12.cell? ⟨w.heap.size + 1, 0, none⟩ = some (.slice none 0 0) := (T12.out.res 0).1
  have f0 : w12.frozen? ⟨w.heap.size + 1, 0, none⟩ = false := (T12.out.res 0).2
  have o1 : w12.cell? ⟨w.heap.size + 1 + 1, 1, none⟩ = some (.int .i64 x.num) := (T12.out.out 1).1
  have r1 : w12.cell? ⟨w.heap.size + 1, 1, none⟩ = some (.int .i64 0) := (T12.out.res 1).1
  have f1 : w12.frozen? ⟨w.heap.size + 1, 1, none⟩ = false := (T12.out.res 1).2
  have o2 : w12.cell? ⟨w.heap.size + 1 + 1, 2, none⟩ = some (.int .i64 x.base) := (T12.out.out 2).1
  have r2 : w12.cell? ⟨w.heap.size + 1, 2, none⟩ = some (.int .i64 0) := (T12.out.res 2).1
  have f2 : w12.frozen? ⟨w.heap.size + 1, 2, none⟩ = false := (T12.out.res 2).2
  have o3 : w12.cell? ⟨w.heap.size + 1 + 1, 3, none⟩ = some (.int .i64 x.tm) := (T12.out.out 3).1
  have r3 : w12.cell? ⟨w.heap.size + 1, 3, none⟩ = some (.int .i64 0) := (T12.out.res 3).1
  have f3 : w12.frozen? ⟨w.heap.size + 1, 3, none⟩ = false := (T12.out.res 3).2
  have o4 : w12.cell? ⟨w.heap.size + 1 + 1, 4, none⟩ = some (.int .i64 x.next) := (T12.out.out 4).1
  have r4 : w12.cell? ⟨w.heap.size + 1, 4, none⟩ = some (.int .i64 0) := (T12.out.res 4).1
  have f4 : w12.frozen? ⟨w.heap.size + 1, 4, none⟩ = false := (T12.out.res 4).2
  have o5 : w12.cell? ⟨w.heap.size + 1 + 1, 5, none⟩ = some (.int .i64 x.scope) := (T12.out.out 5).1
  have r5 : w12.cell? ⟨w.heap.size + 1, 5, none⟩ = some (.int .i64 0) := (T12.out.res 5).1
  have f5 : w12.frozen? ⟨w.heap.size + 1, 5, none⟩ = false := (T12.out.res 5).2
  have o6 : w12.cell? ⟨w.heap.size + 1 + 1, 6, none⟩ = some (.bool x.ind) := (T12.out.out 6).1
  have r6 : w12.cell? ⟨w.heap.size + 1, 6, none⟩ = some (.bool false) := (T12.out.res 6).1
  have f6 : w12.frozen? ⟨w.heap.size + 1, 6, none⟩ = false := (T12.out.res 6).2
  have o7 : w12.cell? ⟨w.heap.size + 1 + 1, 7, none⟩ = some (.slice (some ⟨g2, 0, none⟩) n2 n2) := (T12.out.out 7).1
  have r7 : w12.cell? ⟨w.heap.size + 1, 7, none⟩ = some (.slice none 0 0) := (T12.out.res 7).1
  have f7 : w12.frozen? ⟨w.heap.size + 1, 7, none⟩ = false := (T12.out.res 7).2
  have o8 : w12.cell? ⟨w.heap.size + 1 + 1, 8, none⟩ = some (.slice s3 n3 n3) := (T12.out.out 8).1
  have r8 : w12.cell? ⟨w.heap.size + 1, 8, none⟩ = some (.slice none 0 0) := (T12.out.res 8).1
  have f8 : w12.frozen? ⟨w.heap.size + 1, 8, none⟩ = false := (T12.out.res 8).2
  have hl12 := T12.out.lt
  have HLN : Hid (x.ents.length = n2 ∧ n2 ≤ 9223372036854775807) := ⟨HK.out.en.len, HK.out.en.max⟩
  have HMX : Hid (n3 ≤ 9223372036854775807) := HK.out.mx
  clear HK
  go_wp2
  try simp only [Exit.inBlock, Exit.then]
  have q0 := heap_setCell_same w12 (w.heap.size + 1) 0 _ 36 (.slice (some ⟨g1, 0, none⟩) n1 n1) T12.out.b1
  have q1 := heap_setCell_same _ (w.heap.size + 1) 1 _ 36 (.int .i64 x.num) q0
  have q2 := heap_setCell_same _ (w.heap.size + 1) 2 _ 36 (.int .i64 x.base) q1
  have q3 := heap_setCell_same _ (w.heap.size + 1) 3 _ 36 (.int .i64 x.tm) q2
  have q4 := heap_setCell_same _ (w.heap.size + 1) 4 _ 36 (.int .i64 x.next) q3
  have q5 := heap_setCell_same _ (w.heap.size + 1) 5 _ 36 (.int .i64 x.scope) q4
  have q6 := heap_setCell_same _ (w.heap.size + 1) 6 _ 36 (.bool x.ind) q5
  have q7 := heap_setCell_same _ (w.heap.size + 1) 7 _ 36 (.slice (some ⟨g2, 0, none⟩) n2 n2) q6
  have q8 := heap_setCell_same _ (w.heap.size + 1) 8 _ 36 (.slice s3 n3 n3) q7
  have tt : Touch (w.heap.size + 1) (w.heap.size + 2) w12 (((((((((w12.setCell ⟨w.heap.size + 1, 0, none⟩ (.slice (some ⟨g1, 0, none⟩) n1 n1)).setCell ⟨w.heap.size + 1, 1, none⟩ (.int .i64 x.num)).setCell ⟨w.heap.size + 1, 2, none⟩ (.int .i64 x.base)).setCell ⟨w.heap.size + 1, 3, none⟩ (.int .i64 x.tm)).setCell ⟨w.heap.size + 1, 4, none⟩ (.int .i64 x.next)).setCell ⟨w.heap.size + 1, 5, none⟩ (.int .i64 x.scope)).setCell ⟨w.heap.size + 1, 6, none⟩ (.bool x.ind)).setCell ⟨w.heap.size + 1, 7, none⟩ (.slice (some ⟨g2, 0, none⟩) n2 n2)).setCell ⟨w.heap.size + 1, 8, none⟩ (.slice s3 n3 n3)) := (((((((((touch_set' _ _ _ _ (Nat.le_refl _) (Nat.lt_succ_self _)).trans (touch_set' _ _ _ _ (Nat.le_refl _) (Nat.lt_succ_self _))).trans (touch_set' _ _ _ _ (Nat.le_refl _) (Nat.lt_succ_self _))).trans (touch_set' _ _ _ _ (Nat.le_refl _) (Nat.lt_succ_self _))).trans (touch_set' _ _ _ _ (Nat.le_refl _) (Nat.lt_succ_self _))).trans (touch_set' _ _ _ _ (Nat.le_refl _) (Nat.lt_succ_self _))).trans (touch_set' _ _ _ _ (Nat.le_refl _) (Nat.lt_succ_self _))).trans (touch_set' _ _ _ _ (Nat.le_refl _) (Nat.lt_succ_self _))).trans (touch_set' _ _ _ _ (Nat.le_refl _) (Nat.lt_succ_self _)))
  have hr := T12.out.st w12 (((((((((w12.setCell ⟨w.heap.size + 1, 0, none⟩ (.slice (some ⟨g1, 0, none⟩) n1 n1)).setCell ⟨w.heap.size + 1, 1, none⟩ (.int .i64 x.num)).setCell ⟨w.heap.size + 1, 2, none⟩ (.int .i64 x.base)).setCell ⟨w.heap.size + 1, 3, none⟩ (.int .i64 x.tm)).setCell ⟨w.heap.size + 1, 4, none⟩ (.int .i64 x.next)).setCell ⟨w.heap.size + 1, 5, none⟩ (.int .i64 x.scope)).setCell ⟨w.heap.size + 1, 6, none⟩ (.bool x.ind)).setCell ⟨w.heap.size + 1, 7, none⟩ (.slice (some ⟨g2, 0, none⟩) n2 n2)).setCell ⟨w.heap.size + 1, 8, none⟩ (.slice s3 n3 n3)) (fun l hl hl2 => tt.block l hl2 (.inr (by omega))) tt.size T12.out.r
  refine bodyPost_ret (results_cr rfl _ (w.heap.size + 1) rfl _ _ _ _ _ _ _ _ _ _ q8) rfl ⟨_, _, _, rfl, ⟨hr.1.1, hr.1.2.1.gns HLN.out.1 HLN.out.2 hr.1.2.2, hr.2.toRow, HMX.out⟩, ?_⟩
  exact T12.out.below.trans (tt.below (by omega) (by omega))

end Go.Proofs.YtbfjkmlmnhphoaaDoor
