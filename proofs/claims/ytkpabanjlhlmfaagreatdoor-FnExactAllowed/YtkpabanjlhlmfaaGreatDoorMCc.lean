import Derived.Test.YtkpabanjlhlmfaaGreatDoorMCb
import Derived.Test.YtkpabanjlhlmfaaGreatDoorRK
set_option linter.unusedVariables false
namespace Go.Proofs.YtkpabanjlhlmfaaGreatDoor
open Go.RowKit

/-- A value of Ext: what it holds. -/
structure XP where
  id : Int
  crit : Bool
  val : List Int
instance : Inhabited XP := ⟨⟨0, false, []⟩⟩
/-- Where its slices lie. -/
structure XPS where
  a1 : Option Addr
  n1 : Nat
  c1 : Nat
  deriving Inhabited
def XPv (s : XPS) (x : XP) : Value := .agg #[.int .i64 x.id, .bool x.crit, .slice s.a1 s.n1 s.c1]
/-- Its slices are there. -/
structure XPR (w : World) (s : XPS) (x : XP) : Prop where
  r1 : Row w s.a1 s.n1 x.val
  m1 : s.n1 ≤ 9223372036854775807
theorem XPR.kept {w w' : World} {s : XPS} {x : XP} (h : XPR w s x) (hb : Below w.heap.size w w') : XPR w' s x := ⟨h.r1.kept hb, h.m1⟩
/-- It is small. -/
def XPZ (x : XP) : Prop := (x.val.length ≤ 1048576)
/-- The same by its slices' lengths. -/
def XPZn (s : XPS) (x : XP) : Prop := (s.n1 ≤ 1048576)
theorem XPR.zn {w : World} {s : XPS} {x : XP} (h : XPR w s x) : XPZ x ↔ XPZn s x := by
  unfold XPZ XPZn
  rw [h.r1.len]
def XPT (s : XPS) : Prop := s.c1 = s.n1

set_option maxRecDepth 10000 in
set_option maxHeartbeats 4000000 in
theorem szExt_k (s : XPS) (x : XP) (lf : Int) (w : World) (h : XPR w s x) (hl0 : 0 ≤ lf) (hl1 : lf ≤ 1048576) :
    Calls Tryz.prog 74 #[XPv s x, .int .i64 lf] w fun e w' => ∃ r, e = .returned (.int .i64 r) ∧ (r < 0 ∨ (0 ≤ r ∧ r ≤ 1048576 ∧ XPZ x)) ∧ Below w.heap.size w w' := by
  obtain ⟨a1, n1, c1⟩ := s
  have HK : Hid (XPR w ⟨a1, n1, c1⟩ x) := h
  have HIF : Hid (XPZ x ↔ XPZn ⟨a1, n1, c1⟩ x) := h.zn
  clear h
  show Calls Tryz.prog 74 #[.agg #[.int .i64 x.id, .bool x.crit, .slice a1 n1 c1], .int .i64 lf] w _
  obtain ⟨w0, hw0⟩ : ∃ w0, w0 = w.alloc (.cells #[.int .i64 x.id, .bool x.crit, .slice a1 n1 c1] 120) := ⟨_, rfl⟩
  have B0 : Hid (Below w.heap.size w w0) := by show Below w.heap.size w w0; rw [hw0]; exact (Below.refl _ _).alloc (Nat.le_refl _) _
  have hh0 : w0.heap[w.heap.size]? = some (.cells #[.int .i64 x.id, .bool x.crit, .slice a1 n1 c1] 120) := by rw [hw0]; exact heap_alloc_new w _
  have Y0 : Hid (_ = _) := hh0
  have l0 : w.heap.size < w0.heap.size := (Array.getElem?_eq_some_iff.1 hh0).1
  clear hh0
  have h0 : 0 ≤ lf ∧ lf ≤ 1048576 := ⟨hl0, hl1⟩
  clear hl0 hl1
  go_enter Tryz.func74, Tryz.ntmps74
  go_upto_region 1 with fail
  rw [← hw0]
  clear hw0
  have q2 : w0.cell? ⟨w.heap.size, 2, none⟩ = some (.slice a1 n1 c1) := (cell_of_row _ _ 2 _ 120 (0, 0) Y0.out).trans rfl
  go_wp2_with fail
  refine (szByteS_k a1 n1 c1 lf _ h0.1 h0.2 HK.out.m1).mono ?_
  rintro e w1 ⟨r1, rfl, hr1, hw1⟩
  subst hw1
  have B1 : Hid (Below w.heap.size w w0) := B0.out
  have Y1 : Hid (w0.heap[w.heap.size]? = some (.cells #[.int .i64 x.id, .bool x.crit, .slice a1 n1 c1] 120)) := Y0.out
  have l1 : w.heap.size < w0.heap.size := (Array.getElem?_eq_some_iff.1 Y1.out).1
  clear q2
  by_cases hneg1 : r1 < 0
  · clear hr1
    go_wp2
    go_ret
    exact ⟨_, rfl, .inl (by decide), B1.out⟩
  have h1 : 0 ≤ r1 ∧ r1 ≤ 1048576 := by omega
  have HR1 : Hid (n1 ≤ 1048576) := by rcases hr1 with h | h; exact absurd h hneg1; exact h.2.2
  clear hr1
  go_wp2
  go_ret
  exact ⟨_, rfl, .inr ⟨h1.1, h1.2, HIF.out.2 HR1.out⟩, B1.out⟩

/-- A Ext as it is copied. -/
structure XPQ (w W : World) (ls : Array Value) (R : World → Prop) (vs : Array Value) : Prop where
  b0 : W.heap[w.heap.size]? = some (.cells ls 120 (0, 0))
  b1 : W.heap[w.heap.size + 1]? = some (.cells #[.int .i64 0, .bool false, .slice none 0 0] 72 (0, 0))
  b2 : W.heap[w.heap.size + 1 + 1]? = some (.cells vs 72 (0, 0))
  st : Stab (w.heap.size + 3) R
  r : R W
  below : Below w.heap.size w W
  lt : w.heap.size + 3 ≤ W.heap.size
theorem XPQ.set {w W : World} {ls vs : Array Value} {R : World → Prop} (h : XPQ w W ls R vs) {us : Array Value} (j : Nat) (u : Value) (e : vs.setIfInBounds j u = us) : XPQ w (W.setCell ⟨w.heap.size + 1 + 1, j, none⟩ u) ls R us := by
  have f : ∀ l, l ≠ w.heap.size + 2 → (W.setCell ⟨w.heap.size + 1 + 1, j, none⟩ u).heap[l]? = W.heap[l]? := fun l hl => Below.heap_setCell _ _ _ _ (by show l ≠ w.heap.size + 1 + 1; omega)
  refine ⟨(f _ (by omega)).trans h.b0, (f _ (by omega)).trans h.b1, ?_, h.st, h.st W _ (fun l hl _ => f l (by omega)) (by simp) h.r, ⟨h.below.os, h.below.tape, h.below.output, by simpa [World.setCell] using h.below.size, fun l hl => (f l (by omega)).trans (h.below.block l hl)⟩, by simpa [World.setCell] using h.lt⟩
  rw [← e]
  exact heap_setCell_same W (w.heap.size + 1 + 1) j _ 72 u h.b2
theorem XPQ.on {w W : World} {ls vs : Array Value} {R : World → Prop} {W' : World} (h : XPQ w W ls R vs) (hb : Below W.heap.size W W') : XPQ w W' ls R vs := by
  have hl := h.lt
  have hs := hb.size
  exact ⟨(hb.block _ (by omega)).trans h.b0, (hb.block _ (by omega)).trans h.b1, (hb.block _ (by omega)).trans h.b2, h.st, h.st W W' (fun l _ hl => hb.block l hl) hs h.r, h.below.trans (hb.mono h.below.size), by omega⟩
theorem XPQ.more {w W : World} {ls vs : Array Value} {R Q : World → Prop} (h : XPQ w W ls R vs) (s : Stab (w.heap.size + 3) Q) (q : Q W) : XPQ w W ls Q vs := ⟨h.b0, h.b1, h.b2, s, q, h.below, h.lt⟩
theorem XPQ.out {w W : World} {ls vs : Array Value} {R : World → Prop} (h : XPQ w W ls R vs) (j : Nat) : W.cell? ⟨w.heap.size + 1 + 1, j, none⟩ = vs[j]? ∧ W.frozen? ⟨w.heap.size + 1 + 1, j, none⟩ = false ∧ W.cell? ⟨w.heap.size, j, none⟩ = ls[j]? :=
  ⟨cell_of_row _ _ j _ 72 (0, 0) h.b2, frozen_of_row W _ j _ 72 h.b2, cell_of_row _ _ j _ 120 (0, 0) h.b0⟩
theorem infoSizeXP : (Tryz.prog.info? 72).map (·.size) = some 3 := by kernel_rfl

set_option maxRecDepth 10000 in
set_option maxHeartbeats 8000000 in
theorem toExt_k (s : XPS) (x : XP) (w : World) (h : XPR w s x) (hz : XPZ x) :
    Calls Tryz.prog 81 #[XPv s x] w fun e w' => ∃ t : XPS, e = .returned (XPv t x) ∧ XPT t ∧ Keeps w.heap.size w' (fun W => XPR W t x) ∧ Below w.heap.size w w' := by
  have hzn := h.zn.1 hz
  obtain ⟨a1, n1, c1⟩ := s
  have HK : Hid (XPR w ⟨a1, n1, c1⟩ x) := h
  have HZ : Hid ((n1 ≤ 1048576)) := hzn
  clear h hz hzn
  show Calls Tryz.prog 81 #[.agg #[.int .i64 x.id, .bool x.crit, .slice a1 n1 c1]] w _
  obtain ⟨w1, hW0⟩ : ∃ W0, W0 = (((w.alloc (.cells #[.int .i64 x.id, .bool x.crit, .slice a1 n1 c1] 120)).alloc (.cells #[.int .i64 0, .bool false, .slice none 0 0] 72)).alloc (.cells #[.int .i64 0, .bool false, .slice none 0 0] 72)) := ⟨_, rfl⟩
  have hB0 : Below w.heap.size w w1 := by rw [hW0]; exact three_below _ _ _ _
  have hS0 : w1.heap.size = w.heap.size + 3 := by rw [hW0]; simp
  obtain ⟨b0, b1, b2⟩ := three_blocks' w (.cells #[.int .i64 x.id, .bool x.crit, .slice a1 n1 c1] 120) (.cells #[.int .i64 0, .bool false, .slice none 0 0] 72) (.cells #[.int .i64 0, .bool false, .slice none 0 0] 72)
  rw [← hW0] at b0 b1 b2
  have T1 : Hid (XPQ w w1 #[.int .i64 x.id, .bool x.crit, .slice a1 n1 c1] (fun _ => True) #[.int .i64 0, .bool false, .slice none 0 0]) := ⟨b0, b1, b2, fun _ _ _ _ _ => trivial, trivial, hB0, by omega⟩
  clear b0 b1 b2 hB0 hS0
  go_enter Tryz.func81, Tryz.ntmps81
  go_upto_region 2 with fail
  rw [← hW0]
  clear hW0
  obtain ⟨o0, f0, l0⟩ := T1.out.out 0
  have o0 : w1.cell? ⟨w.heap.size + 1 + 1, 0, none⟩ = some (.int .i64 0) := o0
  have l0 : w1.cell? ⟨w.heap.size, 0, none⟩ = some (.int .i64 x.id) := l0
  have m1 := T1.out.lt
  obtain ⟨w2, hw2⟩ : ∃ W, W = (w1.setCell ⟨w.heap.size + 1 + 1, 0, none⟩ (.int .i64 x.id)) := ⟨_, rfl⟩
  have T2 : Hid (XPQ w w2 #[.int .i64 x.id, .bool x.crit, .slice a1 n1 c1] (fun _ => True) #[.int .i64 x.id, .bool false, .slice none 0 0]) := by rw [hw2]; exact (T1.out.set 0 _ rfl)
  have HW2 : Hid (_ = _) := hw2
  clear hw2
  go_upto_region 3 with fail
  rw [← HW2.out]
  clear HW2 o0 f0 l0 m1 T1
  obtain ⟨o1, f1, l1⟩ := T2.out.out 1
  have o1 : w2.cell? ⟨w.heap.size + 1 + 1, 1, none⟩ = some (.bool false) := o1
  have l1 : w2.cell? ⟨w.heap.size, 1, none⟩ = some (.bool x.crit) := l1
  have m2 := T2.out.lt
  obtain ⟨w3, hw3⟩ : ∃ W, W = (w2.setCell ⟨w.heap.size + 1 + 1, 1, none⟩ (.bool x.crit)) := ⟨_, rfl⟩
  have T3 : Hid (XPQ w w3 #[.int .i64 x.id, .bool x.crit, .slice a1 n1 c1] (fun _ => True) #[.int .i64 x.id, .bool x.crit, .slice none 0 0]) := by rw [hw3]; exact (T2.out.set 1 _ rfl)
  have HW3 : Hid (_ = _) := hw3
  clear hw3
  go_upto_region 4 with fail
  rw [← HW3.out]
  clear HW3 o1 f1 l1 m2 T2
  obtain ⟨_, _, l2⟩ := T3.out.out 2
  have l2 : w3.cell? ⟨w.heap.size, 2, none⟩ = some (.slice a1 n1 c1) := l2
  have m3 := T3.out.lt
  go_wp2_with fail
  refine (toByteS_k a1 n1 c1 x.val _ ((HK.out.kept T3.out.below).r1) HZ.out).mono ?_
  rintro e w4 ⟨p1, rfl, hp, hb⟩
  have T4 : Hid (XPQ w w4 #[.int .i64 x.id, .bool x.crit, .slice a1 n1 c1] (fun W => Keeps (w.heap.size + 3) W (fun W => Row W p1 n1 x.val)) #[.int .i64 x.id, .bool x.crit, .slice none 0 0]) := (T3.out.on hb).more (stab_keeps _ _) (hp.mono (by omega))
  clear hb hp T3 l2 m3
  obtain ⟨o2, f2, l2⟩ := T4.out.out 2
  have o2 : w4.cell? ⟨w.heap.size + 1 + 1, 2, none⟩ = some (.slice none 0 0) := o2
  have l2 : w4.cell? ⟨w.heap.size, 2, none⟩ = some (.slice a1 n1 c1) := l2
  have m4 := T4.out.lt
  obtain ⟨w5, hw5⟩ : ∃ W, W = (w4.setCell ⟨w.heap.size + 1 + 1, 2, none⟩ (.slice p1 n1 n1)) := ⟨_, rfl⟩
  have T5 : Hid (XPQ w w5 #[.int .i64 x.id, .bool x.crit, .slice a1 n1 c1] (fun W => Keeps (w.heap.size + 3) W (fun W => Row W p1 n1 x.val)) #[.int .i64 x.id, .bool x.crit, .slice p1 n1 n1]) := by rw [hw5]; exact (T4.out.set 2 _ rfl)
  have HW5 : Hid (_ = _) := hw5
  clear hw5
  go_upto_region 5 with fail
  rw [← HW5.out]
  clear HW5 o2 f2 l2 m4 T4
  have HMX : Hid (XPR w ⟨a1, n1, c1⟩ x) := HK.out
  clear HK
  have hlF := T5.out.lt
  rename_i K0 hK0
  apply wp_region_lit
  refine wpList_load_row rfl 72 _ rfl (w.heap.size + 1 + 1) rfl 72 #[.int .i64 x.id, .bool x.crit, .slice p1 n1 n1] (0, 0) _ T5.out.b2 Tryz.underlying72 rfl infoSizeXP ?_
  refine wpList_store_rowTo rfl 72 _ _ rfl rfl (w.heap.size + 1) #[.int .i64 x.id, .bool x.crit, .slice p1 n1 n1] rfl rfl 72 #[.int .i64 0, .bool false, .slice none 0 0] T5.out.b1 infoSizeXP rfl (by simp [Value.oneCell']) ?_
  apply wpList_nil
  refine hK0 _ _ ?_
  clear hK0 K0
  have hrow : (w5.setRow (w.heap.size + 1) #[.int .i64 x.id, .bool x.crit, .slice p1 n1 n1]).heap[w.heap.size + 1]? = some (.cells #[.int .i64 x.id, .bool x.crit, .slice p1 n1 n1] 72 (0, 0)) := setRow_heap _ _ _ _ _ _ T5.out.b1
  have hoth : ∀ l, l ≠ w.heap.size + 1 → (w5.setRow (w.heap.size + 1) #[.int .i64 x.id, .bool x.crit, .slice p1 n1 n1]).heap[l]? = w5.heap[l]? := fun l hl => setRow_other _ _ _ _ hl
  have hsz : (w5.setRow (w.heap.size + 1) #[.int .i64 x.id, .bool x.crit, .slice p1 n1 n1]).heap.size = w5.heap.size := by simp
  have hbF : Below w.heap.size w (w5.setRow (w.heap.size + 1) #[.int .i64 x.id, .bool x.crit, .slice p1 n1 n1]) := ⟨T5.out.below.os, T5.out.below.tape, T5.out.below.output, by rw [hsz]; exact T5.out.below.size, fun l hl => (hoth l (by omega)).trans (T5.out.below.block l hl)⟩
  have hr := T5.out.st w5 (w5.setRow (w.heap.size + 1) #[.int .i64 x.id, .bool x.crit, .slice p1 n1 n1]) (fun l hl hl2 => hoth l (by omega)) (Nat.le_of_eq hsz.symm) T5.out.r
  go_wp2
  try simp only [Exit.inBlock, Exit.then]
  have k1 : Keeps (w.heap.size + 3) _ (fun W => Row W p1 n1 x.val) := hr
  refine bodyPost_ret (results_cell_row rfl _ _ (w.heap.size + 1) 72 _ (0, 0) _ rfl hrow Tryz.underlying72 rfl infoSizeXP) rfl ⟨⟨p1, n1, n1⟩, rfl, rfl, Keeps.mono (k1.map fun W q => ?_) (by omega), hbF⟩
  have h1 := q
  exact ⟨h1, HMX.out.m1⟩

set_option maxRecDepth 10000 in
set_option maxHeartbeats 4000000 in
theorem eqExt_k (s t : XPS) (x : XP) (w : World) (h : XPR w s x) (h2 : XPR w t x) (hz : XPZ x) :
    Calls Tryz.prog 95 #[XPv s x, XPv t x] w fun e w' => e = .returned (.bool true) ∧ Below w.heap.size w w' := by
  have hzn := h.zn.1 hz
  obtain ⟨a1, n1, c1⟩ := s
  obtain ⟨b1, m1, d1⟩ := t
  obtain rfl : m1 = n1 := (h2.r1.len).symm.trans h.r1.len
  have H1 : Hid (XPR w ⟨a1, m1, c1⟩ x) := h
  have H2 : Hid (XPR w ⟨b1, m1, d1⟩ x) := h2
  have HZ : Hid ((m1 ≤ 1048576)) := hzn
  clear h h2 hz hzn
  show Calls Tryz.prog 95 #[.agg #[.int .i64 x.id, .bool x.crit, .slice a1 m1 c1], .agg #[.int .i64 x.id, .bool x.crit, .slice b1 m1 d1]] w _
  obtain ⟨w0, hW0⟩ : ∃ W0, W0 = ((w.alloc (.cells #[.int .i64 x.id, .bool x.crit, .slice a1 m1 c1] 72)).alloc (.cells #[.int .i64 x.id, .bool x.crit, .slice b1 m1 d1] 72)) := ⟨_, rfl⟩
  have HB0 : Hid (Below w.heap.size w w0) := by show Below w.heap.size w w0; rw [hW0]; exact ((Below.refl _ _).alloc (Nat.le_refl _) _).alloc (by simp) _
  have y := two_blocks w (.cells #[.int .i64 x.id, .bool x.crit, .slice a1 m1 c1] 72) (.cells #[.int .i64 x.id, .bool x.crit, .slice b1 m1 d1] 72)
  rw [← hW0] at y
  have Y0 : Hid (w0.heap[w.heap.size]? = some (.cells #[.int .i64 x.id, .bool x.crit, .slice a1 m1 c1] 72)) := y.1
  have Y1 : Hid (w0.heap[w.heap.size + 1]? = some (.cells #[.int .i64 x.id, .bool x.crit, .slice b1 m1 d1] 72)) := y.2
  have l0 : w.heap.size + 1 < w0.heap.size := (Array.getElem?_eq_some_iff.1 y.2).1
  clear y
  have t_id : (x.id != x.id) = false := by simp
  have t_crit : (x.crit != x.crit) = false := by simp
  go_enter Tryz.func95, Tryz.ntmps95
  go_upto_region 1 with fail
  rw [← hW0]
  clear hW0
  have p0 : w0.cell? ⟨w.heap.size, 0, none⟩ = some (.int .i64 x.id) := (cell_of_row _ _ 0 _ 72 (0, 0) Y0.out).trans rfl
  have q0 : w0.cell? ⟨w.heap.size + 1, 0, none⟩ = some (.int .i64 x.id) := (cell_of_row _ _ 0 _ 72 (0, 0) Y1.out).trans rfl
  have p1 : w0.cell? ⟨w.heap.size, 1, none⟩ = some (.bool x.crit) := (cell_of_row _ _ 1 _ 72 (0, 0) Y0.out).trans rfl
  have q1 : w0.cell? ⟨w.heap.size + 1, 1, none⟩ = some (.bool x.crit) := (cell_of_row _ _ 1 _ 72 (0, 0) Y1.out).trans rfl
  have p2 : w0.cell? ⟨w.heap.size, 2, none⟩ = some (.slice a1 m1 c1) := (cell_of_row _ _ 2 _ 72 (0, 0) Y0.out).trans rfl
  have q2 : w0.cell? ⟨w.heap.size + 1, 2, none⟩ = some (.slice b1 m1 d1) := (cell_of_row _ _ 2 _ 72 (0, 0) Y1.out).trans rfl
  go_wp2_with fail
  refine (eqByteS_one a1 b1 m1 c1 d1 x.val _ ((H1.out.kept HB0.out).r1) ((H2.out.kept HB0.out).r1) HZ.out).mono ?_
  rintro e w1 ⟨rfl, hb1⟩
  replace Y0 : Hid (w1.heap[w.heap.size]? = some (.cells #[.int .i64 x.id, .bool x.crit, .slice a1 m1 c1] 72)) := (hb1.block _ (by omega)).trans Y0.out
  replace Y1 : Hid (w1.heap[w.heap.size + 1]? = some (.cells #[.int .i64 x.id, .bool x.crit, .slice b1 m1 d1] 72)) := (hb1.block _ l0).trans Y1.out
  have HB1 : Hid (Below w.heap.size w w1) := HB0.out.trans (hb1.mono HB0.out.size)
  have l1 : w.heap.size + 1 < w1.heap.size := (Array.getElem?_eq_some_iff.1 Y1.out).1
  clear p0 q0 p1 q1 p2 q2 hb1 HB0 l0
  go_wp2
  go_ret
  exact ⟨rfl, HB1.out⟩

/-- The cells of one from o on. -/
structure XPC (w : World) (b o : Nat) (s : XPS) (x : XP) : Prop where
  c0 : w.cell? ⟨b, o, none⟩ = some (.int .i64 x.id)
  c1 : w.cell? ⟨b, o + 1, none⟩ = some (.bool x.crit)
  c2 : w.cell? ⟨b, o + 2, none⟩ = some (.slice s.a1 s.n1 s.c1)
theorem XPC.of {w w' : World} {b o : Nat} {s : XPS} {x : XP} (h : XPC w b o s x) (hc : ∀ i, w'.cell? ⟨b, i, none⟩ = w.cell? ⟨b, i, none⟩) : XPC w' b o s x := ⟨(hc _).trans h.c0, (hc _).trans h.c1, (hc _).trans h.c2⟩
/-- The slice at a reads as these. -/
structure XPs (w : World) (a : Option Addr) (n : Nat) (xs : List XP) : Prop where
  len : xs.length = n
  max : n ≤ 9223372036854775807
  get : ∀ k, k < n → ∃ (b off : Nat) (s : XPS), a = some ⟨b, off, none⟩ ∧ b < w.heap.size ∧ XPC w b (off + k * 3) s (xs.getD k default) ∧ XPR w s (xs.getD k default)
theorem XPs.kept {w w' : World} {a : Option Addr} {n : Nat} {xs : List XP} (h : XPs w a n xs) (hb : Below w.heap.size w w') : XPs w' a n xs := by
  refine ⟨h.len, h.max, fun k hk => ?_⟩
  obtain ⟨b, off, s, ha, hlt, hc, hp⟩ := h.get k hk
  exact ⟨b, off, s, ha, Nat.lt_of_lt_of_le hlt hb.size, hc.of (fun i => hb.cell (p := ⟨b, i, none⟩) hlt), hp.kept hb⟩

set_option maxRecDepth 10000 in
set_option maxHeartbeats 2000000 in
theorem szExtS_k (a : Option Addr) (n cap : Nat) (xs : List XP) (lf : Int) (w : World) (h : XPs w a n xs) (hl0 : 0 ≤ lf) (hl1 : lf ≤ 1048576) :
    Calls Tryz.prog 24 #[.slice a n cap, .int .i64 lf] w fun e w' => ∃ r, e = .returned (.int .i64 r) ∧ (r < 0 ∨ (0 ≤ r ∧ r ≤ 1048576 ∧ n ≤ 1048576 ∧ ∀ k, k < n → XPZ (xs.getD k default))) ∧ Below w.heap.size w w' := by
  have H0 : Hid (XPs w a n xs) := h
  have hn := h.max
  clear h
  by_cases hlt : (n : Int) ≤ lf
  · go_enter Tryz.func24, Tryz.ntmps24
    go_wp2
    go_loopw [1, 5] (fun l i wr => ∃ (k : Nat) (left : Int), k ≤ n ∧ i = .int .i64 k ∧ l = .int .i64 left ∧ 0 ≤ left ∧ left ≤ 1048576 ∧ Hid (∀ j, j < k → XPZ (xs.getD j default)) ∧ Below w.heap.size w wr) (fun _ i _ => n - (intOf i).toNat)
    case atStart => exact ⟨0, lf - n, Nat.zero_le _, rfl, rfl, by omega, by omega, fun j hj => absurd hj (Nat.not_lt_zero _), Below.refl _ _⟩
    case round =>
      obtain ⟨k, left, hk, rfl, rfl, h0, h1, HA, hbr⟩ := hrel
      by_cases hkn : k < n
      · obtain ⟨b, off, ⟨a1, n1, c1⟩, rfl, hlb, hc, hp⟩ := H0.out.get k hkn
        obtain ⟨y, hy⟩ : ∃ y, y = xs.getD k default := ⟨_, rfl⟩
        rw [← hy] at hc hp
        have HY : Hid (y = xs.getD k default) := hy
        replace hc := hc.of (w' := wr) (fun i => hbr.cell (p := ⟨b, i, none⟩) hlb)
        have u0 : wr.cell? ⟨b, off + k * 3, none⟩ = some (.int .i64 y.id) := hc.c0
        have u1 : wr.cell? ⟨b, off + k * 3 + 1, none⟩ = some (.bool y.crit) := hc.c1
        have u2 : wr.cell? ⟨b, off + k * 3 + 2, none⟩ = some (.slice a1 n1 c1) := hc.c2
        have HP : Hid (XPR wr ⟨a1, n1, c1⟩ y) := hp.kept hbr
        have hkni : (k : Int) < (n : Int) := by omega
        clear hc hy hp
        go_wp2_with fail
        refine (szExt_k ⟨a1, n1, c1⟩ y left _ HP.out h0 h1).mono ?_
        rintro e w2 ⟨r, rfl, hr, hb2⟩
        have hb2' : Below w.heap.size w w2 := hbr.trans (hb2.mono hbr.size)
        by_cases hneg : r < 0
        · clear hr
          go_wp2
          go_ret
          exact ⟨_, rfl, .inl (by decide), hb2'⟩
        · have hr1 : 0 ≤ r := by omega
          have hr2 : r ≤ 1048576 := by omega
          have HR : Hid (XPZ y) := by rcases hr with h | h; exact absurd h hneg; exact h.2.2
          clear hr
          go_wp2
          go_roundw
          case rel =>
            refine ⟨k + 1, r, by omega, by go_num, rfl, hr1, hr2, fun j hj => ?_, hb2'⟩
            by_cases hjk : j = k
            · subst hjk; rw [← HY.out]; exact HR.out
            · exact HA.out j (by omega)
          case measure => simp [intOf]; omega
      · obtain rfl : n = k := by omega
        go_wp2
        go_ret
        exact ⟨_, rfl, .inr ⟨h0, h1, by omega, HA.out⟩, hbr⟩
  · go_enter Tryz.func24, Tryz.ntmps24
    go_wp2
    go_ret
    exact ⟨_, rfl, .inl (by decide), Below.refl _ _⟩

set_option maxRecDepth 10000 in
set_option maxHeartbeats 4000000 in
theorem eqExtS_k (a b : Option Addr) (n ca cb : Nat) (xs : List XP) (w : World) (h : XPs w a n xs) (h2 : XPs w b n xs) (hz : ∀ k, k < n → XPZ (xs.getD k default)) :
    Calls Tryz.prog 50 #[.slice a n ca, .slice b n cb] w fun e w' => e = .returned (.bool true) ∧ Below w.heap.size w w' := by
  have HK : Hid (XPs w a n xs) := h
  have HK2 : Hid (XPs w b n xs) := h2
  have HZ : Hid (∀ k, k < n → XPZ (xs.getD k default)) := hz
  have hn := h.max
  clear h h2 hz
  go_enter Tryz.func50, Tryz.ntmps50
  go_wp2
  go_loopw [5] (fun i wr => ∃ k : Nat, k ≤ n ∧ i = .int .i64 k ∧ Below w.heap.size w wr) (fun i _ => n - (intOf i).toNat)
  case atStart => exact ⟨0, Nat.zero_le _, rfl, Below.refl _ _⟩
  case round =>
    obtain ⟨k, hk, rfl, hbr⟩ := hrel
    by_cases hkn : k < n
    · obtain ⟨g1, off1, ⟨a1, n1, c1⟩, rfl, hl1, hp, hr1⟩ := HK.out.get k hkn
      obtain ⟨g2, off2, ⟨b1, m1, d1⟩, rfl, hl2, hq, hr2⟩ := HK2.out.get k hkn
      have hgp := HZ.out k hkn
      obtain ⟨y, hy⟩ : ∃ y, y = xs.getD k default := ⟨_, rfl⟩
      rw [← hy] at hp hq hr1 hr2 hgp
      clear hy
      have HGP : Hid (XPZ y) := hgp
      replace hp := hp.of (w' := wr) (fun i => hbr.cell (p := ⟨g1, i, none⟩) hl1)
      replace hq := hq.of (w' := wr) (fun i => hbr.cell (p := ⟨g2, i, none⟩) hl2)
      have p0 : wr.cell? ⟨g1, off1 + k * 3, none⟩ = some (.int .i64 y.id) := hp.c0
      have p1 : wr.cell? ⟨g1, off1 + k * 3 + 1, none⟩ = some (.bool y.crit) := hp.c1
      have p2 : wr.cell? ⟨g1, off1 + k * 3 + 2, none⟩ = some (.slice a1 n1 c1) := hp.c2
      have q0 : wr.cell? ⟨g2, off2 + k * 3, none⟩ = some (.int .i64 y.id) := hq.c0
      have q1 : wr.cell? ⟨g2, off2 + k * 3 + 1, none⟩ = some (.bool y.crit) := hq.c1
      have q2 : wr.cell? ⟨g2, off2 + k * 3 + 2, none⟩ = some (.slice b1 m1 d1) := hq.c2
      have HP1 : Hid (XPR wr.drew ⟨a1, n1, c1⟩ y) := hr1.kept hbr.drew
      have HP2 : Hid (XPR wr.drew ⟨b1, m1, d1⟩ y) := hr2.kept hbr.drew
      have hkni : (k : Int) < (n : Int) := by omega
      have hs := hbr.size
      clear hp hq hr1 hr2 hgp
      have EQ : Hid (Calls Tryz.prog 95 #[.agg #[.int .i64 y.id, .bool y.crit, .slice a1 n1 c1], .agg #[.int .i64 y.id, .bool y.crit, .slice b1 m1 d1]] wr.drew fun e w' => e = .returned (.bool true) ∧ Below wr.drew.heap.size wr.drew w') := eqExt_k ⟨a1, n1, c1⟩ ⟨b1, m1, d1⟩ y _ HP1.out HP2.out HGP.out
      go_wp2_with fail
      go_region_with (go_at_call 95; refine EQ.out.mono ?_; rintro e w2 ⟨rfl, hb2⟩)
      all_goals
        have b5 : Below w.heap.size w w2 := hbr.drew.trans (hb2.mono hs)
        go_wp2
        go_roundw
        case rel => exact ⟨k + 1, by omega, by go_num, b5⟩
        case measure => simp [intOf]; omega
    · go_wp2
      go_ret
      exact ⟨rfl, hbr⟩

theorem Tryz.infoXP : (Tryz.prog.info? 72).map (fun i => (i.zero, i.size, i.bytes)) = some (some (.agg #[.int .i64 0, .bool false, .slice none 0 0]), 3, 40) := by kernel_rfl
/-- The cells of the row g are written, from o on. -/
def putXP (w : World) (g o : Nat) (v0 v1 v2 : Value) : World := (((w.setCell ⟨g, o, none⟩ v0).setCell ⟨g, o + 1, none⟩ v1).setCell ⟨g, o + 2, none⟩ v2)
theorem putXP_other (w : World) (g o l : Nat) (h : l ≠ g) (v0 v1 v2 : Value) : (putXP w g o v0 v1 v2).heap[l]? = w.heap[l]? :=
  (Below.heap_setCell _ _ _ _ (by show l ≠ g; exact h)).trans ((Below.heap_setCell _ _ _ _ (by show l ≠ g; exact h)).trans (Below.heap_setCell _ _ _ _ (by show l ≠ g; exact h)))
theorem putXP_size (w : World) (g o : Nat) (v0 v1 v2 : Value) : (putXP w g o v0 v1 v2).heap.size = w.heap.size := by simp [putXP]
theorem putXP_below {B : Nat} {w0 w : World} (h : Below B w0 w) (g o : Nat) (hg : B ≤ g) (v0 v1 v2 : Value) : Below B w0 (putXP w g o v0 v1 v2) := (((h.setCell hg _).setCell hg _).setCell hg _)
/-- The first k lie in the row g, what they have behind it. -/
def XPPre (w : World) (g k : Nat) (xs : List XP) : Prop := ∀ j, j < k → ∃ s : XPS, XPC w g (j * 3) s (xs.getD j default) ∧ Keeps (g + 1) w (fun W => XPR W s (xs.getD j default))
theorem XPPre.kept {w w' : World} {g k : Nat} {xs : List XP} (h : XPPre w g k xs) (hg : g < w.heap.size) (hb : Below w.heap.size w w') : XPPre w' g k xs := fun j hj => by
  obtain ⟨s, h3, h4⟩ := h j hj
  exact ⟨s, h3.of (fun i => hb.cell (p := ⟨g, i, none⟩) hg), stab_keeps _ _ w w' (fun l _ hl => hb.block l hl) hb.size h4⟩
structure PutXP (B : Nat) (w w' : World) (g n cap i : Nat) (s : XPS) (x : XP) : Prop where
  own : ∃ vs, w'.ownsRow B 72 3 (.slice (some ⟨g, 0, none⟩) n cap) n vs
  other : ∀ l, l ≠ g → w'.heap[l]? = w.heap[l]?
  size : w'.heap.size = w.heap.size
  old : ∀ j, j < n * 3 → j < i * 3 ∨ i * 3 + 3 ≤ j → w'.cell? ⟨g, j, none⟩ = w.cell? ⟨g, j, none⟩
  cells : XPC w' g (i * 3) s x

set_option maxRecDepth 10000 in
set_option maxHeartbeats 1000000 in
theorem putXP_is {B : Nat} {w : World} {g n cap : Nat} {vs : List Value} (h : w.ownsRow B 72 3 (.slice (some ⟨g, 0, none⟩) n cap) n vs) (i : Nat) (hi : i < n) (s : XPS) (x : XP) : PutXP B w (putXP w g (i * 3) (.int .i64 x.id) (.bool x.crit) (.slice s.a1 s.n1 s.c1)) g n cap i s x := by
  have h1 := (((h.stored (i * 3) (.int .i64 x.id)).1.stored (i * 3 + 1) (.bool x.crit)).1.stored (i * 3 + 2) (.slice s.a1 s.n1 s.c1)).1
  have hl : vs.length = n * 3 := h.1
  have cc := fun j (hj : j < n * 3) => h1.cellAt j hj
  refine ⟨⟨_, h1⟩, fun l hl => putXP_other _ _ _ _ hl _ _ _ , putXP_size _ _ _ _ _ _ , fun j hj ho => ?_, ⟨?_, ?_, ?_⟩⟩
  · refine (cc j hj).trans ?_
    rw [h.cellAt j hj]
    rw [List.getElem?_set_ne (by omega), List.getElem?_set_ne (by omega), List.getElem?_set_ne (by omega)]
  · refine (cc _ (by omega)).trans ?_
    rw [List.getElem?_set_ne (by omega), List.getElem?_set_ne (by omega), List.getElem?_set_self (by omega)]
  · refine (cc _ (by omega)).trans ?_
    rw [List.getElem?_set_ne (by omega), List.getElem?_set_self (by simp; omega)]
  · refine (cc _ (by omega)).trans ?_
    rw [List.getElem?_set_self (by simp; omega)]

set_option maxRecDepth 10000 in
set_option maxHeartbeats 4000000 in
theorem toExtS_k (a : Option Addr) (n cap : Nat) (xs : List XP) (w : World) (h : XPs w a n xs) (hn : n ≤ 1048576) (hz : ∀ k, k < n → XPZ (xs.getD k default)) :
    Calls Tryz.prog 36 #[.slice a n cap] w fun e w' => ∃ a', e = .returned (.slice a' n n) ∧ Keeps w.heap.size w' (fun W => XPs W a' n xs) ∧ Below w.heap.size w w' := by
  obtain ⟨i0, hi, hz0, hz1, hz2⟩ := info_parts Tryz.infoXP
  have HK : Hid (XPs w a n xs) := h
  have HZ : Hid (∀ k, k < n → XPZ (xs.getD k default)) := hz
  have hlen : Hid (xs.length = n) := h.len
  clear h hz
  go_enter Tryz.func36, Tryz.ntmps36
  go_wp2_with (first | (at_make; refine wpList_make_full _ rfl _ _ 43 rfl w.heap.size 72 i0 _ 3 Tryz.underlying43 hi hz0 hz1 _ _ _ _ n rfl rfl rfl rfl (by rw [hz2]; omega) (by unfold maxLen; omega) (by exact Nat.le_refl _) ?_; intro w1 hown hgrow))
  have hbl : Below w.heap.size w w1 := (Below.refl _ _).grown hgrow (Nat.le_refl _) (by simp)
  clear hgrow hi hz0 hz1 hz2
  go_loopw [4] (fun i wr => ∃ k : Nat, k ≤ n ∧ i = .int .i64 k ∧ Hid (∃ vs, wr.ownsRow w.heap.size 72 3 (.slice (some ⟨w.heap.size, 0, none⟩) n n) n vs) ∧ Hid (XPPre wr w.heap.size k xs) ∧ Below w.heap.size w wr) (fun i _ => n - (intOf i).toNat)
  case atStart => exact ⟨0, Nat.zero_le _, rfl, ⟨_, hown⟩, fun j hj => absurd hj (Nat.not_lt_zero _), hbl⟩
  case round =>
    obtain ⟨k, hk, rfl, HOR, HPRE, hbr⟩ := hrel
    obtain ⟨vs, hor⟩ := HOR.out
    have hgl := (hor.lt _ rfl).2
    have HOV : Hid (_) := hor
    clear HOR hor hown hbl
    by_cases hkn : k < n
    · obtain ⟨b, off, ⟨a1, n1, c1⟩, rfl, hlb, hc, hp⟩ := HK.out.get k hkn
      have hgp := HZ.out k hkn
      obtain ⟨y, hy⟩ : ∃ y, y = xs.getD k default := ⟨_, rfl⟩
      rw [← hy] at hc hp hgp
      have HY : Hid (y = xs.getD k default) := hy
      have HG : Hid (XPZ y) := hgp
      replace hc := hc.of (w' := wr) (fun i => hbr.cell (p := ⟨b, i, none⟩) hlb)
      have u0 : wr.cell? ⟨b, off + k * 3, none⟩ = some (.int .i64 y.id) := hc.c0
      have u1 : wr.cell? ⟨b, off + k * 3 + 1, none⟩ = some (.bool y.crit) := hc.c1
      have u2 : wr.cell? ⟨b, off + k * 3 + 2, none⟩ = some (.slice a1 n1 c1) := hc.c2
      have HP : Hid (XPR wr ⟨a1, n1, c1⟩ y) := hp.kept hbr
      have hkni : (k : Int) < (n : Int) := by omega
      have hs := hbr.size
      clear hc hy hp hgp
      go_wp2_with fail
      refine (toExt_k ⟨a1, n1, c1⟩ y _ HP.out HG.out).mono ?_
      rintro e w2 ⟨s, rfl, _, hp2, hb2⟩
      have hor2 : w2.ownsRow w.heap.size 72 3 (.slice (some ⟨w.heap.size, 0, none⟩) n n) n vs := ownsRow_below HOV.out hb2
      have hs2 := hb2.size
      have fr : ∀ j, w2.frozen? ⟨w.heap.size, j, none⟩ = false := fun j => hor2.frozenAt j
      have hvl : vs.length = n * 3 := hor2.1
      have cx : ∀ j, j < n * 3 → ∃ z, w2.cell? ⟨w.heap.size, j, none⟩ = some z := fun j hj => ⟨_, (hor2.cellAt j hj).trans (List.getElem?_eq_getElem (by omega))⟩
      obtain ⟨z0, x0⟩ := cx (k * 3) (by omega)
      obtain ⟨z1, x1⟩ := cx (k * 3 + 1) (by omega)
      obtain ⟨z2, x2⟩ := cx (k * 3 + 2) (by omega)
      have f0 := fr (k * 3)
      have f1 := fr (k * 3 + 1)
      have f2 := fr (k * 3 + 2)
      have hS := putXP_is hor2 k hkn s y
      have hP : XPPre (putXP w2 w.heap.size (k * 3) (.int .i64 y.id) (.bool y.crit) (.slice s.a1 s.n1 s.c1)) w.heap.size (k + 1) xs := by
        intro j hj
        by_cases hjk : j = k
        · subst hjk
          rw [← HY.out]
          exact ⟨s, hS.cells, stab_keeps _ _ w2 _ (fun l hl _ => hS.other l (by omega)) (Nat.le_of_eq hS.size.symm) (hp2.mono (by omega))⟩
        · obtain ⟨r, q2, q3⟩ := (HPRE.out.kept hgl hb2) j (by omega)
          have hx := hS.old
          exact ⟨r, ⟨(hx _ (by omega) (by omega)).trans q2.c0, (hx _ (by omega) (by omega)).trans q2.c1, (hx _ (by omega) (by omega)).trans q2.c2⟩, stab_keeps _ _ w2 _ (fun l hl _ => hS.other l (by omega)) (Nat.le_of_eq hS.size.symm) q3⟩
      have hB2 := hbr.trans (hb2.mono hs)
      have hB4 : Below w.heap.size w (putXP w2 w.heap.size (k * 3) (.int .i64 y.id) (.bool y.crit) (.slice s.a1 s.n1 s.c1)) := putXP_below hB2 _ _ (Nat.le_refl _) _ _ _ 
      have FIN : Hid (_ ∧ _ ∧ _) := ⟨hS.own, hP, hB4⟩
      have hgl2 : w.heap.size < w2.heap.size := by omega
      clear fr cx hS hP hB4 hB2 hor2 hp2 hb2 hvl HPRE HOV HP HK
      unfold XPv
      go_wp2
      go_roundw
      case rel => exact ⟨k + 1, by omega, by go_num, FIN.out.1, FIN.out.2.1, FIN.out.2.2⟩
      case measure => simp [intOf]; omega
    · obtain rfl : n = k := by omega
      have HX : Hid (n ≤ 9223372036854775807) := HK.out.max
      clear HOV HK
      go_wp2
      go_ret
      refine ⟨_, rfl, ⟨fun W => XPPre W w.heap.size n xs ∧ w.heap.size < W.heap.size, ?_, ⟨HPRE.out, hgl⟩, ?_⟩, hbr⟩
      · intro W W' e s r
        refine ⟨fun j hj => ?_, Nat.lt_of_lt_of_le r.2 s⟩
        obtain ⟨q, h1, h2⟩ := r.1 j hj
        have hbk := e w.heap.size (Nat.le_refl _) r.2
        exact ⟨q, h1.of (fun i => by simp [World.cell?, hbk]), stab_keeps _ _ W W' (fun l hl hl2 => e l (by omega) hl2) s h2⟩
      · intro W r
        refine ⟨hlen.out, HX.out, fun k hk => ?_⟩
        obtain ⟨q, h1, h2⟩ := r.1 k hk
        exact ⟨w.heap.size, 0, q, rfl, r.2, by rw [Nat.zero_add]; exact h1, h2.now⟩

end Go.Proofs.YtkpabanjlhlmfaaGreatDoor

set_option linter.unusedVariables false
namespace Go.Proofs.YtkpabanjlhlmfaaGreatDoor
open Go.RowKit

/-- A value of Cert: what it holds. -/
structure CE where
  ser : Int
  iss : List PT
  sub : List PT
  frm : Int
  til : Int
  key : Int × Int × Int
  ca : Bool
  room : Int
  uses : Int
  nms : List GE
  per : List GE
  den : List GE
  pol : List Int
  maps : List (Int × Int)
  need : Int
  nomap : Int
  noany : Int
  ext : List XP
  sig : List Int
instance : Inhabited CE := ⟨⟨0, [], [], 0, 0, (0, 0, 0), false, 0, 0, [], [], [], [], [], 0, 0, 0, [], []⟩⟩
/-- Where its slices lie. -/
structure CES where
  a1 : Option Addr
  n1 : Nat
  c1 : Nat
  a2 : Option Addr
  n2 : Nat
  c2 : Nat
  a3 : Option Addr
  n3 : Nat
  c3 : Nat
  a4 : Option Addr
  n4 : Nat
  c4 : Nat
  a5 : Option Addr
  n5 : Nat
  c5 : Nat
  a6 : Option Addr
  n6 : Nat
  c6 : Nat
  a7 : Option Addr
  n7 : Nat
  c7 : Nat
  a8 : Option Addr
  n8 : Nat
  c8 : Nat
  a9 : Option Addr
  n9 : Nat
  c9 : Nat
  deriving Inhabited
def CEv (s : CES) (x : CE) : Value := .agg #[.int .i64 x.ser, .slice s.a1 s.n1 s.c1, .slice s.a2 s.n2 s.c2, .int .i64 x.frm, .int .i64 x.til, .int .i64 x.key.1, .int .u64 x.key.2.1, .int .i64 x.key.2.2, .bool x.ca, .int .i64 x.room, .int .i64 x.uses, .slice s.a3 s.n3 s.c3, .slice s.a4 s.n4 s.c4, .slice s.a5 s.n5 s.c5, .slice s.a6 s.n6 s.c6, .slice s.a7 s.n7 s.c7, .int .i64 x.need, .int .i64 x.nomap, .int .i64 x.noany, .slice s.a8 s.n8 s.c8, .slice s.a9 s.n9 s.c9]
/-- Its slices are there. -/
structure CER (w : World) (s : CES) (x : CE) : Prop where
  r1 : Pts w s.a1 s.n1 x.iss
  r2 : Pts w s.a2 s.n2 x.sub
  r3 : Ges w s.a3 s.n3 x.nms
  r4 : Ges w s.a4 s.n4 x.per
  r5 : Ges w s.a5 s.n5 x.den
  r6 : Row64 w s.a6 s.n6 x.pol
  m6 : s.n6 ≤ 9223372036854775807
  r7 : Pms w s.a7 s.n7 x.maps
  r8 : XPs w s.a8 s.n8 x.ext
  r9 : Row w s.a9 s.n9 x.sig
  m9 : s.n9 ≤ 9223372036854775807
theorem CER.kept {w w' : World} {s : CES} {x : CE} (h : CER w s x) (hb : Below w.heap.size w w') : CER w' s x := ⟨h.r1.kept hb, h.r2.kept hb, h.r3.kept hb, h.r4.kept hb, h.r5.kept hb, h.r6.kept hb, h.m6, h.r7.kept hb, h.r8.kept hb, h.r9.kept hb, h.m9⟩
/-- It is small. -/
def CEZ (x : CE) : Prop := (x.iss.length ≤ 1048576 ∧ (∀ k, k < x.iss.length → (x.iss.getD k default).val.size ≤ 1048576)) ∧ (x.sub.length ≤ 1048576 ∧ (∀ k, k < x.sub.length → (x.sub.getD k default).val.size ≤ 1048576)) ∧ (x.nms.length ≤ 1048576 ∧ (∀ k, k < x.nms.length → GeOk (x.nms.getD k default))) ∧ (x.per.length ≤ 1048576 ∧ (∀ k, k < x.per.length → GeOk (x.per.getD k default))) ∧ (x.den.length ≤ 1048576 ∧ (∀ k, k < x.den.length → GeOk (x.den.getD k default))) ∧ (x.pol.length ≤ 1048576) ∧ (x.maps.length ≤ 1048576) ∧ (x.ext.length ≤ 1048576 ∧ (∀ k, k < x.ext.length → XPZ (x.ext.getD k default))) ∧ (x.sig.length ≤ 1048576)
/-- The same by its slices' lengths. -/
def CEZn (s : CES) (x : CE) : Prop := (s.n1 ≤ 1048576 ∧ (∀ k, k < s.n1 → (x.iss.getD k default).val.size ≤ 1048576)) ∧ (s.n2 ≤ 1048576 ∧ (∀ k, k < s.n2 → (x.sub.getD k default).val.size ≤ 1048576)) ∧ (s.n3 ≤ 1048576 ∧ (∀ k, k < s.n3 → GeOk (x.nms.getD k default))) ∧ (s.n4 ≤ 1048576 ∧ (∀ k, k < s.n4 → GeOk (x.per.getD k default))) ∧ (s.n5 ≤ 1048576 ∧ (∀ k, k < s.n5 → GeOk (x.den.getD k default))) ∧ (s.n6 ≤ 1048576) ∧ (s.n7 ≤ 1048576) ∧ (s.n8 ≤ 1048576 ∧ (∀ k, k < s.n8 → XPZ (x.ext.getD k default))) ∧ (s.n9 ≤ 1048576)
theorem CER.zn {w : World} {s : CES} {x : CE} (h : CER w s x) : CEZ x ↔ CEZn s x := by
  unfold CEZ CEZn
  rw [h.r1.len, h.r2.len, h.r3.len, h.r4.len, h.r5.len, h.r6.len, h.r7.len, h.r8.len, h.r9.len]
def CET (s : CES) : Prop := s.c1 = s.n1 ∧ s.c2 = s.n2 ∧ s.c3 = s.n3 ∧ s.c4 = s.n4 ∧ s.c5 = s.n5 ∧ s.c6 = s.n6 ∧ s.c7 = s.n7 ∧ s.c8 = s.n8 ∧ s.c9 = s.n9

set_option maxRecDepth 10000 in
set_option maxHeartbeats 4000000 in
theorem szCert_k (s : CES) (x : CE) (lf : Int) (w : World) (h : CER w s x) (hl0 : 0 ≤ lf) (hl1 : lf ≤ 1048576) :
    Calls Tryz.prog 6 #[CEv s x, .int .i64 lf] w fun e w' => ∃ r, e = .returned (.int .i64 r) ∧ (r < 0 ∨ (0 ≤ r ∧ r ≤ 1048576 ∧ CEZ x)) ∧ Below w.heap.size w w' := by
  obtain ⟨a1, n1, c1, a2, n2, c2, a3, n3, c3, a4, n4, c4, a5, n5, c5, a6, n6, c6, a7, n7, c7, a8, n8, c8, a9, n9, c9⟩ := s
  have HK : Hid (CER w ⟨a1, n1, c1, a2, n2, c2, a3, n3, c3, a4, n4, c4, a5, n5, c5, a6, n6, c6, a7, n7, c7, a8, n8, c8, a9, n9, c9⟩ x) := h
  have HIF : Hid (CEZ x ↔ CEZn ⟨a1, n1, c1, a2, n2, c2, a3, n3, c3, a4, n4, c4, a5, n5, c5, a6, n6, c6, a7, n7, c7, a8, n8, c8, a9, n9, c9⟩ x) := h.zn
  clear h
  show Calls Tryz.prog 6 #[.agg #[.int .i64 x.ser, .slice a1 n1 c1, .slice a2 n2 c2, .int .i64 x.frm, .int .i64 x.til, .int .i64 x.key.1, .int .u64 x.key.2.1, .int .i64 x.key.2.2, .bool x.ca, .int .i64 x.room, .int .i64 x.uses, .slice a3 n3 c3, .slice a4 n4 c4, .slice a5 n5 c5, .slice a6 n6 c6, .slice a7 n7 c7, .int .i64 x.need, .int .i64 x.nomap, .int .i64 x.noany, .slice a8 n8 c8, .slice a9 n9 c9], .int .i64 lf] w _
  obtain ⟨w0, hw0⟩ : ∃ w0, w0 = w.alloc (.cells #[.int .i64 x.ser, .slice a1 n1 c1, .slice a2 n2 c2, .int .i64 x.frm, .int .i64 x.til, .int .i64 x.key.1, .int .u64 x.key.2.1, .int .i64 x.key.2.2, .bool x.ca, .int .i64 x.room, .int .i64 x.uses, .slice a3 n3 c3, .slice a4 n4 c4, .slice a5 n5 c5, .slice a6 n6 c6, .slice a7 n7 c7, .int .i64 x.need, .int .i64 x.nomap, .int .i64 x.noany, .slice a8 n8 c8, .slice a9 n9 c9] 34) := ⟨_, rfl⟩
  have B0 : Hid (Below w.heap.size w w0) := by show Below w.heap.size w w0; rw [hw0]; exact (Below.refl _ _).alloc (Nat.le_refl _) _
  have hh0 : w0.heap[w.heap.size]? = some (.cells #[.int .i64 x.ser, .slice a1 n1 c1, .slice a2 n2 c2, .int .i64 x.frm, .int .i64 x.til, .int .i64 x.key.1, .int .u64 x.key.2.1, .int .i64 x.key.2.2, .bool x.ca, .int .i64 x.room, .int .i64 x.uses, .slice a3 n3 c3, .slice a4 n4 c4, .slice a5 n5 c5, .slice a6 n6 c6, .slice a7 n7 c7, .int .i64 x.need, .int .i64 x.nomap, .int .i64 x.noany, .slice a8 n8 c8, .slice a9 n9 c9] 34) := by rw [hw0]; exact heap_alloc_new w _
  have Y0 : Hid (_ = _) := hh0
  have l0 : w.heap.size < w0.heap.size := (Array.getElem?_eq_some_iff.1 hh0).1
  clear hh0
  have h0 : 0 ≤ lf ∧ lf ≤ 1048576 := ⟨hl0, hl1⟩
  clear hl0 hl1
  go_enter Tryz.func6, Tryz.ntmps6
  go_upto_region 1 with fail
  rw [← hw0]
  clear hw0
  have q1 : w0.cell? ⟨w.heap.size, 1, none⟩ = some (.slice a1 n1 c1) := (cell_of_row _ _ 1 _ 34 (0, 0) Y0.out).trans rfl
  go_wp2_with fail
  refine (szName_any a1 n1 c1 x.iss lf _ ((HK.out.kept B0.out).r1) h0.1 h0.2).mono ?_
  rintro e w1 ⟨r1, rfl, hr1, hb1⟩
  have B1 : Hid (Below w.heap.size w w1) := B0.out.trans (hb1.mono B0.out.size)
  have Y1 : Hid (w1.heap[w.heap.size]? = some (.cells #[.int .i64 x.ser, .slice a1 n1 c1, .slice a2 n2 c2, .int .i64 x.frm, .int .i64 x.til, .int .i64 x.key.1, .int .u64 x.key.2.1, .int .i64 x.key.2.2, .bool x.ca, .int .i64 x.room, .int .i64 x.uses, .slice a3 n3 c3, .slice a4 n4 c4, .slice a5 n5 c5, .slice a6 n6 c6, .slice a7 n7 c7, .int .i64 x.need, .int .i64 x.nomap, .int .i64 x.noany, .slice a8 n8 c8, .slice a9 n9 c9] 34)) := (hb1.block _ l0).trans Y0.out
  clear hb1
  have l1 : w.heap.size < w1.heap.size := (Array.getElem?_eq_some_iff.1 Y1.out).1
  clear q1
  by_cases hneg1 : r1 < 0
  · clear hr1
    go_wp2
    go_ret
    exact ⟨_, rfl, .inl (by decide), B1.out⟩
  have h1 : 0 ≤ r1 ∧ r1 ≤ 1048576 := by omega
  have HR1 : Hid (n1 ≤ 1048576 ∧ (∀ k, k < n1 → (x.iss.getD k default).val.size ≤ 1048576)) := by rcases hr1 with h | h; exact absurd h hneg1; exact h.2.2
  clear hr1
  have q2 : w1.cell? ⟨w.heap.size, 2, none⟩ = some (.slice a2 n2 c2) := (cell_of_row _ _ 2 _ 34 (0, 0) Y1.out).trans rfl
  go_wp2_with fail
  refine (szName_any a2 n2 c2 x.sub r1 _ ((HK.out.kept B1.out).r2) h1.1 h1.2).mono ?_
  rintro e w2 ⟨r2, rfl, hr2, hb2⟩
  have B2 : Hid (Below w.heap.size w w2) := B1.out.trans (hb2.mono B1.out.size)
  have Y2 : Hid (w2.heap[w.heap.size]? = some (.cells #[.int .i64 x.ser, .slice a1 n1 c1, .slice a2 n2 c2, .int .i64 x.frm, .int .i64 x.til, .int .i64 x.key.1, .int .u64 x.key.2.1, .int .i64 x.key.2.2, .bool x.ca, .int .i64 x.room, .int .i64 x.uses, .slice a3 n3 c3, .slice a4 n4 c4, .slice a5 n5 c5, .slice a6 n6 c6, .slice a7 n7 c7, .int .i64 x.need, .int .i64 x.nomap, .int .i64 x.noany, .slice a8 n8 c8, .slice a9 n9 c9] 34)) := (hb2.block _ l1).trans Y1.out
  clear hb2
  have l2 : w.heap.size < w2.heap.size := (Array.getElem?_eq_some_iff.1 Y2.out).1
  clear q2
  by_cases hneg2 : r2 < 0
  · clear hr2
    go_wp2
    go_ret
    exact ⟨_, rfl, .inl (by decide), B2.out⟩
  have h2 : 0 ≤ r2 ∧ r2 ≤ 1048576 := by omega
  have HR2 : Hid (n2 ≤ 1048576 ∧ (∀ k, k < n2 → (x.sub.getD k default).val.size ≤ 1048576)) := by rcases hr2 with h | h; exact absurd h hneg2; exact h.2.2
  clear hr2
  have q11 : w2.cell? ⟨w.heap.size, 11, none⟩ = some (.slice a3 n3 c3) := (cell_of_row _ _ 11 _ 34 (0, 0) Y2.out).trans rfl
  go_wp2_with fail
  refine (szGenNameS_any a3 n3 c3 x.nms r2 _ ((HK.out.kept B2.out).r3) h2.1 h2.2).mono ?_
  rintro e w3 ⟨r3, rfl, hr3, hb3⟩
  have B3 : Hid (Below w.heap.size w w3) := B2.out.trans (hb3.mono B2.out.size)
  have Y3 : Hid (w3.heap[w.heap.size]? = some (.cells #[.int .i64 x.ser, .slice a1 n1 c1, .slice a2 n2 c2, .int .i64 x.frm, .int .i64 x.til, .int .i64 x.key.1, .int .u64 x.key.2.1, .int .i64 x.key.2.2, .bool x.ca, .int .i64 x.room, .int .i64 x.uses, .slice a3 n3 c3, .slice a4 n4 c4, .slice a5 n5 c5, .slice a6 n6 c6, .slice a7 n7 c7, .int .i64 x.need, .int .i64 x.nomap, .int .i64 x.noany, .slice a8 n8 c8, .slice a9 n9 c9] 34)) := (hb3.block _ l2).trans Y2.out
  clear hb3
  have l3 : w.heap.size < w3.heap.size := (Array.getElem?_eq_some_iff.1 Y3.out).1
  clear q11
  by_cases hneg3 : r3 < 0
  · clear hr3
    go_wp2
    go_ret
    exact ⟨_, rfl, .inl (by decide), B3.out⟩
  have h3 : 0 ≤ r3 ∧ r3 ≤ 1048576 := by omega
  have HR3 : Hid (n3 ≤ 1048576 ∧ (∀ k, k < n3 → GeOk (x.nms.getD k default))) := by rcases hr3 with h | h; exact absurd h hneg3; exact h.2.2
  clear hr3
  have q12 : w3.cell? ⟨w.heap.size, 12, none⟩ = some (.slice a4 n4 c4) := (cell_of_row _ _ 12 _ 34 (0, 0) Y3.out).trans rfl
  go_wp2_with fail
  refine (szGenNameS_any a4 n4 c4 x.per r3 _ ((HK.out.kept B3.out).r4) h3.1 h3.2).mono ?_
  rintro e w4 ⟨r4, rfl, hr4, hb4⟩
  have B4 : Hid (Below w.heap.size w w4) := B3.out.trans (hb4.mono B3.out.size)
  have Y4 : Hid (w4.heap[w.heap.size]? = some (.cells #[.int .i64 x.ser, .slice a1 n1 c1, .slice a2 n2 c2, .int .i64 x.frm, .int .i64 x.til, .int .i64 x.key.1, .int .u64 x.key.2.1, .int .i64 x.key.2.2, .bool x.ca, .int .i64 x.room, .int .i64 x.uses, .slice a3 n3 c3, .slice a4 n4 c4, .slice a5 n5 c5, .slice a6 n6 c6, .slice a7 n7 c7, .int .i64 x.need, .int .i64 x.nomap, .int .i64 x.noany, .slice a8 n8 c8, .slice a9 n9 c9] 34)) := (hb4.block _ l3).trans Y3.out
  clear hb4
  have l4 : w.heap.size < w4.heap.size := (Array.getElem?_eq_some_iff.1 Y4.out).1
  clear q12
  by_cases hneg4 : r4 < 0
  · clear hr4
    go_wp2
    go_ret
    exact ⟨_, rfl, .inl (by decide), B4.out⟩
  have h4 : 0 ≤ r4 ∧ r4 ≤ 1048576 := by omega
  have HR4 : Hid (n4 ≤ 1048576 ∧ (∀ k, k < n4 → GeOk (x.per.getD k default))) := by rcases hr4 with h | h; exact absurd h hneg4; exact h.2.2
  clear hr4
  have q13 : w4.cell? ⟨w.heap.size, 13, none⟩ = some (.slice a5 n5 c5) := (cell_of_row _ _ 13 _ 34 (0, 0) Y4.out).trans rfl
  go_wp2_with fail
  refine (szGenNameS_any a5 n5 c5 x.den r4 _ ((HK.out.kept B4.out).r5) h4.1 h4.2).mono ?_
  rintro e w5 ⟨r5, rfl, hr5, hb5⟩
  have B5 : Hid (Below w.heap.size w w5) := B4.out.trans (hb5.mono B4.out.size)
  have Y5 : Hid (w5.heap[w.heap.size]? = some (.cells #[.int .i64 x.ser, .slice a1 n1 c1, .slice a2 n2 c2, .int .i64 x.frm, .int .i64 x.til, .int .i64 x.key.1, .int .u64 x.key.2.1, .int .i64 x.key.2.2, .bool x.ca, .int .i64 x.room, .int .i64 x.uses, .slice a3 n3 c3, .slice a4 n4 c4, .slice a5 n5 c5, .slice a6 n6 c6, .slice a7 n7 c7, .int .i64 x.need, .int .i64 x.nomap, .int .i64 x.noany, .slice a8 n8 c8, .slice a9 n9 c9] 34)) := (hb5.block _ l4).trans Y4.out
  clear hb5
  have l5 : w.heap.size < w5.heap.size := (Array.getElem?_eq_some_iff.1 Y5.out).1
  clear q13
  by_cases hneg5 : r5 < 0
  · clear hr5
    go_wp2
    go_ret
    exact ⟨_, rfl, .inl (by decide), B5.out⟩
  have h5 : 0 ≤ r5 ∧ r5 ≤ 1048576 := by omega
  have HR5 : Hid (n5 ≤ 1048576 ∧ (∀ k, k < n5 → GeOk (x.den.getD k default))) := by rcases hr5 with h | h; exact absurd h hneg5; exact h.2.2
  clear hr5
  have q14 : w5.cell? ⟨w.heap.size, 14, none⟩ = some (.slice a6 n6 c6) := (cell_of_row _ _ 14 _ 34 (0, 0) Y5.out).trans rfl
  go_wp2_with fail
  refine (szInt64S_q a6 n6 c6 r5 _ HK.out.m6 h5.1 h5.2).mono ?_
  rintro e w6 ⟨r6, rfl, hr6, hw6⟩
  subst hw6
  have B6 : Hid (Below w.heap.size w w5) := B5.out
  have Y6 : Hid (w5.heap[w.heap.size]? = some (.cells #[.int .i64 x.ser, .slice a1 n1 c1, .slice a2 n2 c2, .int .i64 x.frm, .int .i64 x.til, .int .i64 x.key.1, .int .u64 x.key.2.1, .int .i64 x.key.2.2, .bool x.ca, .int .i64 x.room, .int .i64 x.uses, .slice a3 n3 c3, .slice a4 n4 c4, .slice a5 n5 c5, .slice a6 n6 c6, .slice a7 n7 c7, .int .i64 x.need, .int .i64 x.nomap, .int .i64 x.noany, .slice a8 n8 c8, .slice a9 n9 c9] 34)) := Y5.out
  have l6 : w.heap.size < w5.heap.size := (Array.getElem?_eq_some_iff.1 Y6.out).1
  clear q14
  by_cases hneg6 : r6 < 0
  · clear hr6
    go_wp2
    go_ret
    exact ⟨_, rfl, .inl (by decide), B6.out⟩
  have h6 : 0 ≤ r6 ∧ r6 ≤ 1048576 := by omega
  have HR6 : Hid (n6 ≤ 1048576) := by rcases hr6 with h | h; exact absurd h hneg6; exact h.2.2
  clear hr6
  have q15 : w5.cell? ⟨w.heap.size, 15, none⟩ = some (.slice a7 n7 c7) := (cell_of_row _ _ 15 _ 34 (0, 0) Y6.out).trans rfl
  go_wp2_with fail
  refine (szPolMapS_any a7 n7 c7 r6 _ (HK.out.r7).max h6.1 h6.2).mono ?_
  rintro e w7 ⟨r7, rfl, hr7, hw7⟩
  subst hw7
  have B7 : Hid (Below w.heap.size w w5) := B6.out
  have Y7 : Hid (w5.heap[w.heap.size]? = some (.cells #[.int .i64 x.ser, .slice a1 n1 c1, .slice a2 n2 c2, .int .i64 x.frm, .int .i64 x.til, .int .i64 x.key.1, .int .u64 x.key.2.1, .int .i64 x.key.2.2, .bool x.ca, .int .i64 x.room, .int .i64 x.uses, .slice a3 n3 c3, .slice a4 n4 c4, .slice a5 n5 c5, .slice a6 n6 c6, .slice a7 n7 c7, .int .i64 x.need, .int .i64 x.nomap, .int .i64 x.noany, .slice a8 n8 c8, .slice a9 n9 c9] 34)) := Y6.out
  have l7 : w.heap.size < w5.heap.size := (Array.getElem?_eq_some_iff.1 Y7.out).1
  clear q15
  by_cases hneg7 : r7 < 0
  · clear hr7
    go_wp2
    go_ret
    exact ⟨_, rfl, .inl (by decide), B7.out⟩
  have h7 : 0 ≤ r7 ∧ r7 ≤ 1048576 := by omega
  have HR7 : Hid (n7 ≤ 1048576) := by rcases hr7 with h | h; exact absurd h hneg7; exact h.2.2
  clear hr7
  have q19 : w5.cell? ⟨w.heap.size, 19, none⟩ = some (.slice a8 n8 c8) := (cell_of_row _ _ 19 _ 34 (0, 0) Y7.out).trans rfl
  go_wp2_with fail
  refine (szExtS_k a8 n8 c8 x.ext r7 _ ((HK.out.kept B7.out).r8) h7.1 h7.2).mono ?_
  rintro e w8 ⟨r8, rfl, hr8, hb8⟩
  have B8 : Hid (Below w.heap.size w w8) := B7.out.trans (hb8.mono B7.out.size)
  have Y8 : Hid (w8.heap[w.heap.size]? = some (.cells #[.int .i64 x.ser, .slice a1 n1 c1, .slice a2 n2 c2, .int .i64 x.frm, .int .i64 x.til, .int .i64 x.key.1, .int .u64 x.key.2.1, .int .i64 x.key.2.2, .bool x.ca, .int .i64 x.room, .int .i64 x.uses, .slice a3 n3 c3, .slice a4 n4 c4, .slice a5 n5 c5, .slice a6 n6 c6, .slice a7 n7 c7, .int .i64 x.need, .int .i64 x.nomap, .int .i64 x.noany, .slice a8 n8 c8, .slice a9 n9 c9] 34)) := (hb8.block _ l7).trans Y7.out
  clear hb8
  have l8 : w.heap.size < w8.heap.size := (Array.getElem?_eq_some_iff.1 Y8.out).1
  clear q19
  by_cases hneg8 : r8 < 0
  · clear hr8
    go_wp2
    go_ret
    exact ⟨_, rfl, .inl (by decide), B8.out⟩
  have h8 : 0 ≤ r8 ∧ r8 ≤ 1048576 := by omega
  have HR8 : Hid (n8 ≤ 1048576 ∧ (∀ k, k < n8 → XPZ (x.ext.getD k default))) := by rcases hr8 with h | h; exact absurd h hneg8; exact h.2.2
  clear hr8
  have q20 : w8.cell? ⟨w.heap.size, 20, none⟩ = some (.slice a9 n9 c9) := (cell_of_row _ _ 20 _ 34 (0, 0) Y8.out).trans rfl
  go_wp2_with fail
  refine (szByteS_k a9 n9 c9 r8 _ h8.1 h8.2 HK.out.m9).mono ?_
  rintro e w9 ⟨r9, rfl, hr9, hw9⟩
  subst hw9
  have B9 : Hid (Below w.heap.size w w8) := B8.out
  have Y9 : Hid (w8.heap[w.heap.size]? = some (.cells #[.int .i64 x.ser, .slice a1 n1 c1, .slice a2 n2 c2, .int .i64 x.frm, .int .i64 x.til, .int .i64 x.key.1, .int .u64 x.key.2.1, .int .i64 x.key.2.2, .bool x.ca, .int .i64 x.room, .int .i64 x.uses, .slice a3 n3 c3, .slice a4 n4 c4, .slice a5 n5 c5, .slice a6 n6 c6, .slice a7 n7 c7, .int .i64 x.need, .int .i64 x.nomap, .int .i64 x.noany, .slice a8 n8 c8, .slice a9 n9 c9] 34)) := Y8.out
  have l9 : w.heap.size < w8.heap.size := (Array.getElem?_eq_some_iff.1 Y9.out).1
  clear q20
  by_cases hneg9 : r9 < 0
  · clear hr9
    go_wp2
    go_ret
    exact ⟨_, rfl, .inl (by decide), B9.out⟩
  have h9 : 0 ≤ r9 ∧ r9 ≤ 1048576 := by omega
  have HR9 : Hid (n9 ≤ 1048576) := by rcases hr9 with h | h; exact absurd h hneg9; exact h.2.2
  clear hr9
  go_wp2
  go_ret
  exact ⟨_, rfl, .inr ⟨h9.1, h9.2, HIF.out.2 ⟨HR1.out, HR2.out, HR3.out, HR4.out, HR5.out, HR6.out, HR7.out, HR8.out, HR9.out⟩⟩, B9.out⟩

end Go.Proofs.YtkpabanjlhlmfaaGreatDoor

set_option linter.unusedVariables false
namespace Go.Proofs.YtkpabanjlhlmfaaGreatDoor
open Go.RowKit

set_option maxRecDepth 10000 in
set_option maxHeartbeats 4000000 in
theorem eqCert_k (s t : CES) (x : CE) (w : World) (h : CER w s x) (h2 : CER w t x) (hz : CEZ x) :
    Calls Tryz.prog 10 #[CEv s x, CEv t x] w fun e w' => e = .returned (.bool true) ∧ Below w.heap.size w w' := by
  have hzn := h.zn.1 hz
  obtain ⟨a1, n1, c1, a2, n2, c2, a3, n3, c3, a4, n4, c4, a5, n5, c5, a6, n6, c6, a7, n7, c7, a8, n8, c8, a9, n9, c9⟩ := s
  obtain ⟨b1, m1, d1, b2, m2, d2, b3, m3, d3, b4, m4, d4, b5, m5, d5, b6, m6, d6, b7, m7, d7, b8, m8, d8, b9, m9, d9⟩ := t
  obtain rfl : m1 = n1 := (h2.r1.len).symm.trans h.r1.len
  obtain rfl : m2 = n2 := (h2.r2.len).symm.trans h.r2.len
  obtain rfl : m3 = n3 := (h2.r3.len).symm.trans h.r3.len
  obtain rfl : m4 = n4 := (h2.r4.len).symm.trans h.r4.len
  obtain rfl : m5 = n5 := (h2.r5.len).symm.trans h.r5.len
  obtain rfl : m6 = n6 := (h2.r6.len).symm.trans h.r6.len
  obtain rfl : m7 = n7 := (h2.r7.len).symm.trans h.r7.len
  obtain rfl : m8 = n8 := (h2.r8.len).symm.trans h.r8.len
  obtain rfl : m9 = n9 := (h2.r9.len).symm.trans h.r9.len
  have H1 : Hid (CER w ⟨a1, m1, c1, a2, m2, c2, a3, m3, c3, a4, m4, c4, a5, m5, c5, a6, m6, c6, a7, m7, c7, a8, m8, c8, a9, m9, c9⟩ x) := h
  have H2 : Hid (CER w ⟨b1, m1, d1, b2, m2, d2, b3, m3, d3, b4, m4, d4, b5, m5, d5, b6, m6, d6, b7, m7, d7, b8, m8, d8, b9, m9, d9⟩ x) := h2
  have HZ : Hid ((m1 ≤ 1048576 ∧ (∀ k, k < m1 → (x.iss.getD k default).val.size ≤ 1048576)) ∧ (m2 ≤ 1048576 ∧ (∀ k, k < m2 → (x.sub.getD k default).val.size ≤ 1048576)) ∧ (m3 ≤ 1048576 ∧ (∀ k, k < m3 → GeOk (x.nms.getD k default))) ∧ (m4 ≤ 1048576 ∧ (∀ k, k < m4 → GeOk (x.per.getD k default))) ∧ (m5 ≤ 1048576 ∧ (∀ k, k < m5 → GeOk (x.den.getD k default))) ∧ (m6 ≤ 1048576) ∧ (m7 ≤ 1048576) ∧ (m8 ≤ 1048576 ∧ (∀ k, k < m8 → XPZ (x.ext.getD k default))) ∧ (m9 ≤ 1048576)) := hzn
  clear h h2 hz hzn
  show Calls Tryz.prog 10 #[.agg #[.int .i64 x.ser, .slice a1 m1 c1, .slice a2 m2 c2, .int .i64 x.frm, .int .i64 x.til, .int .i64 x.key.1, .int .u64 x.key.2.1, .int .i64 x.key.2.2, .bool x.ca, .int .i64 x.room, .int .i64 x.uses, .slice a3 m3 c3, .slice a4 m4 c4, .slice a5 m5 c5, .slice a6 m6 c6, .slice a7 m7 c7, .int .i64 x.need, .int .i64 x.nomap, .int .i64 x.noany, .slice a8 m8 c8, .slice a9 m9 c9], .agg #[.int .i64 x.ser, .slice b1 m1 d1, .slice b2 m2 d2, .int .i64 x.frm, .int .i64 x.til, .int .i64 x.key.1, .int .u64 x.key.2.1, .int .i64 x.key.2.2, .bool x.ca, .int .i64 x.room, .int .i64 x.uses, .slice b3 m3 d3, .slice b4 m4 d4, .slice b5 m5 d5, .slice b6 m6 d6, .slice b7 m7 d7, .int .i64 x.need, .int .i64 x.nomap, .int .i64 x.noany, .slice b8 m8 d8, .slice b9 m9 d9]] w _
  obtain ⟨w0, hW0⟩ : ∃ W0, W0 = ((w.alloc (.cells #[.int .i64 x.ser, .slice a1 m1 c1, .slice a2 m2 c2, .int .i64 x.frm, .int .i64 x.til, .int .i64 x.key.1, .int .u64 x.key.2.1, .int .i64 x.key.2.2, .bool x.ca, .int .i64 x.room, .int .i64 x.uses, .slice a3 m3 c3, .slice a4 m4 c4, .slice a5 m5 c5, .slice a6 m6 c6, .slice a7 m7 c7, .int .i64 x.need, .int .i64 x.nomap, .int .i64 x.noany, .slice a8 m8 c8, .slice a9 m9 c9] 45)).alloc (.cells #[.int .i64 x.ser, .slice b1 m1 d1, .slice b2 m2 d2, .int .i64 x.frm, .int .i64 x.til, .int .i64 x.key.1, .int .u64 x.key.2.1, .int .i64 x.key.2.2, .bool x.ca, .int .i64 x.room, .int .i64 x.uses, .slice b3 m3 d3, .slice b4 m4 d4, .slice b5 m5 d5, .slice b6 m6 d6, .slice b7 m7 d7, .int .i64 x.need, .int .i64 x.nomap, .int .i64 x.noany, .slice b8 m8 d8, .slice b9 m9 d9] 45)) := ⟨_, rfl⟩
  have HB0 : Hid (Below w.heap.size w w0) := by show Below w.heap.size w w0; rw [hW0]; exact ((Below.refl _ _).alloc (Nat.le_refl _) _).alloc (by simp) _
  have y := two_blocks w (.cells #[.int .i64 x.ser, .slice a1 m1 c1, .slice a2 m2 c2, .int .i64 x.frm, .int .i64 x.til, .int .i64 x.key.1, .int .u64 x.key.2.1, .int .i64 x.key.2.2, .bool x.ca, .int .i64 x.room, .int .i64 x.uses, .slice a3 m3 c3, .slice a4 m4 c4, .slice a5 m5 c5, .slice a6 m6 c6, .slice a7 m7 c7, .int .i64 x.need, .int .i64 x.nomap, .int .i64 x.noany, .slice a8 m8 c8, .slice a9 m9 c9] 45) (.cells #[.int .i64 x.ser, .slice b1 m1 d1, .slice b2 m2 d2, .int .i64 x.frm, .int .i64 x.til, .int .i64 x.key.1, .int .u64 x.key.2.1, .int .i64 x.key.2.2, .bool x.ca, .int .i64 x.room, .int .i64 x.uses, .slice b3 m3 d3, .slice b4 m4 d4, .slice b5 m5 d5, .slice b6 m6 d6, .slice b7 m7 d7, .int .i64 x.need, .int .i64 x.nomap, .int .i64 x.noany, .slice b8 m8 d8, .slice b9 m9 d9] 45)
  rw [← hW0] at y
  have Y0 : Hid (w0.heap[w.heap.size]? = some (.cells #[.int .i64 x.ser, .slice a1 m1 c1, .slice a2 m2 c2, .int .i64 x.frm, .int .i64 x.til, .int .i64 x.key.1, .int .u64 x.key.2.1, .int .i64 x.key.2.2, .bool x.ca, .int .i64 x.room, .int .i64 x.uses, .slice a3 m3 c3, .slice a4 m4 c4, .slice a5 m5 c5, .slice a6 m6 c6, .slice a7 m7 c7, .int .i64 x.need, .int .i64 x.nomap, .int .i64 x.noany, .slice a8 m8 c8, .slice a9 m9 c9] 45)) := y.1
  have Y1 : Hid (w0.heap[w.heap.size + 1]? = some (.cells #[.int .i64 x.ser, .slice b1 m1 d1, .slice b2 m2 d2, .int .i64 x.frm, .int .i64 x.til, .int .i64 x.key.1, .int .u64 x.key.2.1, .int .i64 x.key.2.2, .bool x.ca, .int .i64 x.room, .int .i64 x.uses, .slice b3 m3 d3, .slice b4 m4 d4, .slice b5 m5 d5, .slice b6 m6 d6, .slice b7 m7 d7, .int .i64 x.need, .int .i64 x.nomap, .int .i64 x.noany, .slice b8 m8 d8, .slice b9 m9 d9] 45)) := y.2
  have l0 : w.heap.size + 1 < w0.heap.size := (Array.getElem?_eq_some_iff.1 y.2).1
  clear y
  have t_ser : (x.ser != x.ser) = false := by simp
  have t_frm : (x.frm != x.frm) = false := by simp
  have t_til : (x.til != x.til) = false := by simp
  have t_ca : (x.ca != x.ca) = false := by simp
  have t_room : (x.room != x.room) = false := by simp
  have t_uses : (x.uses != x.uses) = false := by simp
  have t_need : (x.need != x.need) = false := by simp
  have t_nomap : (x.nomap != x.nomap) = false := by simp
  have t_noany : (x.noany != x.noany) = false := by simp
  go_enter Tryz.func10, Tryz.ntmps10
  go_upto_region 1 with fail
  rw [← hW0]
  clear hW0
  have p0 : w0.cell? ⟨w.heap.size, 0, none⟩ = some (.int .i64 x.ser) := (cell_of_row _ _ 0 _ 45 (0, 0) Y0.out).trans rfl
  have q0 : w0.cell? ⟨w.heap.size + 1, 0, none⟩ = some (.int .i64 x.ser) := (cell_of_row _ _ 0 _ 45 (0, 0) Y1.out).trans rfl
  have p1 : w0.cell? ⟨w.heap.size, 1, none⟩ = some (.slice a1 m1 c1) := (cell_of_row _ _ 1 _ 45 (0, 0) Y0.out).trans rfl
  have q1 : w0.cell? ⟨w.heap.size + 1, 1, none⟩ = some (.slice b1 m1 d1) := (cell_of_row _ _ 1 _ 45 (0, 0) Y1.out).trans rfl
  go_wp2_with fail
  refine (eqName_same a1 b1 m1 c1 d1 x.iss _ ((H1.out.kept HB0.out).r1) ((H2.out.kept HB0.out).r1)).mono ?_
  rintro e w1 ⟨rfl, hb1⟩
  replace Y0 : Hid (w1.heap[w.heap.size]? = some (.cells #[.int .i64 x.ser, .slice a1 m1 c1, .slice a2 m2 c2, .int .i64 x.frm, .int .i64 x.til, .int .i64 x.key.1, .int .u64 x.key.2.1, .int .i64 x.key.2.2, .bool x.ca, .int .i64 x.room, .int .i64 x.uses, .slice a3 m3 c3, .slice a4 m4 c4, .slice a5 m5 c5, .slice a6 m6 c6, .slice a7 m7 c7, .int .i64 x.need, .int .i64 x.nomap, .int .i64 x.noany, .slice a8 m8 c8, .slice a9 m9 c9] 45)) := (hb1.block _ (by omega)).trans Y0.out
  replace Y1 : Hid (w1.heap[w.heap.size + 1]? = some (.cells #[.int .i64 x.ser, .slice b1 m1 d1, .slice b2 m2 d2, .int .i64 x.frm, .int .i64 x.til, .int .i64 x.key.1, .int .u64 x.key.2.1, .int .i64 x.key.2.2, .bool x.ca, .int .i64 x.room, .int .i64 x.uses, .slice b3 m3 d3, .slice b4 m4 d4, .slice b5 m5 d5, .slice b6 m6 d6, .slice b7 m7 d7, .int .i64 x.need, .int .i64 x.nomap, .int .i64 x.noany, .slice b8 m8 d8, .slice b9 m9 d9] 45)) := (hb1.block _ l0).trans Y1.out
  have HB1 : Hid (Below w.heap.size w w1) := HB0.out.trans (hb1.mono HB0.out.size)
  have l1 : w.heap.size + 1 < w1.heap.size := (Array.getElem?_eq_some_iff.1 Y1.out).1
  clear p0 q0 p1 q1 hb1 HB0 l0
  have p2 : w1.cell? ⟨w.heap.size, 2, none⟩ = some (.slice a2 m2 c2) := (cell_of_row _ _ 2 _ 45 (0, 0) Y0.out).trans rfl
  have q2 : w1.cell? ⟨w.heap.size + 1, 2, none⟩ = some (.slice b2 m2 d2) := (cell_of_row _ _ 2 _ 45 (0, 0) Y1.out).trans rfl
  go_wp2_with fail
  refine (eqName_same a2 b2 m2 c2 d2 x.sub _ ((H1.out.kept HB1.out).r2) ((H2.out.kept HB1.out).r2)).mono ?_
  rintro e w2 ⟨rfl, hb2⟩
  replace Y0 : Hid (w2.heap[w.heap.size]? = some (.cells #[.int .i64 x.ser, .slice a1 m1 c1, .slice a2 m2 c2, .int .i64 x.frm, .int .i64 x.til, .int .i64 x.key.1, .int .u64 x.key.2.1, .int .i64 x.key.2.2, .bool x.ca, .int .i64 x.room, .int .i64 x.uses, .slice a3 m3 c3, .slice a4 m4 c4, .slice a5 m5 c5, .slice a6 m6 c6, .slice a7 m7 c7, .int .i64 x.need, .int .i64 x.nomap, .int .i64 x.noany, .slice a8 m8 c8, .slice a9 m9 c9] 45)) := (hb2.block _ (by omega)).trans Y0.out
  replace Y1 : Hid (w2.heap[w.heap.size + 1]? = some (.cells #[.int .i64 x.ser, .slice b1 m1 d1, .slice b2 m2 d2, .int .i64 x.frm, .int .i64 x.til, .int .i64 x.key.1, .int .u64 x.key.2.1, .int .i64 x.key.2.2, .bool x.ca, .int .i64 x.room, .int .i64 x.uses, .slice b3 m3 d3, .slice b4 m4 d4, .slice b5 m5 d5, .slice b6 m6 d6, .slice b7 m7 d7, .int .i64 x.need, .int .i64 x.nomap, .int .i64 x.noany, .slice b8 m8 d8, .slice b9 m9 d9] 45)) := (hb2.block _ l1).trans Y1.out
  have HB2 : Hid (Below w.heap.size w w2) := HB1.out.trans (hb2.mono HB1.out.size)
  have l2 : w.heap.size + 1 < w2.heap.size := (Array.getElem?_eq_some_iff.1 Y1.out).1
  clear p2 q2 hb2 HB1 l1
  have p3 : w2.cell? ⟨w.heap.size, 3, none⟩ = some (.int .i64 x.frm) := (cell_of_row _ _ 3 _ 45 (0, 0) Y0.out).trans rfl
  have q3 : w2.cell? ⟨w.heap.size + 1, 3, none⟩ = some (.int .i64 x.frm) := (cell_of_row _ _ 3 _ 45 (0, 0) Y1.out).trans rfl
  have p4 : w2.cell? ⟨w.heap.size, 4, none⟩ = some (.int .i64 x.til) := (cell_of_row _ _ 4 _ 45 (0, 0) Y0.out).trans rfl
  have q4 : w2.cell? ⟨w.heap.size + 1, 4, none⟩ = some (.int .i64 x.til) := (cell_of_row _ _ 4 _ 45 (0, 0) Y1.out).trans rfl
  have p5 : w2.cell? ⟨w.heap.size, 5, none⟩ = some (.int .i64 x.key.1) := (cell_of_row _ _ 5 _ 45 (0, 0) Y0.out).trans rfl
  have q5 : w2.cell? ⟨w.heap.size + 1, 5, none⟩ = some (.int .i64 x.key.1) := (cell_of_row _ _ 5 _ 45 (0, 0) Y1.out).trans rfl
  have p6 : w2.cell? ⟨w.heap.size, 6, none⟩ = some (.int .u64 x.key.2.1) := (cell_of_row _ _ 6 _ 45 (0, 0) Y0.out).trans rfl
  have q6 : w2.cell? ⟨w.heap.size + 1, 6, none⟩ = some (.int .u64 x.key.2.1) := (cell_of_row _ _ 6 _ 45 (0, 0) Y1.out).trans rfl
  have p7 : w2.cell? ⟨w.heap.size, 7, none⟩ = some (.int .i64 x.key.2.2) := (cell_of_row _ _ 7 _ 45 (0, 0) Y0.out).trans rfl
  have q7 : w2.cell? ⟨w.heap.size + 1, 7, none⟩ = some (.int .i64 x.key.2.2) := (cell_of_row _ _ 7 _ 45 (0, 0) Y1.out).trans rfl
  go_wp2_with fail
  refine (eqPub_one x.key.1 x.key.2.1 x.key.2.2 _).mono ?_
  rintro e w3 ⟨rfl, hb3⟩
  replace Y0 : Hid (w3.heap[w.heap.size]? = some (.cells #[.int .i64 x.ser, .slice a1 m1 c1, .slice a2 m2 c2, .int .i64 x.frm, .int .i64 x.til, .int .i64 x.key.1, .int .u64 x.key.2.1, .int .i64 x.key.2.2, .bool x.ca, .int .i64 x.room, .int .i64 x.uses, .slice a3 m3 c3, .slice a4 m4 c4, .slice a5 m5 c5, .slice a6 m6 c6, .slice a7 m7 c7, .int .i64 x.need, .int .i64 x.nomap, .int .i64 x.noany, .slice a8 m8 c8, .slice a9 m9 c9] 45)) := (hb3.block _ (by omega)).trans Y0.out
  replace Y1 : Hid (w3.heap[w.heap.size + 1]? = some (.cells #[.int .i64 x.ser, .slice b1 m1 d1, .slice b2 m2 d2, .int .i64 x.frm, .int .i64 x.til, .int .i64 x.key.1, .int .u64 x.key.2.1, .int .i64 x.key.2.2, .bool x.ca, .int .i64 x.room, .int .i64 x.uses, .slice b3 m3 d3, .slice b4 m4 d4, .slice b5 m5 d5, .slice b6 m6 d6, .slice b7 m7 d7, .int .i64 x.need, .int .i64 x.nomap, .int .i64 x.noany, .slice b8 m8 d8, .slice b9 m9 d9] 45)) := (hb3.block _ l2).trans Y1.out
  have HB3 : Hid (Below w.heap.size w w3) := HB2.out.trans (hb3.mono HB2.out.size)
  have l3 : w.heap.size + 1 < w3.heap.size := (Array.getElem?_eq_some_iff.1 Y1.out).1
  clear p3 q3 p4 q4 p5 q5 p6 q6 p7 q7 hb3 HB2 l2
  have p8 : w3.cell? ⟨w.heap.size, 8, none⟩ = some (.bool x.ca) := (cell_of_row _ _ 8 _ 45 (0, 0) Y0.out).trans rfl
  have q8 : w3.cell? ⟨w.heap.size + 1, 8, none⟩ = some (.bool x.ca) := (cell_of_row _ _ 8 _ 45 (0, 0) Y1.out).trans rfl
  have p9 : w3.cell? ⟨w.heap.size, 9, none⟩ = some (.int .i64 x.room) := (cell_of_row _ _ 9 _ 45 (0, 0) Y0.out).trans rfl
  have q9 : w3.cell? ⟨w.heap.size + 1, 9, none⟩ = some (.int .i64 x.room) := (cell_of_row _ _ 9 _ 45 (0, 0) Y1.out).trans rfl
  have p10 : w3.cell? ⟨w.heap.size, 10, none⟩ = some (.int .i64 x.uses) := (cell_of_row _ _ 10 _ 45 (0, 0) Y0.out).trans rfl
  have q10 : w3.cell? ⟨w.heap.size + 1, 10, none⟩ = some (.int .i64 x.uses) := (cell_of_row _ _ 10 _ 45 (0, 0) Y1.out).trans rfl
  have p11 : w3.cell? ⟨w.heap.size, 11, none⟩ = some (.slice a3 m3 c3) := (cell_of_row _ _ 11 _ 45 (0, 0) Y0.out).trans rfl
  have q11 : w3.cell? ⟨w.heap.size + 1, 11, none⟩ = some (.slice b3 m3 d3) := (cell_of_row _ _ 11 _ 45 (0, 0) Y1.out).trans rfl
  go_wp2_with fail
  refine (eqGenNameS_same a3 b3 m3 c3 d3 x.nms _ ((H1.out.kept HB3.out).r3) ((H2.out.kept HB3.out).r3)).mono ?_
  rintro e w4 ⟨rfl, hb4⟩
  replace Y0 : Hid (w4.heap[w.heap.size]? = some (.cells #[.int .i64 x.ser, .slice a1 m1 c1, .slice a2 m2 c2, .int .i64 x.frm, .int .i64 x.til, .int .i64 x.key.1, .int .u64 x.key.2.1, .int .i64 x.key.2.2, .bool x.ca, .int .i64 x.room, .int .i64 x.uses, .slice a3 m3 c3, .slice a4 m4 c4, .slice a5 m5 c5, .slice a6 m6 c6, .slice a7 m7 c7, .int .i64 x.need, .int .i64 x.nomap, .int .i64 x.noany, .slice a8 m8 c8, .slice a9 m9 c9] 45)) := (hb4.block _ (by omega)).trans Y0.out
  replace Y1 : Hid (w4.heap[w.heap.size + 1]? = some (.cells #[.int .i64 x.ser, .slice b1 m1 d1, .slice b2 m2 d2, .int .i64 x.frm, .int .i64 x.til, .int .i64 x.key.1, .int .u64 x.key.2.1, .int .i64 x.key.2.2, .bool x.ca, .int .i64 x.room, .int .i64 x.uses, .slice b3 m3 d3, .slice b4 m4 d4, .slice b5 m5 d5, .slice b6 m6 d6, .slice b7 m7 d7, .int .i64 x.need, .int .i64 x.nomap, .int .i64 x.noany, .slice b8 m8 d8, .slice b9 m9 d9] 45)) := (hb4.block _ l3).trans Y1.out
  have HB4 : Hid (Below w.heap.size w w4) := HB3.out.trans (hb4.mono HB3.out.size)
  have l4 : w.heap.size + 1 < w4.heap.size := (Array.getElem?_eq_some_iff.1 Y1.out).1
  clear p8 q8 p9 q9 p10 q10 p11 q11 hb4 HB3 l3
  have p12 : w4.cell? ⟨w.heap.size, 12, none⟩ = some (.slice a4 m4 c4) := (cell_of_row _ _ 12 _ 45 (0, 0) Y0.out).trans rfl
  have q12 : w4.cell? ⟨w.heap.size + 1, 12, none⟩ = some (.slice b4 m4 d4) := (cell_of_row _ _ 12 _ 45 (0, 0) Y1.out).trans rfl
  go_wp2_with fail
  refine (eqGenNameS_same a4 b4 m4 c4 d4 x.per _ ((H1.out.kept HB4.out).r4) ((H2.out.kept HB4.out).r4)).mono ?_
  rintro e w5 ⟨rfl, hb5⟩
  replace Y0 : Hid (w5.heap[w.heap.size]? = some (.cells #[.int .i64 x.ser, .slice a1 m1 c1, .slice a2 m2 c2, .int .i64 x.frm, .int .i64 x.til, .int .i64 x.key.1, .int .u64 x.key.2.1, .int .i64 x.key.2.2, .bool x.ca, .int .i64 x.room, .int .i64 x.uses, .slice a3 m3 c3, .slice a4 m4 c4, .slice a5 m5 c5, .slice a6 m6 c6, .slice a7 m7 c7, .int .i64 x.need, .int .i64 x.nomap, .int .i64 x.noany, .slice a8 m8 c8, .slice a9 m9 c9] 45)) := (hb5.block _ (by omega)).trans Y0.out
  replace Y1 : Hid (w5.heap[w.heap.size + 1]? = some (.cells #[.int .i64 x.ser, .slice b1 m1 d1, .slice b2 m2 d2, .int .i64 x.frm, .int .i64 x.til, .int .i64 x.key.1, .int .u64 x.key.2.1, .int .i64 x.key.2.2, .bool x.ca, .int .i64 x.room, .int .i64 x.uses, .slice b3 m3 d3, .slice b4 m4 d4, .slice b5 m5 d5, .slice b6 m6 d6, .slice b7 m7 d7, .int .i64 x.need, .int .i64 x.nomap, .int .i64 x.noany, .slice b8 m8 d8, .slice b9 m9 d9] 45)) := (hb5.block _ l4).trans Y1.out
  have HB5 : Hid (Below w.heap.size w w5) := HB4.out.trans (hb5.mono HB4.out.size)
  have l5 : w.heap.size + 1 < w5.heap.size := (Array.getElem?_eq_some_iff.1 Y1.out).1
  clear p12 q12 hb5 HB4 l4
  have p13 : w5.cell? ⟨w.heap.size, 13, none⟩ = some (.slice a5 m5 c5) := (cell_of_row _ _ 13 _ 45 (0, 0) Y0.out).trans rfl
  have q13 : w5.cell? ⟨w.heap.size + 1, 13, none⟩ = some (.slice b5 m5 d5) := (cell_of_row _ _ 13 _ 45 (0, 0) Y1.out).trans rfl
  go_wp2_with fail
  refine (eqGenNameS_same a5 b5 m5 c5 d5 x.den _ ((H1.out.kept HB5.out).r5) ((H2.out.kept HB5.out).r5)).mono ?_
  rintro e w6 ⟨rfl, hb6⟩
  replace Y0 : Hid (w6.heap[w.heap.size]? = some (.cells #[.int .i64 x.ser, .slice a1 m1 c1, .slice a2 m2 c2, .int .i64 x.frm, .int .i64 x.til, .int .i64 x.key.1, .int .u64 x.key.2.1, .int .i64 x.key.2.2, .bool x.ca, .int .i64 x.room, .int .i64 x.uses, .slice a3 m3 c3, .slice a4 m4 c4, .slice a5 m5 c5, .slice a6 m6 c6, .slice a7 m7 c7, .int .i64 x.need, .int .i64 x.nomap, .int .i64 x.noany, .slice a8 m8 c8, .slice a9 m9 c9] 45)) := (hb6.block _ (by omega)).trans Y0.out
  replace Y1 : Hid (w6.heap[w.heap.size + 1]? = some (.cells #[.int .i64 x.ser, .slice b1 m1 d1, .slice b2 m2 d2, .int .i64 x.frm, .int .i64 x.til, .int .i64 x.key.1, .int .u64 x.key.2.1, .int .i64 x.key.2.2, .bool x.ca, .int .i64 x.room, .int .i64 x.uses, .slice b3 m3 d3, .slice b4 m4 d4, .slice b5 m5 d5, .slice b6 m6 d6, .slice b7 m7 d7, .int .i64 x.need, .int .i64 x.nomap, .int .i64 x.noany, .slice b8 m8 d8, .slice b9 m9 d9] 45)) := (hb6.block _ l5).trans Y1.out
  have HB6 : Hid (Below w.heap.size w w6) := HB5.out.trans (hb6.mono HB5.out.size)
  have l6 : w.heap.size + 1 < w6.heap.size := (Array.getElem?_eq_some_iff.1 Y1.out).1
  clear p13 q13 hb6 HB5 l5
  have p14 : w6.cell? ⟨w.heap.size, 14, none⟩ = some (.slice a6 m6 c6) := (cell_of_row _ _ 14 _ 45 (0, 0) Y0.out).trans rfl
  have q14 : w6.cell? ⟨w.heap.size + 1, 14, none⟩ = some (.slice b6 m6 d6) := (cell_of_row _ _ 14 _ 45 (0, 0) Y1.out).trans rfl
  go_wp2_with fail
  refine (eqInt64S_same a6 b6 m6 c6 d6 x.pol _ ((H1.out.kept HB6.out).r6) ((H2.out.kept HB6.out).r6) H1.out.m6).mono ?_
  rintro e w7 ⟨rfl, hb7⟩
  replace Y0 : Hid (w7.heap[w.heap.size]? = some (.cells #[.int .i64 x.ser, .slice a1 m1 c1, .slice a2 m2 c2, .int .i64 x.frm, .int .i64 x.til, .int .i64 x.key.1, .int .u64 x.key.2.1, .int .i64 x.key.2.2, .bool x.ca, .int .i64 x.room, .int .i64 x.uses, .slice a3 m3 c3, .slice a4 m4 c4, .slice a5 m5 c5, .slice a6 m6 c6, .slice a7 m7 c7, .int .i64 x.need, .int .i64 x.nomap, .int .i64 x.noany, .slice a8 m8 c8, .slice a9 m9 c9] 45)) := (hb7.block _ (by omega)).trans Y0.out
  replace Y1 : Hid (w7.heap[w.heap.size + 1]? = some (.cells #[.int .i64 x.ser, .slice b1 m1 d1, .slice b2 m2 d2, .int .i64 x.frm, .int .i64 x.til, .int .i64 x.key.1, .int .u64 x.key.2.1, .int .i64 x.key.2.2, .bool x.ca, .int .i64 x.room, .int .i64 x.uses, .slice b3 m3 d3, .slice b4 m4 d4, .slice b5 m5 d5, .slice b6 m6 d6, .slice b7 m7 d7, .int .i64 x.need, .int .i64 x.nomap, .int .i64 x.noany, .slice b8 m8 d8, .slice b9 m9 d9] 45)) := (hb7.block _ l6).trans Y1.out
  have HB7 : Hid (Below w.heap.size w w7) := HB6.out.trans (hb7.mono HB6.out.size)
  have l7 : w.heap.size + 1 < w7.heap.size := (Array.getElem?_eq_some_iff.1 Y1.out).1
  clear p14 q14 hb7 HB6 l6
  have p15 : w7.cell? ⟨w.heap.size, 15, none⟩ = some (.slice a7 m7 c7) := (cell_of_row _ _ 15 _ 45 (0, 0) Y0.out).trans rfl
  have q15 : w7.cell? ⟨w.heap.size + 1, 15, none⟩ = some (.slice b7 m7 d7) := (cell_of_row _ _ 15 _ 45 (0, 0) Y1.out).trans rfl
  go_wp2_with fail
  refine (eqPolMapS_same a7 b7 m7 c7 d7 x.maps _ ((H1.out.kept HB7.out).r7) ((H2.out.kept HB7.out).r7)).mono ?_
  rintro e w8 ⟨rfl, hb8⟩
  replace Y0 : Hid (w8.heap[w.heap.size]? = some (.cells #[.int .i64 x.ser, .slice a1 m1 c1, .slice a2 m2 c2, .int .i64 x.frm, .int .i64 x.til, .int .i64 x.key.1, .int .u64 x.key.2.1, .int .i64 x.key.2.2, .bool x.ca, .int .i64 x.room, .int .i64 x.uses, .slice a3 m3 c3, .slice a4 m4 c4, .slice a5 m5 c5, .slice a6 m6 c6, .slice a7 m7 c7, .int .i64 x.need, .int .i64 x.nomap, .int .i64 x.noany, .slice a8 m8 c8, .slice a9 m9 c9] 45)) := (hb8.block _ (by omega)).trans Y0.out
  replace Y1 : Hid (w8.heap[w.heap.size + 1]? = some (.cells #[.int .i64 x.ser, .slice b1 m1 d1, .slice b2 m2 d2, .int .i64 x.frm, .int .i64 x.til, .int .i64 x.key.1, .int .u64 x.key.2.1, .int .i64 x.key.2.2, .bool x.ca, .int .i64 x.room, .int .i64 x.uses, .slice b3 m3 d3, .slice b4 m4 d4, .slice b5 m5 d5, .slice b6 m6 d6, .slice b7 m7 d7, .int .i64 x.need, .int .i64 x.nomap, .int .i64 x.noany, .slice b8 m8 d8, .slice b9 m9 d9] 45)) := (hb8.block _ l7).trans Y1.out
  have HB8 : Hid (Below w.heap.size w w8) := HB7.out.trans (hb8.mono HB7.out.size)
  have l8 : w.heap.size + 1 < w8.heap.size := (Array.getElem?_eq_some_iff.1 Y1.out).1
  clear p15 q15 hb8 HB7 l7
  have p16 : w8.cell? ⟨w.heap.size, 16, none⟩ = some (.int .i64 x.need) := (cell_of_row _ _ 16 _ 45 (0, 0) Y0.out).trans rfl
  have q16 : w8.cell? ⟨w.heap.size + 1, 16, none⟩ = some (.int .i64 x.need) := (cell_of_row _ _ 16 _ 45 (0, 0) Y1.out).trans rfl
  have p17 : w8.cell? ⟨w.heap.size, 17, none⟩ = some (.int .i64 x.nomap) := (cell_of_row _ _ 17 _ 45 (0, 0) Y0.out).trans rfl
  have q17 : w8.cell? ⟨w.heap.size + 1, 17, none⟩ = some (.int .i64 x.nomap) := (cell_of_row _ _ 17 _ 45 (0, 0) Y1.out).trans rfl
  have p18 : w8.cell? ⟨w.heap.size, 18, none⟩ = some (.int .i64 x.noany) := (cell_of_row _ _ 18 _ 45 (0, 0) Y0.out).trans rfl
  have q18 : w8.cell? ⟨w.heap.size + 1, 18, none⟩ = some (.int .i64 x.noany) := (cell_of_row _ _ 18 _ 45 (0, 0) Y1.out).trans rfl
  have p19 : w8.cell? ⟨w.heap.size, 19, none⟩ = some (.slice a8 m8 c8) := (cell_of_row _ _ 19 _ 45 (0, 0) Y0.out).trans rfl
  have q19 : w8.cell? ⟨w.heap.size + 1, 19, none⟩ = some (.slice b8 m8 d8) := (cell_of_row _ _ 19 _ 45 (0, 0) Y1.out).trans rfl
  go_wp2_with fail
  refine (eqExtS_k a8 b8 m8 c8 d8 x.ext _ ((H1.out.kept HB8.out).r8) ((H2.out.kept HB8.out).r8) HZ.out.2.2.2.2.2.2.2.1.2).mono ?_
  rintro e w9 ⟨rfl, hb9⟩
  replace Y0 : Hid (w9.heap[w.heap.size]? = some (.cells #[.int .i64 x.ser, .slice a1 m1 c1, .slice a2 m2 c2, .int .i64 x.frm, .int .i64 x.til, .int .i64 x.key.1, .int .u64 x.key.2.1, .int .i64 x.key.2.2, .bool x.ca, .int .i64 x.room, .int .i64 x.uses, .slice a3 m3 c3, .slice a4 m4 c4, .slice a5 m5 c5, .slice a6 m6 c6, .slice a7 m7 c7, .int .i64 x.need, .int .i64 x.nomap, .int .i64 x.noany, .slice a8 m8 c8, .slice a9 m9 c9] 45)) := (hb9.block _ (by omega)).trans Y0.out
  replace Y1 : Hid (w9.heap[w.heap.size + 1]? = some (.cells #[.int .i64 x.ser, .slice b1 m1 d1, .slice b2 m2 d2, .int .i64 x.frm, .int .i64 x.til, .int .i64 x.key.1, .int .u64 x.key.2.1, .int .i64 x.key.2.2, .bool x.ca, .int .i64 x.room, .int .i64 x.uses, .slice b3 m3 d3, .slice b4 m4 d4, .slice b5 m5 d5, .slice b6 m6 d6, .slice b7 m7 d7, .int .i64 x.need, .int .i64 x.nomap, .int .i64 x.noany, .slice b8 m8 d8, .slice b9 m9 d9] 45)) := (hb9.block _ l8).trans Y1.out
  have HB9 : Hid (Below w.heap.size w w9) := HB8.out.trans (hb9.mono HB8.out.size)
  have l9 : w.heap.size + 1 < w9.heap.size := (Array.getElem?_eq_some_iff.1 Y1.out).1
  clear p16 q16 p17 q17 p18 q18 p19 q19 hb9 HB8 l8
  have p20 : w9.cell? ⟨w.heap.size, 20, none⟩ = some (.slice a9 m9 c9) := (cell_of_row _ _ 20 _ 45 (0, 0) Y0.out).trans rfl
  have q20 : w9.cell? ⟨w.heap.size + 1, 20, none⟩ = some (.slice b9 m9 d9) := (cell_of_row _ _ 20 _ 45 (0, 0) Y1.out).trans rfl
  go_wp2_with fail
  refine (eqByteS_one a9 b9 m9 c9 d9 x.sig _ ((H1.out.kept HB9.out).r9) ((H2.out.kept HB9.out).r9) HZ.out.2.2.2.2.2.2.2.2).mono ?_
  rintro e w10 ⟨rfl, hb10⟩
  replace Y0 : Hid (w10.heap[w.heap.size]? = some (.cells #[.int .i64 x.ser, .slice a1 m1 c1, .slice a2 m2 c2, .int .i64 x.frm, .int .i64 x.til, .int .i64 x.key.1, .int .u64 x.key.2.1, .int .i64 x.key.2.2, .bool x.ca, .int .i64 x.room, .int .i64 x.uses, .slice a3 m3 c3, .slice a4 m4 c4, .slice a5 m5 c5, .slice a6 m6 c6, .slice a7 m7 c7, .int .i64 x.need, .int .i64 x.nomap, .int .i64 x.noany, .slice a8 m8 c8, .slice a9 m9 c9] 45)) := (hb10.block _ (by omega)).trans Y0.out
  replace Y1 : Hid (w10.heap[w.heap.size + 1]? = some (.cells #[.int .i64 x.ser, .slice b1 m1 d1, .slice b2 m2 d2, .int .i64 x.frm, .int .i64 x.til, .int .i64 x.key.1, .int .u64 x.key.2.1, .int .i64 x.key.2.2, .bool x.ca, .int .i64 x.room, .int .i64 x.uses, .slice b3 m3 d3, .slice b4 m4 d4, .slice b5 m5 d5, .slice b6 m6 d6, .slice b7 m7 d7, .int .i64 x.need, .int .i64 x.nomap, .int .i64 x.noany, .slice b8 m8 d8, .slice b9 m9 d9] 45)) := (hb10.block _ l9).trans Y1.out
  have HB10 : Hid (Below w.heap.size w w10) := HB9.out.trans (hb10.mono HB9.out.size)
  have l10 : w.heap.size + 1 < w10.heap.size := (Array.getElem?_eq_some_iff.1 Y1.out).1
  clear p20 q20 hb10 HB9 l9
  go_wp2
  go_ret
  exact ⟨rfl, HB10.out⟩

end Go.Proofs.YtkpabanjlhlmfaaGreatDoor

set_option linter.unusedVariables false
namespace Go.Proofs.YtkpabanjlhlmfaaGreatDoor
open Go.RowKit

/-- The k-th extension is right behind those ahead of it. -/
def extAt (xs : List XP) (k : Nat) : Prop := (1 ≤ (xs.getD k default).id ∧ (xs.getD k default).id ≤ 1000) ∧ (0 < k → (xs.getD (k - 1) default).id < (xs.getD k default).id) ∧ (xs.getD k default).val.length ≤ 30
def extsP (xs : List XP) : Prop := xs.length ≤ 4 ∧ ∀ k, k < xs.length → extAt xs k
def limP (v : Int) : Prop := -1 ≤ v ∧ v ≤ 10
def authP (x : CE) : Prop := (x.ca = false → x.room = -1 ∧ x.need = -1 ∧ x.nomap = -1 ∧ x.noany = -1 ∧ x.per.length = 0 ∧ x.den.length = 0 ∧ x.maps.length = 0) ∧ (x.ca = true → limP x.room ∧ limP x.need ∧ limP x.nomap ∧ limP x.noany ∧ basesP x.per x.per.length ∧ basesP x.den x.den.length ∧ (x.maps.length ≤ 6 ∧ mapsP x.maps))
def ownP (sub : List PT) (nms : List GE) : Prop := nameP sub ∧ (sub ≠ [] ∨ nms ≠ []) ∧ gensP nms nms.length
/-- A right certificate. -/
def ceP (x : CE) : Prop := (1 ≤ x.ser ∧ x.ser ≤ 4611686018427387904) ∧ calledP x.iss ∧ ownP x.sub x.nms ∧ ((0 ≤ x.frm ∧ x.frm ≤ 253402300799) ∧ (0 ≤ x.til ∧ x.til ≤ 253402300799) ∧ x.frm ≤ x.til) ∧ pubP x.key.1 x.key.2.1 x.key.2.2 ∧ (0 ≤ x.uses ∧ x.uses ≤ 255) ∧ polsP x.pol ∧ extsP x.ext ∧ x.sig.length ≤ 500 ∧ authP x
theorem four_all {a b c d : Int} (h1 : a = -1) (h2 : b = -1) (h3 : c = -1) (h4 : d = -1) : ∀ j, j < [a, b, c, d].length → [a, b, c, d].getD j 0 = -1 := by
  intro j hj
  match j, hj with
  | 0, _ => exact h1
  | 1, _ => exact h2
  | 2, _ => exact h3
  | 3, _ => exact h4
  | j + 4, hj => simp at hj; omega
theorem all_four {a b c d : Int} (h : ∀ j, j < [a, b, c, d].length → [a, b, c, d].getD j 0 = -1) : a = -1 ∧ b = -1 ∧ c = -1 ∧ d = -1 := ⟨h 0 (by simp), h 1 (by simp), h 2 (by simp), h 3 (by simp)⟩
theorem four_lim {a b c d : Int} (h1 : limP a) (h2 : limP b) (h3 : limP c) (h4 : limP d) : ∀ j, j < [a, b, c, d].length → (-1) ≤ [a, b, c, d].getD j 0 ∧ [a, b, c, d].getD j 0 ≤ 10 := by
  intro j hj
  match j, hj with
  | 0, _ => exact h1
  | 1, _ => exact h2
  | 2, _ => exact h3
  | 3, _ => exact h4
  | j + 4, hj => simp at hj; omega
theorem lim_four {a b c d : Int} (h : ∀ j, j < [a, b, c, d].length → (-1) ≤ [a, b, c, d].getD j 0 ∧ [a, b, c, d].getD j 0 ≤ 10) : limP a ∧ limP b ∧ limP c ∧ limP d := ⟨h 0 (by simp), h 1 (by simp), h 2 (by simp), h 3 (by simp)⟩
theorem wrapC (x : Int) (h0 : -9223372036854775808 ≤ x) (h1 : x ≤ 9223372036854775807) : IntKind.i64.wrap x = x := by
  rw [IntKind.wrap_i64]; omega
theorem row64_four {w : World} {g t : Nat} {a b c d : Int} (h : w.heap[g]? = some (.cells #[.int .i64 a, .int .i64 b, .int .i64 c, .int .i64 d] t (0, 0))) : Row64 w (some ⟨g, 0, none⟩) 4 [a, b, c, d] := by
  refine ⟨rfl, fun k hk => ⟨g, 0, rfl, (Array.getElem?_eq_some_iff.1 h).1, ?_⟩⟩
  rw [Nat.zero_add, cell_of_row _ _ k _ t (0, 0) h]
  match k, hk with
  | 0, _ => rfl
  | 1, _ => rfl
  | 2, _ => rfl
  | 3, _ => rfl

set_option maxRecDepth 10000 in
set_option maxHeartbeats 400000 in
theorem isNoLimit_any (x : Int) (w : World) : Calls Tryz.prog 90 #[.int .i64 x] w fun e w' => e = .returned (.bool (decide (x = -1))) ∧ w' = w := by
  by_cases h : x = -1
  · rw [decide_eq_true h]
    have he : (x == -1) = true := by simp [h]
    clear h
    go_enter Tryz.func90, Tryz.ntmps90
    go_wp2
    go_ret
    exact ⟨rfl, rfl⟩
  · rw [decide_eq_false h]
    have he : (x == -1) = false := by simp [h]
    clear h
    go_enter Tryz.func90, Tryz.ntmps90
    go_wp2
    go_ret
    exact ⟨rfl, rfl⟩

set_option maxRecDepth 10000 in
set_option maxHeartbeats 2000000 in
theorem everyNo_any (a : Option Addr) (n c : Nat) (zs : List Int) (w : World) (h : Row64 w a n zs) (hn : n ≤ 9223372036854775807) :
    Calls Tryz.prog 87 #[.slice a n c, .func (Fn.func 90) #[] #[]] w (SaysP (∀ j, j < zs.length → zs.getD j 0 = -1) w) := by
  have H0 : Hid (Row64 w a n zs) := h
  have HL : Hid (zs.length = n) := h.len
  clear h
  go_enter Tryz.func87, Tryz.ntmps87
  go_wp2
  go_loopw [9] (fun i wr => ∃ k : Nat, k ≤ n ∧ i = .int .i64 k ∧ Hid (∀ j, j < k → zs.getD j 0 = -1) ∧ w = wr) (fun i _ => n - (intOf i).toNat)
  case atStart => exact ⟨0, Nat.zero_le _, rfl, fun k hk => absurd hk (Nat.not_lt_zero _), rfl⟩
  case round =>
    obtain ⟨k, hk, rfl, HE, rfl⟩ := hrel
    by_cases hlt : k < n
    · obtain ⟨b, off, rfl, hb, hc⟩ := H0.out.get k hlt
      obtain ⟨z, hz⟩ : ∃ z, z = zs.getD k 0 := ⟨_, rfl⟩
      rw [← hz] at hc
      have HZ : Hid (z = zs.getD k 0) := hz
      have hlti : (k : Int) < (n : Int) := by omega
      clear hz
      go_wp2_with fail
      refine (isNoLimit_any z _).mono ?_
      rintro e w2 ⟨rfl, rfl⟩
      by_cases h0 : z = -1
      · rw [decide_eq_true h0]
        have HN : Hid (∀ j, j < k + 1 → zs.getD j 0 = -1) := fun j hj => by
          by_cases e : j < k
          · exact HE.out j e
          · obtain rfl : j = k := by omega
            rw [← HZ.out]; exact h0
        clear h0 HE
        go_wp2
        go_roundw
        case rel => exact ⟨k + 1, by omega, by go_num, HN, by trivial⟩
        case measure => simp [intOf]; omega
      · rw [decide_eq_false h0]
        have HN : Hid (¬ (∀ j, j < zs.length → zs.getD j 0 = -1)) := fun e => h0 (by rw [HZ.out]; exact e k (by rw [HL.out]; exact hlt))
        clear h0 HE
        go_wp2
        go_ret
        exact saysP_f HN.out (Below.refl _ _)
    · obtain rfl : k = n := by omega
      go_wp2
      go_ret
      exact saysP_t (fun j hj => HE.out j (by rw [HL.out] at hj; exact hj)) (Below.refl _ _)

set_option maxRecDepth 10000 in
set_option maxHeartbeats 2000000 in
theorem ownerOk_any (a : Option Addr) (n c : Nat) (sub : List PT) (b : Option Addr) (m d : Nat) (nms : List GE) (w : World) (hm : MaxW w) (h : Pts w a n sub) (hz : ∀ k, k < n → (sub.getD k default).val.size ≤ 1048576) (h2 : Ges w b m nms) (hz2 : ∀ k, k < m → GeOk (nms.getD k default)) (hn : n ≤ 1048576) (hm1 : m ≤ 1048576) :
    Calls Tryz.prog 40 #[.agg #[.slice a n c], .slice b m d] w (Says (ownP sub nms) w) := by
  have HM : Hid (MaxW w) := hm
  have HK : Hid (Pts w a n sub) := h
  have HK2 : Hid (Ges w b m nms) := h2
  have HZ : Hid (∀ k, k < n → (sub.getD k default).val.size ≤ 1048576) := hz
  have HZ2 : Hid (∀ k, k < m → GeOk (nms.getD k default)) := hz2
  have HL : Hid (sub.length = n) := h.len
  have HL2 : Hid (nms.length = m) := h2.len
  clear h h2 hz hz2 hm
  obtain ⟨w0, hw0⟩ : ∃ w0, w0 = w.alloc (.cells #[.slice a n c] 39) := ⟨_, rfl⟩
  have B0 : Hid (Below w.heap.size w w0) := by show Below _ _ _; rw [hw0]; exact (Below.refl _ _).alloc (Nat.le_refl _) _
  have Y0 : Hid (w0.heap[w.heap.size]? = some (.cells #[.slice a n c] 39)) := by show _ = _; rw [hw0]; exact heap_alloc_new w _
  have l0 : w.heap.size < w0.heap.size := (Array.getElem?_eq_some_iff.1 Y0.out).1
  have p0 : w0.cell? ⟨w.heap.size, 0, none⟩ = some (.slice a n c) := (cell_of_row _ _ 0 _ 39 (0, 0) Y0.out).trans rfl
  go_enter Tryz.func40, Tryz.ntmps40
  go_upto_region 1 with fail
  rw [← hw0]
  clear hw0
  go_wp2_with fail
  refine (implNameOk_any a n c sub _ (HK.out.kept B0.out) HZ.out).mono ?_
  rintro e w1 ⟨v1, rfl, hv1, hb1⟩
  have B1 : Hid (Below w.heap.size w w1) := B0.out.trans (hb1.mono B0.out.size)
  have Y1 : Hid (w1.heap[w.heap.size]? = some (.cells #[.slice a n c] 39)) := (hb1.block _ l0).trans Y0.out
  have HV1 : Hid _ := hv1
  clear p0 hv1 hb1
  rcases v1 with _ | _
  · have HN : Hid (¬ ownP sub nms) := fun q => by have := HV1.out.2 q.1; cases this
    go_wp2
    go_ret
    exact says_f HN.out B1.out
  have HS : Hid (nameP sub) := HV1.out.1 rfl
  clear HV1
  have p0 : w1.cell? ⟨w.heap.size, 0, none⟩ = some (.slice a n c) := (cell_of_row _ _ 0 _ 39 (0, 0) Y1.out).trans rfl
  have hwr : IntKind.i64.wrap ((n : Int) + (m : Int)) = (n : Int) + (m : Int) := wrapC _ (by omega) (by omega)
  by_cases hnm : 0 < (n : Int) + (m : Int)
  case neg =>
    have HN : Hid (¬ ownP sub nms) := fun q => by
      have h1 : n = 0 := by omega
      have h2 : m = 0 := by omega
      rcases q.2.1 with q | q
      · exact q (List.eq_nil_of_length_eq_zero (by rw [HL.out]; exact h1))
      · exact q (List.eq_nil_of_length_eq_zero (by rw [HL2.out]; exact h2))
    go_wp2
    go_ret
    exact says_f HN.out B1.out
  have HSM : Hid (sub ≠ [] ∨ nms ≠ []) := by
    by_cases e : n = 0
    · exact .inr (fun q => by have := HL2.out; rw [q] at this; simp at this; omega)
    · exact .inl (fun q => by have := HL.out; rw [q] at this; simp at this; omega)
  go_wp2_with fail
  refine (gensGen_any b m d nms _ (HM.out.kept B1.out) (HK2.out.kept B1.out) HZ2.out).mono ?_
  rintro e w2 ⟨v2, rfl, hv2, hb2⟩
  have B2 : Hid (Below w.heap.size w w2) := B1.out.trans (hb2.mono B1.out.size)
  have HIF : Hid (v2 = true ↔ ownP sub nms) := ⟨fun e => ⟨HS.out, HSM.out, by rw [HL2.out]; exact hv2.out.1 e⟩, fun q => hv2.out.2 (by have := q.2.2; rw [HL2.out] at this; exact this)⟩
  clear p0 hv2 hb2
  go_wp2
  go_ret
  exact ⟨v2, rfl, HIF, B2.out⟩

/-- What the next identifier must be at least. -/
def lstX (xs : List XP) (k : Nat) : Int := if k = 0 then 1 else (xs.getD (k - 1) default).id + 1

set_option maxRecDepth 10000 in
set_option maxHeartbeats 2000000 in
theorem extsOk_any (a : Option Addr) (n c : Nat) (xs : List XP) (w : World) (h : XPs w a n xs) :
    Calls Tryz.prog 44 #[.slice a n c] w (Says (extsP xs) w) := by
  have HK : Hid (XPs w a n xs) := h
  have HL : Hid (xs.length = n) := h.len
  have hmx := h.max
  clear h
  by_cases h4 : (4 : Int) < (n : Int)
  · have HN : Hid (¬ extsP xs) := fun q => by have := q.1; rw [HL.out] at this; omega
    go_enter Tryz.func44, Tryz.ntmps44
    go_wp2
    go_ret
    exact says_f HN.out (Below.refl _ _)
  have hn4 : n ≤ 4 := by omega
  go_enter Tryz.func44, Tryz.ntmps44
  go_wp2
  go_loopw [11, 3] (fun i l wr => ∃ k : Nat, k ≤ n ∧ i = .int .i64 k ∧ l = .int .i64 (lstX xs k) ∧ Hid (∀ j, j < k → extAt xs j) ∧ Below w.heap.size w wr) (fun i _ _ => n - (intOf i).toNat)
  case atStart => exact ⟨0, Nat.zero_le _, rfl, rfl, fun j hj => absurd hj (Nat.not_lt_zero _), Below.refl _ _⟩
  case round =>
    obtain ⟨k, hk, rfl, rfl, HE, hbr⟩ := hrel
    by_cases hkn : k < n
    · obtain ⟨b, off, ⟨a1, n1, c1⟩, rfl, hlb, hc, hp⟩ := HK.out.get k hkn
      obtain ⟨y, hy⟩ : ∃ y, y = xs.getD k default := ⟨_, rfl⟩
      rw [← hy] at hc hp
      have HY : Hid (y = xs.getD k default) := hy
      have HYL : Hid (y.val.length = n1) := hp.r1.len
      have hm1 := hp.m1
      replace hc := hc.of (w' := wr) (fun i => hbr.cell (p := ⟨b, i, none⟩) hlb)
      have d0 : wr.cell? ⟨b, off + k * 3, none⟩ = some (.int .i64 y.id) := hc.c0
      have d1 : wr.cell? ⟨b, off + k * 3 + 1, none⟩ = some (.bool y.crit) := hc.c1
      have d2 : wr.cell? ⟨b, off + k * 3 + 2, none⟩ = some (.slice a1 n1 c1) := hc.c2
      obtain ⟨W2, hW2⟩ : ∃ W2, W2 = wr.alloc (.cells #[.int .i64 y.id, .bool y.crit, .slice a1 n1 c1] 72) := ⟨_, rfl⟩
      have hb2 : Below wr.heap.size wr W2 := by rw [hW2]; exact (Below.refl _ _).alloc (Nat.le_refl _) _
      have E2 : Hid (W2.heap[wr.heap.size]? = some (.cells #[.int .i64 y.id, .bool y.crit, .slice a1 n1 c1] 72)) := by show _ = _; rw [hW2]; exact heap_alloc_new wr _
      have B2 : Hid (Below w.heap.size w W2) := hbr.trans (hb2.mono hbr.size)
      have hkni : (k : Int) < (n : Int) := by omega
      have HW2 : Hid (_ = _) := hW2
      clear hW2 hb2 hc hp hy
      go_upto_region 7 with fail
      rw [← HW2.out]
      clear HW2 d0 d1 d2
      have e0 : W2.cell? ⟨wr.heap.size, 0, none⟩ = some (.int .i64 y.id) := (cell_of_row _ _ 0 _ 72 (0, 0) E2.out).trans rfl
      have e2 : W2.cell? ⟨wr.heap.size, 2, none⟩ = some (.slice a1 n1 c1) := (cell_of_row _ _ 2 _ 72 (0, 0) E2.out).trans rfl
      have HIF : Hid ((lstX xs k ≤ y.id ∧ y.id ≤ 1000) ↔ ((1 ≤ (xs.getD k default).id ∧ (xs.getD k default).id ≤ 1000) ∧ (0 < k → (xs.getD (k - 1) default).id < (xs.getD k default).id))) := by
        show _ ↔ _
        rw [HY.out]
        unfold lstX
        by_cases hk0 : k = 0
        · rw [if_pos hk0]
          exact ⟨fun q => ⟨q, fun h => absurd h (by omega)⟩, fun q => q.1⟩
        · rw [if_neg hk0]
          have h1 := (HE.out (k - 1) (by omega)).1.1
          constructor
          · intro q; exact ⟨⟨by omega, q.2⟩, fun _ => by omega⟩
          · intro q; exact ⟨by have := q.2 (by omega); omega, q.1.2⟩
      go_wp2_with fail
      by_cases q1 : lstX xs k ≤ y.id ∧ y.id ≤ 1000
      case neg =>
        refine (inBounds_any y.id (lstX xs k) 1000 _).mono ?_
        rintro e w9 ⟨rfl, hw9⟩
        subst hw9
        rw [decide_eq_false q1]
        have HN : Hid (¬ extsP xs) := fun q => q1 (HIF.out.2 (by have := q.2 k (by rw [HL.out]; exact hkn); exact ⟨this.1, this.2.1⟩))
        clear q1
        go_wp2
        go_ret
        exact says_f HN.out B2.out
      refine (inBounds_any y.id (lstX xs k) 1000 _).mono ?_
      rintro e w9 ⟨rfl, hw9⟩
      subst hw9
      rw [decide_eq_true q1]
      have HQ : Hid (lstX xs k ≤ y.id ∧ y.id ≤ 1000) := q1
      clear q1
      by_cases h30 : (30 : Int) < (n1 : Int)
      · have HN : Hid (¬ extsP xs) := fun q => by have := (q.2 k (by rw [HL.out]; exact hkn)).2.2; rw [← HY.out, HYL.out] at this; omega
        go_wp2
        go_ret
        exact says_f HN.out B2.out
      have HX : Hid (∀ j, j < k + 1 → extAt xs j) := fun j hj => by
        by_cases e : j = k
        · subst e
          exact ⟨(HIF.out.1 HQ.out).1, (HIF.out.1 HQ.out).2, by rw [← HY.out, HYL.out]; omega⟩
        · exact HE.out j (by omega)
      have HLS : Hid (y.id + 1 = lstX xs (k + 1)) := by show _ = _; unfold lstX; rw [if_neg (by omega), Nat.add_sub_cancel, ← HY.out]
      have hwr : IntKind.i64.wrap (y.id + 1) = y.id + 1 := wrapC _ (by have := (HIF.out.1 HQ.out).1.1; rw [← HY.out] at this; omega) (by have := HQ.out.2; omega)
      go_wp2
      go_roundw
      case rel => exact ⟨k + 1, by omega, by go_num, by rw [HLS.out], HX, B2.out⟩
      case measure => simp [intOf]; omega
    · have hkn' : k = n := by omega
      subst hkn'
      have HT : Hid (extsP xs) := ⟨by rw [HL.out]; omega, fun j hj => HE.out j (by rw [← HL.out]; exact hj)⟩
      go_wp2
      go_ret
      exact says_t HT.out hbr

set_option maxRecDepth 10000 in
set_option maxHeartbeats 4000000 in
theorem authorityOk_any (s : CES) (x : CE) (w : World) (hm : MaxW w) (h : CER w s x) (hz : CEZ x) :
    Calls Tryz.prog 45 #[CEv s x] w (Says (authP x) w) := by
  obtain ⟨a1, n1, c1, a2, n2, c2, a3, n3, c3, a4, n4, c4, a5, n5, c5, a6, n6, c6, a7, n7, c7, a8, n8, c8, a9, n9, c9⟩ := s
  have HK : Hid (CER w ⟨a1, n1, c1, a2, n2, c2, a3, n3, c3, a4, n4, c4, a5, n5, c5, a6, n6, c6, a7, n7, c7, a8, n8, c8, a9, n9, c9⟩ x) := h
  have HZ : Hid ((n1 ≤ 1048576 ∧ (∀ k, k < n1 → (x.iss.getD k default).val.size ≤ 1048576)) ∧ (n2 ≤ 1048576 ∧ (∀ k, k < n2 → (x.sub.getD k default).val.size ≤ 1048576)) ∧ (n3 ≤ 1048576 ∧ (∀ k, k < n3 → GeOk (x.nms.getD k default))) ∧ (n4 ≤ 1048576 ∧ (∀ k, k < n4 → GeOk (x.per.getD k default))) ∧ (n5 ≤ 1048576 ∧ (∀ k, k < n5 → GeOk (x.den.getD k default))) ∧ (n6 ≤ 1048576) ∧ (n7 ≤ 1048576) ∧ (n8 ≤ 1048576 ∧ (∀ k, k < n8 → XPZ (x.ext.getD k default))) ∧ (n9 ≤ 1048576)) := h.zn.1 hz
  have HM : Hid (MaxW w) := hm
  have HL4 : Hid (x.per.length = n4) := h.r4.len
  have HL5 : Hid (x.den.length = n5) := h.r5.len
  have HL7 : Hid (x.maps.length = n7) := h.r7.len
  have hx4 := h.r4.max
  have hx5 := h.r5.max
  have hx7 := h.r7.max
  clear h hz hm
  show Calls Tryz.prog 45 #[.agg #[.int .i64 x.ser, .slice a1 n1 c1, .slice a2 n2 c2, .int .i64 x.frm, .int .i64 x.til, .int .i64 x.key.1, .int .u64 x.key.2.1, .int .i64 x.key.2.2, .bool x.ca, .int .i64 x.room, .int .i64 x.uses, .slice a3 n3 c3, .slice a4 n4 c4, .slice a5 n5 c5, .slice a6 n6 c6, .slice a7 n7 c7, .int .i64 x.need, .int .i64 x.nomap, .int .i64 x.noany, .slice a8 n8 c8, .slice a9 n9 c9]] w _
  obtain ⟨w0, hw0⟩ : ∃ w0, w0 = w.alloc (.cells #[.int .i64 x.ser, .slice a1 n1 c1, .slice a2 n2 c2, .int .i64 x.frm, .int .i64 x.til, .int .i64 x.key.1, .int .u64 x.key.2.1, .int .i64 x.key.2.2, .bool x.ca, .int .i64 x.room, .int .i64 x.uses, .slice a3 n3 c3, .slice a4 n4 c4, .slice a5 n5 c5, .slice a6 n6 c6, .slice a7 n7 c7, .int .i64 x.need, .int .i64 x.nomap, .int .i64 x.noany, .slice a8 n8 c8, .slice a9 n9 c9] 45) := ⟨_, rfl⟩
  have hb0 : Below w.heap.size w w0 := by rw [hw0]; exact (Below.refl _ _).alloc (Nat.le_refl _) _
  have Y0 : Hid (w0.heap[w.heap.size]? = some (.cells #[.int .i64 x.ser, .slice a1 n1 c1, .slice a2 n2 c2, .int .i64 x.frm, .int .i64 x.til, .int .i64 x.key.1, .int .u64 x.key.2.1, .int .i64 x.key.2.2, .bool x.ca, .int .i64 x.room, .int .i64 x.uses, .slice a3 n3 c3, .slice a4 n4 c4, .slice a5 n5 c5, .slice a6 n6 c6, .slice a7 n7 c7, .int .i64 x.need, .int .i64 x.nomap, .int .i64 x.noany, .slice a8 n8 c8, .slice a9 n9 c9] 45)) := by show _ = _; rw [hw0]; exact heap_alloc_new w _
  obtain ⟨w1, hw1⟩ : ∃ w1, w1 = w0.alloc (.cells #[.int .i64 x.room, .int .i64 x.need, .int .i64 x.nomap, .int .i64 x.noany] 2) := ⟨_, rfl⟩
  have hb1 : Below w0.heap.size w0 w1 := by rw [hw1]; exact (Below.refl _ _).alloc (Nat.le_refl _) _
  have B1 : Hid (Below w.heap.size w w1) := hb0.trans (hb1.mono hb0.size)
  have L1 : Hid (Row64 w1 (some ⟨w0.heap.size, 0, none⟩) 4 [x.room, x.need, x.nomap, x.noany]) := row64_four (by rw [hw1]; exact heap_alloc_new w0 _)
  have l0 : w.heap.size < w0.heap.size := (Array.getElem?_eq_some_iff.1 Y0.out).1
  have Y1 : Hid (w1.heap[w.heap.size]? = some (.cells #[.int .i64 x.ser, .slice a1 n1 c1, .slice a2 n2 c2, .int .i64 x.frm, .int .i64 x.til, .int .i64 x.key.1, .int .u64 x.key.2.1, .int .i64 x.key.2.2, .bool x.ca, .int .i64 x.room, .int .i64 x.uses, .slice a3 n3 c3, .slice a4 n4 c4, .slice a5 n5 c5, .slice a6 n6 c6, .slice a7 n7 c7, .int .i64 x.need, .int .i64 x.nomap, .int .i64 x.noany, .slice a8 n8 c8, .slice a9 n9 c9] 45)) := (hb1.block _ l0).trans Y0.out
  have p9 : w0.cell? ⟨w.heap.size, 9, none⟩ = some (.int .i64 x.room) := (cell_of_row _ _ 9 _ 45 (0, 0) Y0.out).trans rfl
  have p16 : w0.cell? ⟨w.heap.size, 16, none⟩ = some (.int .i64 x.need) := (cell_of_row _ _ 16 _ 45 (0, 0) Y0.out).trans rfl
  have p17 : w0.cell? ⟨w.heap.size, 17, none⟩ = some (.int .i64 x.nomap) := (cell_of_row _ _ 17 _ 45 (0, 0) Y0.out).trans rfl
  have p18 : w0.cell? ⟨w.heap.size, 18, none⟩ = some (.int .i64 x.noany) := (cell_of_row _ _ 18 _ 45 (0, 0) Y0.out).trans rfl
  clear hb0 hb1
  go_enter Tryz.func45, Tryz.ntmps45
  go_upto_region 1 with fail
  rw [← hw0]
  clear hw0
  go_upto_region 2 with fail
  rw [← hw1]
  clear hw1 p9 p16 p17 p18 Y0
  rcases hca : x.ca with _ | _
  · have HCA : Hid (x.ca = false) := hca
    have p8 : w1.cell? ⟨w.heap.size, 8, none⟩ = some (.bool false) := by rw [← hca]; exact (cell_of_row _ _ 8 _ 45 (0, 0) Y1.out).trans rfl
    clear hca
    go_wp2_with fail
    refine (everyNo_any (some ⟨w0.heap.size, 0, none⟩) 4 4 [x.room, x.need, x.nomap, x.noany] _ L1.out (by decide)).mono ?_
    rintro e w2 ⟨v2, rfl, hv2, hb2⟩
    have B2 : Hid (Below w.heap.size w w2) := B1.out.trans (hb2.mono B1.out.size)
    have Y2 : Hid (w2.heap[w.heap.size]? = some (.cells #[.int .i64 x.ser, .slice a1 n1 c1, .slice a2 n2 c2, .int .i64 x.frm, .int .i64 x.til, .int .i64 x.key.1, .int .u64 x.key.2.1, .int .i64 x.key.2.2, .bool x.ca, .int .i64 x.room, .int .i64 x.uses, .slice a3 n3 c3, .slice a4 n4 c4, .slice a5 n5 c5, .slice a6 n6 c6, .slice a7 n7 c7, .int .i64 x.need, .int .i64 x.nomap, .int .i64 x.noany, .slice a8 n8 c8, .slice a9 n9 c9] 45)) := (hb2.block _ (Array.getElem?_eq_some_iff.1 Y1.out).1).trans Y1.out
    have HV2 : Hid _ := hv2
    clear p8 hv2 hb2
    rcases v2 with _ | _
    · have HN : Hid (¬ authP x) := fun q => by
        have := HV2.out.2 (four_all (q.1 HCA.out).1 (q.1 HCA.out).2.1 (q.1 HCA.out).2.2.1 (q.1 HCA.out).2.2.2.1)
        cases this
      go_wp2
      go_ret
      exact says_f HN.out B2.out
    have HF : Hid (x.room = -1 ∧ x.need = -1 ∧ x.nomap = -1 ∧ x.noany = -1) := all_four (HV2.out.1 rfl)
    clear HV2
    have p12 : w2.cell? ⟨w.heap.size, 12, none⟩ = some (.slice a4 n4 c4) := (cell_of_row _ _ 12 _ 45 (0, 0) Y2.out).trans rfl
    have p13 : w2.cell? ⟨w.heap.size, 13, none⟩ = some (.slice a5 n5 c5) := (cell_of_row _ _ 13 _ 45 (0, 0) Y2.out).trans rfl
    have p15 : w2.cell? ⟨w.heap.size, 15, none⟩ = some (.slice a7 n7 c7) := (cell_of_row _ _ 15 _ 45 (0, 0) Y2.out).trans rfl
    by_cases e4 : n4 = 0
    case neg =>
      have hne : ((n4 : Int) == 0) = false := by simp [e4]
      have HN : Hid (¬ authP x) := fun q => e4 (by rw [← HL4.out]; exact (q.1 HCA.out).2.2.2.2.1)
      go_wp2
      go_ret
      exact says_f HN.out B2.out
    subst e4
    by_cases e5 : n5 = 0
    case neg =>
      have hne : ((n5 : Int) == 0) = false := by simp [e5]
      have HN : Hid (¬ authP x) := fun q => e5 (by rw [← HL5.out]; exact (q.1 HCA.out).2.2.2.2.2.1)
      go_wp2
      go_ret
      exact says_f HN.out B2.out
    subst e5
    by_cases e7 : n7 = 0
    case neg =>
      have hne : ((n7 : Int) == 0) = false := by simp [e7]
      have HN : Hid (¬ authP x) := fun q => e7 (by rw [← HL7.out]; exact (q.1 HCA.out).2.2.2.2.2.2)
      go_wp2
      go_ret
      exact says_f HN.out B2.out
    subst e7
    have HT : Hid (authP x) := ⟨fun _ => ⟨HF.out.1, HF.out.2.1, HF.out.2.2.1, HF.out.2.2.2, HL4.out, HL5.out, HL7.out⟩, fun e => by rw [HCA.out] at e; cases e⟩
    go_wp2
    go_ret
    exact says_t HT.out B2.out
  · have HCA : Hid (x.ca = true) := hca
    have p8 : w1.cell? ⟨w.heap.size, 8, none⟩ = some (.bool true) := by rw [← hca]; exact (cell_of_row _ _ 8 _ 45 (0, 0) Y1.out).trans rfl
    clear hca
    go_wp2_with fail
    refine (everyLim_any (some ⟨w0.heap.size, 0, none⟩) 4 4 [x.room, x.need, x.nomap, x.noany] _ L1.out (by decide)).mono ?_
    rintro e w2 ⟨v2, rfl, hv2, hb2⟩
    have B2 : Hid (Below w.heap.size w w2) := B1.out.trans (hb2.mono B1.out.size)
    have Y2 : Hid (w2.heap[w.heap.size]? = some (.cells #[.int .i64 x.ser, .slice a1 n1 c1, .slice a2 n2 c2, .int .i64 x.frm, .int .i64 x.til, .int .i64 x.key.1, .int .u64 x.key.2.1, .int .i64 x.key.2.2, .bool x.ca, .int .i64 x.room, .int .i64 x.uses, .slice a3 n3 c3, .slice a4 n4 c4, .slice a5 n5 c5, .slice a6 n6 c6, .slice a7 n7 c7, .int .i64 x.need, .int .i64 x.nomap, .int .i64 x.noany, .slice a8 n8 c8, .slice a9 n9 c9] 45)) := (hb2.block _ (Array.getElem?_eq_some_iff.1 Y1.out).1).trans Y1.out
    have HV2 : Hid _ := hv2
    clear p8 hv2 hb2
    rcases v2 with _ | _
    · have HN : Hid (¬ authP x) := fun q => by
        have := HV2.out.2 (four_lim (q.2 HCA.out).1 (q.2 HCA.out).2.1 (q.2 HCA.out).2.2.1 (q.2 HCA.out).2.2.2.1)
        cases this
      go_wp2
      go_ret
      exact says_f HN.out B2.out
    have HF : Hid (limP x.room ∧ limP x.need ∧ limP x.nomap ∧ limP x.noany) := lim_four (HV2.out.1 rfl)
    clear HV2
    have p12 : w2.cell? ⟨w.heap.size, 12, none⟩ = some (.slice a4 n4 c4) := (cell_of_row _ _ 12 _ 45 (0, 0) Y2.out).trans rfl
    go_wp2_with fail
    refine (gensBase_any a4 n4 c4 x.per _ (HM.out.kept B2.out) (HK.out.kept B2.out).r4 HZ.out.2.2.2.1.2).mono ?_
    rintro e w3 ⟨v3, rfl, hv3, hb3⟩
    have B3 : Hid (Below w.heap.size w w3) := B2.out.trans (hb3.mono B2.out.size)
    have Y3 : Hid (w3.heap[w.heap.size]? = some (.cells #[.int .i64 x.ser, .slice a1 n1 c1, .slice a2 n2 c2, .int .i64 x.frm, .int .i64 x.til, .int .i64 x.key.1, .int .u64 x.key.2.1, .int .i64 x.key.2.2, .bool x.ca, .int .i64 x.room, .int .i64 x.uses, .slice a3 n3 c3, .slice a4 n4 c4, .slice a5 n5 c5, .slice a6 n6 c6, .slice a7 n7 c7, .int .i64 x.need, .int .i64 x.nomap, .int .i64 x.noany, .slice a8 n8 c8, .slice a9 n9 c9] 45)) := (hb3.block _ (Array.getElem?_eq_some_iff.1 Y2.out).1).trans Y2.out
    have HV3 : Hid _ := hv3
    clear p12 hv3 hb3
    rcases v3 with _ | _
    · have HN : Hid (¬ authP x) := fun q => by have h1 := (q.2 HCA.out).2.2.2.2.1; rw [HL4.out] at h1; have := HV3.out.2 h1; cases this
      go_wp2
      go_ret
      exact says_f HN.out B3.out
    have HP4 : Hid (basesP x.per x.per.length) := by show basesP _ _; rw [HL4.out]; exact HV3.out.1 rfl
    clear HV3
    have p13 : w3.cell? ⟨w.heap.size, 13, none⟩ = some (.slice a5 n5 c5) := (cell_of_row _ _ 13 _ 45 (0, 0) Y3.out).trans rfl
    go_wp2_with fail
    refine (gensBase_any a5 n5 c5 x.den _ (HM.out.kept B3.out) (HK.out.kept B3.out).r5 HZ.out.2.2.2.2.1.2).mono ?_
    rintro e w4 ⟨v4, rfl, hv4, hb4⟩
    have B4 : Hid (Below w.heap.size w w4) := B3.out.trans (hb4.mono B3.out.size)
    have Y4 : Hid (w4.heap[w.heap.size]? = some (.cells #[.int .i64 x.ser, .slice a1 n1 c1, .slice a2 n2 c2, .int .i64 x.frm, .int .i64 x.til, .int .i64 x.key.1, .int .u64 x.key.2.1, .int .i64 x.key.2.2, .bool x.ca, .int .i64 x.room, .int .i64 x.uses, .slice a3 n3 c3, .slice a4 n4 c4, .slice a5 n5 c5, .slice a6 n6 c6, .slice a7 n7 c7, .int .i64 x.need, .int .i64 x.nomap, .int .i64 x.noany, .slice a8 n8 c8, .slice a9 n9 c9] 45)) := (hb4.block _ (Array.getElem?_eq_some_iff.1 Y3.out).1).trans Y3.out
    have HV4 : Hid _ := hv4
    clear p13 hv4 hb4
    rcases v4 with _ | _
    · have HN : Hid (¬ authP x) := fun q => by have h1 := (q.2 HCA.out).2.2.2.2.2.1; rw [HL5.out] at h1; have := HV4.out.2 h1; cases this
      go_wp2
      go_ret
      exact says_f HN.out B4.out
    have HP5 : Hid (basesP x.den x.den.length) := by show basesP _ _; rw [HL5.out]; exact HV4.out.1 rfl
    clear HV4
    have p15 : w4.cell? ⟨w.heap.size, 15, none⟩ = some (.slice a7 n7 c7) := (cell_of_row _ _ 15 _ 45 (0, 0) Y4.out).trans rfl
    go_wp2_with fail
    refine (mapsOk_any a7 n7 c7 x.maps _ (HK.out.kept B4.out).r7).mono ?_
    rintro e w5 ⟨v5, rfl, hv5, hb5⟩
    have B5 : Hid (Below w.heap.size w w5) := B4.out.trans (hb5.mono B4.out.size)
    have HIF : Hid (v5 = true ↔ authP x) := ⟨fun e => ⟨fun e2 => (by rw [HCA.out] at e2; cases e2), fun _ => ⟨HF.out.1, HF.out.2.1, HF.out.2.2.1, HF.out.2.2.2, HP4.out, HP5.out, hv5.out.1 e⟩⟩, fun q => hv5.out.2 (q.2 HCA.out).2.2.2.2.2.2⟩
    clear p15 hv5 hb5
    go_wp2
    go_ret
    exact ⟨v5, rfl, HIF, B5.out⟩

end Go.Proofs.YtkpabanjlhlmfaaGreatDoor

set_option linter.unusedVariables false
namespace Go.Proofs.YtkpabanjlhlmfaaGreatDoor
open Go.RowKit

set_option maxRecDepth 10000 in
set_option maxHeartbeats 2000000 in
theorem spanOk_c (s t : Int) (w : World) : Calls Tryz.prog 41 #[.int .i64 s, .int .i64 t] w fun e w' => e = .returned (.bool (decide ((0 ≤ s ∧ s ≤ 253402300799) ∧ (0 ≤ t ∧ t ≤ 253402300799) ∧ s ≤ t))) ∧ w = w' := by
  by_cases h1 : 0 ≤ s ∧ s ≤ 253402300799
  case neg =>
    have HN : Hid (decide ((0 ≤ s ∧ s ≤ 253402300799) ∧ (0 ≤ t ∧ t ≤ 253402300799) ∧ s ≤ t) = false) := decide_eq_false (fun q => h1 q.1)
    go_enter Tryz.func41, Tryz.ntmps41
    go_wp2_with fail
    refine (isTime_any s _).mono ?_
    rintro e w9 ⟨rfl, hw9⟩
    subst hw9
    rw [decide_eq_false h1]
    clear h1
    go_wp2
    go_ret
    exact ⟨by rw [HN.out]; rfl, rfl⟩
  by_cases h2 : 0 ≤ t ∧ t ≤ 253402300799
  case neg =>
    have HN : Hid (decide ((0 ≤ s ∧ s ≤ 253402300799) ∧ (0 ≤ t ∧ t ≤ 253402300799) ∧ s ≤ t) = false) := decide_eq_false (fun q => h2 q.2.1)
    go_enter Tryz.func41, Tryz.ntmps41
    go_wp2_with fail
    refine (isTime_any s _).mono ?_
    rintro e w9 ⟨rfl, hw9⟩
    subst hw9
    rw [decide_eq_true h1]
    clear h1
    go_wp2_with fail
    refine (isTime_any t _).mono ?_
    rintro e w9 ⟨rfl, hw9⟩
    subst hw9
    rw [decide_eq_false h2]
    clear h2
    go_wp2
    go_ret
    exact ⟨by rw [HN.out]; rfl, rfl⟩
  have HN : Hid (decide ((0 ≤ s ∧ s ≤ 253402300799) ∧ (0 ≤ t ∧ t ≤ 253402300799) ∧ s ≤ t) = decide (s ≤ t)) := decide_eq_decide.2 ⟨fun q => q.2.2, fun q => ⟨h1, h2, q⟩⟩
  go_enter Tryz.func41, Tryz.ntmps41
  go_wp2_with fail
  refine (isTime_any s _).mono ?_
  rintro e w9 ⟨rfl, hw9⟩
  subst hw9
  rw [decide_eq_true h1]
  clear h1
  go_wp2_with fail
  refine (isTime_any t _).mono ?_
  rintro e w9 ⟨rfl, hw9⟩
  subst hw9
  rw [decide_eq_true h2]
  clear h2
  go_wp2
  go_ret
  exact ⟨by rw [HN.out]; rfl, rfl⟩

theorem infoSizeC7 : (Tryz.prog.info? 45).map (·.size) = some 21 := by kernel_rfl
theorem wpList_take {P : Program} {ops : Array Oper} {rest : List Oper} {o : Oper} {a : Act} {w : World} {Q : Exit → Act → World → Prop} (j : Nat) (want : Bool) (s : Nat) (hg : o.guard = some (j, want)) (hd : (ops[j]?).bind (·.dst) = some s) (hv : aT a s = .bool want) (h : ∀ K : Act → World → Prop, (∀ a w, wpList P ops Q rest a w → K a w) → o.wp P a w K Q) : wpList P ops Q (o :: rest) a w := wpList_step fun K hK => rk_take j want s hg hd hv (h K hK)

set_option maxRecDepth 10000 in
set_option maxHeartbeats 4000000 in
theorem implCertOk_any (s : CES) (x : CE) (w : World) (hm : MaxW w) (h : CER w s x) (hz : CEZ x) (ht : CET s) (hu : U64 x.key.2.1) :
    Calls Tryz.prog 9 #[CEv s x] w (Says (ceP x) w) := by
  obtain ⟨a1, n1, c1, a2, n2, c2, a3, n3, c3, a4, n4, c4, a5, n5, c5, a6, n6, c6, a7, n7, c7, a8, n8, c8, a9, n9, c9⟩ := s
  have HK : Hid (CER w ⟨a1, n1, c1, a2, n2, c2, a3, n3, c3, a4, n4, c4, a5, n5, c5, a6, n6, c6, a7, n7, c7, a8, n8, c8, a9, n9, c9⟩ x) := h
  have HZ : Hid ((n1 ≤ 1048576 ∧ (∀ k, k < n1 → (x.iss.getD k default).val.size ≤ 1048576)) ∧ (n2 ≤ 1048576 ∧ (∀ k, k < n2 → (x.sub.getD k default).val.size ≤ 1048576)) ∧ (n3 ≤ 1048576 ∧ (∀ k, k < n3 → GeOk (x.nms.getD k default))) ∧ (n4 ≤ 1048576 ∧ (∀ k, k < n4 → GeOk (x.per.getD k default))) ∧ (n5 ≤ 1048576 ∧ (∀ k, k < n5 → GeOk (x.den.getD k default))) ∧ (n6 ≤ 1048576) ∧ (n7 ≤ 1048576) ∧ (n8 ≤ 1048576 ∧ (∀ k, k < n8 → XPZ (x.ext.getD k default))) ∧ (n9 ≤ 1048576)) := h.zn.1 hz
  have HL1 : Hid (x.iss.length = n1) := h.r1.len
  have HL2 : Hid (x.sub.length = n2) := h.r2.len
  have HL3 : Hid (x.nms.length = n3) := h.r3.len
  have HL4 : Hid (x.per.length = n4) := h.r4.len
  have HL5 : Hid (x.den.length = n5) := h.r5.len
  have HL6 : Hid (x.pol.length = n6) := h.r6.len
  have HL7 : Hid (x.maps.length = n7) := h.r7.len
  have HL8 : Hid (x.ext.length = n8) := h.r8.len
  have HL9 : Hid (x.sig.length = n9) := h.r9.len
  have HKN : Hid (∀ W, Below w.heap.size w W → CER W ⟨a1, n1, c1, a2, n2, c2, a3, n3, c3, a4, n4, c4, a5, n5, c5, a6, n6, c6, a7, n7, c7, a8, n8, c8, a9, n9, c9⟩ x) := fun W hW => h.kept hW
  have HX6 : Hid (n6 ≤ 9223372036854775807) := h.m6
  have HX9 : Hid (n9 ≤ 9223372036854775807) := h.m9
  have HM : Hid (MaxW w) := hm
  have HTI : Hid (CET ⟨a1, n1, c1, a2, n2, c2, a3, n3, c3, a4, n4, c4, a5, n5, c5, a6, n6, c6, a7, n7, c7, a8, n8, c8, a9, n9, c9⟩) := ht
  have HAU : Hid (∀ W, Below w.heap.size w W → Calls Tryz.prog 45 #[.agg #[.int .i64 x.ser, .slice a1 n1 c1, .slice a2 n2 c2, .int .i64 x.frm, .int .i64 x.til, .int .i64 x.key.1, .int .u64 x.key.2.1, .int .i64 x.key.2.2, .bool x.ca, .int .i64 x.room, .int .i64 x.uses, .slice a3 n3 c3, .slice a4 n4 c4, .slice a5 n5 c5, .slice a6 n6 c6, .slice a7 n7 c7, .int .i64 x.need, .int .i64 x.nomap, .int .i64 x.noany, .slice a8 n8 c8, .slice a9 n9 c9]] W (Says (authP x) W)) := fun W hW => authorityOk_any ⟨a1, n1, c1, a2, n2, c2, a3, n3, c3, a4, n4, c4, a5, n5, c5, a6, n6, c6, a7, n7, c7, a8, n8, c8, a9, n9, c9⟩ x W (hm.kept hW) (h.kept hW) hz
  clear h hz hm ht
  show Calls Tryz.prog 9 #[.agg #[.int .i64 x.ser, .slice a1 n1 c1, .slice a2 n2 c2, .int .i64 x.frm, .int .i64 x.til, .int .i64 x.key.1, .int .u64 x.key.2.1, .int .i64 x.key.2.2, .bool x.ca, .int .i64 x.room, .int .i64 x.uses, .slice a3 n3 c3, .slice a4 n4 c4, .slice a5 n5 c5, .slice a6 n6 c6, .slice a7 n7 c7, .int .i64 x.need, .int .i64 x.nomap, .int .i64 x.noany, .slice a8 n8 c8, .slice a9 n9 c9]] w _
  obtain ⟨w0, hw0⟩ : ∃ w0, w0 = w.alloc (.cells #[.int .i64 x.ser, .slice a1 n1 c1, .slice a2 n2 c2, .int .i64 x.frm, .int .i64 x.til, .int .i64 x.key.1, .int .u64 x.key.2.1, .int .i64 x.key.2.2, .bool x.ca, .int .i64 x.room, .int .i64 x.uses, .slice a3 n3 c3, .slice a4 n4 c4, .slice a5 n5 c5, .slice a6 n6 c6, .slice a7 n7 c7, .int .i64 x.need, .int .i64 x.nomap, .int .i64 x.noany, .slice a8 n8 c8, .slice a9 n9 c9] 45) := ⟨_, rfl⟩
  have B0 : Hid (Below w.heap.size w w0) := by show Below _ _ _; rw [hw0]; exact (Below.refl _ _).alloc (Nat.le_refl _) _
  have Y0 : Hid (w0.heap[w.heap.size]? = some (.cells #[.int .i64 x.ser, .slice a1 n1 c1, .slice a2 n2 c2, .int .i64 x.frm, .int .i64 x.til, .int .i64 x.key.1, .int .u64 x.key.2.1, .int .i64 x.key.2.2, .bool x.ca, .int .i64 x.room, .int .i64 x.uses, .slice a3 n3 c3, .slice a4 n4 c4, .slice a5 n5 c5, .slice a6 n6 c6, .slice a7 n7 c7, .int .i64 x.need, .int .i64 x.nomap, .int .i64 x.noany, .slice a8 n8 c8, .slice a9 n9 c9] 45)) := by show _ = _; rw [hw0]; exact heap_alloc_new w _
  go_enter Tryz.func9, Tryz.ntmps9
  go_upto_region 1 with fail
  rw [← hw0]
  clear hw0
  have p0 : w0.cell? ⟨w.heap.size, 0, none⟩ = some (.int .i64 x.ser) := (cell_of_row _ _ 0 _ 45 (0, 0) Y0.out).trans rfl
  go_wp2_with fail
  by_cases q1 : 1 ≤ x.ser ∧ x.ser ≤ 4611686018427387904
  case neg =>
    refine (inBounds_any x.ser 1 4611686018427387904 _).mono ?_
    rintro e w9_ ⟨rfl, hw9⟩
    subst hw9
    rw [decide_eq_false q1]
    have HN : Hid (¬ ceP x) := fun q => q1 q.1
    clear q1
    go_wp2
    go_ret
    exact says_f HN.out B0.out
  refine (inBounds_any x.ser 1 4611686018427387904 _).mono ?_
  rintro e w9_ ⟨rfl, hw9⟩
  subst hw9
  rw [decide_eq_true q1]
  have Hq1 : Hid (1 ≤ x.ser ∧ x.ser ≤ 4611686018427387904) := q1
  clear q1
  have p1 : w0.cell? ⟨w.heap.size, 1, none⟩ = some (.slice a1 n1 c1) := (cell_of_row _ _ 1 _ 45 (0, 0) Y0.out).trans rfl
  go_wp2_with fail
  refine (someName_any a1 n1 c1 x.iss _ ((HKN.out _ B0.out).r1) HZ.out.1.2).mono ?_
  rintro e w1 ⟨v_, rfl, hv_, hb_⟩
  have B1 : Hid (Below w.heap.size w w1) := B0.out.trans (hb_.mono B0.out.size)
  have Y1 : Hid (w1.heap[w.heap.size]? = some (.cells #[.int .i64 x.ser, .slice a1 n1 c1, .slice a2 n2 c2, .int .i64 x.frm, .int .i64 x.til, .int .i64 x.key.1, .int .u64 x.key.2.1, .int .i64 x.key.2.2, .bool x.ca, .int .i64 x.room, .int .i64 x.uses, .slice a3 n3 c3, .slice a4 n4 c4, .slice a5 n5 c5, .slice a6 n6 c6, .slice a7 n7 c7, .int .i64 x.need, .int .i64 x.nomap, .int .i64 x.noany, .slice a8 n8 c8, .slice a9 n9 c9] 45)) := (hb_.block _ (Array.getElem?_eq_some_iff.1 Y0.out).1).trans Y0.out
  have HV : Hid _ := hv_
  clear hv_ hb_
  clear p0 p1
  rcases v_ with _ | _
  · have HN : Hid (¬ ceP x) := fun q => by have := HV.out.2 (q.2.1); cases this
    go_wp2
    go_ret
    exact says_f HN.out B1.out
  have Hq2 : Hid (calledP x.iss) := HV.out.1 rfl
  clear HV
  have p2 : w1.cell? ⟨w.heap.size, 2, none⟩ = some (.slice a2 n2 c2) := (cell_of_row _ _ 2 _ 45 (0, 0) Y1.out).trans rfl
  have p11 : w1.cell? ⟨w.heap.size, 11, none⟩ = some (.slice a3 n3 c3) := (cell_of_row _ _ 11 _ 45 (0, 0) Y1.out).trans rfl
  go_wp2_with fail
  refine (ownerOk_any a2 n2 c2 x.sub a3 n3 c3 x.nms _ (HM.out.kept B1.out) ((HKN.out _ B1.out).r2) HZ.out.2.1.2 ((HKN.out _ B1.out).r3) HZ.out.2.2.1.2 HZ.out.2.1.1 HZ.out.2.2.1.1).mono ?_
  rintro e w2 ⟨v_, rfl, hv_, hb_⟩
  have B2 : Hid (Below w.heap.size w w2) := B1.out.trans (hb_.mono B1.out.size)
  have Y2 : Hid (w2.heap[w.heap.size]? = some (.cells #[.int .i64 x.ser, .slice a1 n1 c1, .slice a2 n2 c2, .int .i64 x.frm, .int .i64 x.til, .int .i64 x.key.1, .int .u64 x.key.2.1, .int .i64 x.key.2.2, .bool x.ca, .int .i64 x.room, .int .i64 x.uses, .slice a3 n3 c3, .slice a4 n4 c4, .slice a5 n5 c5, .slice a6 n6 c6, .slice a7 n7 c7, .int .i64 x.need, .int .i64 x.nomap, .int .i64 x.noany, .slice a8 n8 c8, .slice a9 n9 c9] 45)) := (hb_.block _ (Array.getElem?_eq_some_iff.1 Y1.out).1).trans Y1.out
  have HV : Hid _ := hv_
  clear hv_ hb_
  clear p2 p11
  rcases v_ with _ | _
  · have HN : Hid (¬ ceP x) := fun q => by have := HV.out.2 (q.2.2.1); cases this
    go_wp2
    go_ret
    exact says_f HN.out B2.out
  have Hq3 : Hid (ownP x.sub x.nms) := HV.out.1 rfl
  clear HV
  have p3 : w2.cell? ⟨w.heap.size, 3, none⟩ = some (.int .i64 x.frm) := (cell_of_row _ _ 3 _ 45 (0, 0) Y2.out).trans rfl
  have p4 : w2.cell? ⟨w.heap.size, 4, none⟩ = some (.int .i64 x.til) := (cell_of_row _ _ 4 _ 45 (0, 0) Y2.out).trans rfl
  go_wp2_with fail
  by_cases q4 : (0 ≤ x.frm ∧ x.frm ≤ 253402300799) ∧ (0 ≤ x.til ∧ x.til ≤ 253402300799) ∧ x.frm ≤ x.til
  case neg =>
    refine (spanOk_c x.frm x.til _).mono ?_
    rintro e w9_ ⟨rfl, hw9⟩
    subst hw9
    rw [decide_eq_false q4]
    have HN : Hid (¬ ceP x) := fun q => q4 q.2.2.2.1
    clear q4
    go_wp2
    go_ret
    exact says_f HN.out B2.out
  refine (spanOk_c x.frm x.til _).mono ?_
  rintro e w9_ ⟨rfl, hw9⟩
  subst hw9
  rw [decide_eq_true q4]
  have Hq4 : Hid ((0 ≤ x.frm ∧ x.frm ≤ 253402300799) ∧ (0 ≤ x.til ∧ x.til ≤ 253402300799) ∧ x.frm ≤ x.til) := q4
  clear q4
  have p5 : w2.cell? ⟨w.heap.size, 5, none⟩ = some (.int .i64 x.key.1) := (cell_of_row _ _ 5 _ 45 (0, 0) Y2.out).trans rfl
  have p6 : w2.cell? ⟨w.heap.size, 6, none⟩ = some (.int .u64 x.key.2.1) := (cell_of_row _ _ 6 _ 45 (0, 0) Y2.out).trans rfl
  have p7 : w2.cell? ⟨w.heap.size, 7, none⟩ = some (.int .i64 x.key.2.2) := (cell_of_row _ _ 7 _ 45 (0, 0) Y2.out).trans rfl
  go_wp2_with fail
  refine (pubOk_any x.key.1 x.key.2.1 x.key.2.2 _ hu).mono ?_
  rintro e w3 ⟨rfl, hb_⟩
  have B3 : Hid (Below w.heap.size w w3) := B2.out.trans (hb_.mono B2.out.size)
  have Y3 : Hid (w3.heap[w.heap.size]? = some (.cells #[.int .i64 x.ser, .slice a1 n1 c1, .slice a2 n2 c2, .int .i64 x.frm, .int .i64 x.til, .int .i64 x.key.1, .int .u64 x.key.2.1, .int .i64 x.key.2.2, .bool x.ca, .int .i64 x.room, .int .i64 x.uses, .slice a3 n3 c3, .slice a4 n4 c4, .slice a5 n5 c5, .slice a6 n6 c6, .slice a7 n7 c7, .int .i64 x.need, .int .i64 x.nomap, .int .i64 x.noany, .slice a8 n8 c8, .slice a9 n9 c9] 45)) := (hb_.block _ (Array.getElem?_eq_some_iff.1 Y2.out).1).trans Y2.out
  clear hb_
  clear p3 p4 p5 p6 p7
  by_cases q5 : pubP x.key.1 x.key.2.1 x.key.2.2
  case neg =>
    rw [decide_eq_false q5]
    have HN : Hid (¬ ceP x) := fun q => q5 (q.2.2.2.2.1)
    clear q5
    go_wp2
    go_ret
    exact says_f HN.out B3.out
  rw [decide_eq_true q5]
  have Hq5 : Hid (pubP x.key.1 x.key.2.1 x.key.2.2) := q5
  clear q5
  have p10 : w3.cell? ⟨w.heap.size, 10, none⟩ = some (.int .i64 x.uses) := (cell_of_row _ _ 10 _ 45 (0, 0) Y3.out).trans rfl
  go_wp2_with fail
  by_cases q6 : 0 ≤ x.uses ∧ x.uses ≤ 255
  case neg =>
    refine (inBounds_any x.uses 0 255 _).mono ?_
    rintro e w9_ ⟨rfl, hw9⟩
    subst hw9
    rw [decide_eq_false q6]
    have HN : Hid (¬ ceP x) := fun q => q6 q.2.2.2.2.2.1
    clear q6
    go_wp2
    go_ret
    exact says_f HN.out B3.out
  refine (inBounds_any x.uses 0 255 _).mono ?_
  rintro e w9_ ⟨rfl, hw9⟩
  subst hw9
  rw [decide_eq_true q6]
  have Hq6 : Hid (0 ≤ x.uses ∧ x.uses ≤ 255) := q6
  clear q6
  have p14 : w3.cell? ⟨w.heap.size, 14, none⟩ = some (.slice a6 n6 c6) := (cell_of_row _ _ 14 _ 45 (0, 0) Y3.out).trans rfl
  go_wp2_with fail
  refine (policiesOk_any a6 n6 c6 x.pol _ ((HKN.out _ B3.out).r6) (by have := HTI.out.2.2.2.2.2.1; show n6 ≤ c6; have h2 : c6 = n6 := this; omega) (by have := HTI.out.2.2.2.2.2.1; have h2 : c6 = n6 := this; have := HX6.out; omega)).mono ?_
  rintro e w4 ⟨v_, rfl, hv_, hb_⟩
  have B4 : Hid (Below w.heap.size w w4) := B3.out.trans (hb_.mono B3.out.size)
  have Y4 : Hid (w4.heap[w.heap.size]? = some (.cells #[.int .i64 x.ser, .slice a1 n1 c1, .slice a2 n2 c2, .int .i64 x.frm, .int .i64 x.til, .int .i64 x.key.1, .int .u64 x.key.2.1, .int .i64 x.key.2.2, .bool x.ca, .int .i64 x.room, .int .i64 x.uses, .slice a3 n3 c3, .slice a4 n4 c4, .slice a5 n5 c5, .slice a6 n6 c6, .slice a7 n7 c7, .int .i64 x.need, .int .i64 x.nomap, .int .i64 x.noany, .slice a8 n8 c8, .slice a9 n9 c9] 45)) := (hb_.block _ (Array.getElem?_eq_some_iff.1 Y3.out).1).trans Y3.out
  have HV : Hid _ := hv_
  clear hv_ hb_
  clear p10 p14
  rcases v_ with _ | _
  · have HN : Hid (¬ ceP x) := fun q => by have := HV.out.2 (q.2.2.2.2.2.2.1); cases this
    go_wp2
    go_ret
    exact says_f HN.out B4.out
  have Hq7 : Hid (polsP x.pol) := HV.out.1 rfl
  clear HV
  have p19 : w4.cell? ⟨w.heap.size, 19, none⟩ = some (.slice a8 n8 c8) := (cell_of_row _ _ 19 _ 45 (0, 0) Y4.out).trans rfl
  go_wp2_with fail
  refine (extsOk_any a8 n8 c8 x.ext _ ((HKN.out _ B4.out).r8)).mono ?_
  rintro e w5 ⟨v_, rfl, hv_, hb_⟩
  have B5 : Hid (Below w.heap.size w w5) := B4.out.trans (hb_.mono B4.out.size)
  have Y5 : Hid (w5.heap[w.heap.size]? = some (.cells #[.int .i64 x.ser, .slice a1 n1 c1, .slice a2 n2 c2, .int .i64 x.frm, .int .i64 x.til, .int .i64 x.key.1, .int .u64 x.key.2.1, .int .i64 x.key.2.2, .bool x.ca, .int .i64 x.room, .int .i64 x.uses, .slice a3 n3 c3, .slice a4 n4 c4, .slice a5 n5 c5, .slice a6 n6 c6, .slice a7 n7 c7, .int .i64 x.need, .int .i64 x.nomap, .int .i64 x.noany, .slice a8 n8 c8, .slice a9 n9 c9] 45)) := (hb_.block _ (Array.getElem?_eq_some_iff.1 Y4.out).1).trans Y4.out
  have HV : Hid _ := hv_
  clear hv_ hb_
  clear p19
  rcases v_ with _ | _
  · have HN : Hid (¬ ceP x) := fun q => by have := HV.out.2 (q.2.2.2.2.2.2.2.1); cases this
    go_wp2
    go_ret
    exact says_f HN.out B5.out
  have Hq8 : Hid (extsP x.ext) := HV.out.1 rfl
  clear HV
  have p20 : w5.cell? ⟨w.heap.size, 20, none⟩ = some (.slice a9 n9 c9) := (cell_of_row _ _ 20 _ 45 (0, 0) Y5.out).trans rfl
  by_cases q9 : (n9 : Int) ≤ 500
  case neg =>
    have HN : Hid (¬ ceP x) := fun q => by have := q.2.2.2.2.2.2.2.2.1; rw [HL9.out] at this; omega
    go_wp2
    go_ret
    exact says_f HN.out B5.out
  have Hq9 : Hid (x.sig.length ≤ 500) := by show x.sig.length ≤ 500; rw [HL9.out]; omega
  go_wp2_with (first | (refine wpList_take 48 true 51 rfl rfl rfl ?_; intro K hK; refine wp_load_row 45 _ rfl w.heap.size rfl 45 #[.int .i64 x.ser, .slice a1 n1 c1, .slice a2 n2 c2, .int .i64 x.frm, .int .i64 x.til, .int .i64 x.key.1, .int .u64 x.key.2.1, .int .i64 x.key.2.2, .bool x.ca, .int .i64 x.room, .int .i64 x.uses, .slice a3 n3 c3, .slice a4 n4 c4, .slice a5 n5 c5, .slice a6 n6 c6, .slice a7 n7 c7, .int .i64 x.need, .int .i64 x.nomap, .int .i64 x.noany, .slice a8 n8 c8, .slice a9 n9 c9] (0, 0) _ Y5.out Tryz.underlying45 rfl infoSizeC7 ?_; apply hK) | fail)
  refine (HAU.out _ B5.out).mono ?_
  rintro e w6 ⟨v_, rfl, hv_, hb_⟩
  have B6 : Hid (Below w.heap.size w w6) := B5.out.trans (hb_.mono B5.out.size)
  have HIF : Hid (v_ = true ↔ ceP x) := ⟨fun e => ⟨Hq1.out, Hq2.out, Hq3.out, Hq4.out, Hq5.out, Hq6.out, Hq7.out, Hq8.out, Hq9.out, hv_.out.1 e⟩, fun q => hv_.out.2 q.2.2.2.2.2.2.2.2.2⟩
  clear hv_ hb_ q9
  clear p20
  go_wp2
  go_ret
  exact ⟨v_, rfl, HIF, B6.out⟩

end Go.Proofs.YtkpabanjlhlmfaaGreatDoor

