import Derived.Test.YtglpbgebcpijaaaGreatRO1r
import Derived.Test.YtglpbgebcpijaaaGreatFS1r
import Derived.Test.YtglpbgebcpijaaaGreatETe
set_option linter.unusedVariables false
namespace Go.Proofs.YtglpbgebcpijaaaGreat
open Go.RowKit

def KT : Nat → Nat → Prop := fun _ _ => True
theorem Ros.weak {K : Nat → Nat → Prop} {w : World} {a : Option Addr} {n : Nat} {xs : List RoP} (h : Ros K w a n xs) : Ros KT w a n xs := by
  refine ⟨h.len, h.max, fun k hk => ?_⟩
  obtain ⟨b, off, a1, n1, c1, h1, h2, h3, h4, h5, h6, _⟩ := h.get k hk
  exact ⟨b, off, a1, n1, c1, h1, h2, h3, h4, h5, h6, trivial⟩
theorem Fss.weak {K : Nat → Nat → Prop} {w : World} {a : Option Addr} {n : Nat} {xs : List FsP} (h : Fss K w a n xs) : Fss KT w a n xs := by
  refine ⟨h.len, h.max, fun k hk => ?_⟩
  obtain ⟨b, off, a1, n1, c1, h1, h2, h3, h4, h5, h6, _⟩ := h.get k hk
  exact ⟨b, off, a1, n1, c1, h1, h2, h3, h4, h5, h6, trivial⟩
theorem OwnTe.touch5 {B lo hi : Nat} {w w' : World} {a : Option Addr} {n cap : Nat} {ps : List (Int × Int)} (h : OwnTe B w a n cap ps) (ht : Touch lo hi w w') (hd : hi ≤ B) : OwnTe B w' a n cap ps := by
  refine ⟨⟨h.row.1, ?_⟩, h.rng⟩
  rcases h.row.2 with h0 | ⟨g, cap', cur, hv, hb, hh, rest⟩
  · exact .inl h0
  · exact .inr ⟨g, cap', cur, hv, hb, (ht.block g (Array.getElem?_eq_some_iff.1 hh).1 (.inr (by omega))).trans hh, rest⟩

structure RfP where
  v : Int
  e : Int
  rs : List RoP
  ss : List FsP

set_option maxRecDepth 10000 in
set_option maxHeartbeats 2000000 in
theorem szRootFile_any (x : RfP) (a0 : Option Addr) (n0 c0 : Nat) (a1 : Option Addr) (n1 c1 : Nat) (l : Int) (w : World) (r0 : Ros KT w a0 n0 x.rs) (m0 : n0 ≤ 9223372036854775807) (r1 : Fss KT w a1 n1 x.ss) (m1 : n1 ≤ 9223372036854775807) (h0 : 0 ≤ l) (h1 : l ≤ 1048576) :
    Calls Tryz.prog 19 #[.agg #[.int .i64 x.v, .int .i64 x.e, .slice a0 n0 c0, .slice a1 n1 c1], .int .i64 l] w fun e w' => ∃ r, e = .returned (.int .i64 r) ∧ (r < 0 ∨ (0 ≤ r ∧ r ≤ 1048576 ∧ (n0 ≤ 1048576 ∧ ∀ k, k < n0 → (x.rs.getD k default).ks.length ≤ 1048576) ∧ (n1 ≤ 1048576 ∧ ∀ k, k < n1 → (x.ss.getD k default).sg.length ≤ 1048576))) ∧ Below w.heap.size w w' := by
  obtain ⟨w1, hw1⟩ : ∃ w1, w1 = w.alloc (.cells #[.int .i64 x.v, .int .i64 x.e, .slice a0 n0 c0, .slice a1 n1 c1] 25) := ⟨_, rfl⟩
  have hbb : Below w.heap.size w w1 := by rw [hw1]; exact (Below.refl _ _).alloc (Nat.le_refl _) _
  have HB : Hid (w1.heap[w.heap.size]? = some (.cells #[.int .i64 x.v, .int .i64 x.e, .slice a0 n0 c0, .slice a1 n1 c1] 25 (0, 0))) := by show _ = _; rw [hw1]; exact heap_alloc_new w _
  have HW : Hid (_ = _) := hw1
  have HR0 : Hid (∀ W, Below w.heap.size w W → Ros KT W a0 n0 x.rs) := fun W hW => r0.kept hW
  have HR1 : Hid (∀ W, Below w.heap.size w W → Fss KT W a1 n1 x.ss) := fun W hW => r1.kept hW
  clear hw1 r0 r1
  have l0 : w1.cell? ⟨w.heap.size, 2, none⟩ = some (.slice a0 n0 c0) := (cell_of_row _ _ 2 _ 25 (0, 0) HB.out).trans rfl
  go_enter Tryz.func19, Tryz.ntmps19
  go_upto_region 1 with fail
  rw [← HW.out]
  clear HW
  go_wp2_with fail
  refine (szRoleS_any KT a0 n0 c0 x.rs l _ (HR0.out _ hbb) h0 h1).mono ?_
  rintro e v0 ⟨r0, rfl, hr0, hb0⟩
  clear l0
  have kb0 : Below w1.heap.size w1 v0 := hb0
  have hh0 : Below w.heap.size w v0 := keepT hbb kb0
  by_cases g0 : r0 < 0
  · clear hr0
    go_wp2
    go_ret
    exact ⟨_, rfl, .inl (by decide), hh0⟩
  have H0 : Hid (0 ≤ r0 ∧ r0 ≤ 1048576 ∧ (n0 ≤ 1048576 ∧ ∀ k, k < n0 → (x.rs.getD k default).ks.length ≤ 1048576)) := hr0.resolve_left g0
  have b0 : 0 ≤ r0 ∧ r0 ≤ 1048576 := ⟨H0.out.1, H0.out.2.1⟩
  clear hr0
  have l0 : v0.cell? ⟨w.heap.size, 3, none⟩ = some (.slice a1 n1 c1) := (cell_of_row _ _ 3 _ 25 (0, 0) (below_kept HB.out kb0)).trans rfl
  go_wp2_with fail
  refine (szFileSigS_any KT a1 n1 c1 x.ss r0 _ (HR1.out _ hh0) b0.1 b0.2).mono ?_
  rintro e v1 ⟨r1, rfl, hr1, hb1⟩
  clear l0
  have kb1 : Below w1.heap.size w1 v1 := keepT kb0 hb1
  have hh1 : Below w.heap.size w v1 := keepT hbb kb1
  by_cases g1 : r1 < 0
  · clear hr1
    go_wp2
    go_ret
    exact ⟨_, rfl, .inl (by decide), hh1⟩
  have H1 : Hid (0 ≤ r1 ∧ r1 ≤ 1048576 ∧ (n1 ≤ 1048576 ∧ ∀ k, k < n1 → (x.ss.getD k default).sg.length ≤ 1048576)) := hr1.resolve_left g1
  have b1 : 0 ≤ r1 ∧ r1 ≤ 1048576 := ⟨H1.out.1, H1.out.2.1⟩
  clear hr1
  go_wp2
  go_ret
  exact ⟨_, rfl, .inr ⟨b1.1, b1.2, H0.out.2.2, H1.out.2.2⟩, hh1⟩

theorem results_Rf {fn : Func} {t : Tmp} (h : fn.results = #[.cell t 41]) (tmps : Array Value) (g : Nat) (ht : tmps.getD t undef = .pointer (some ⟨g, 0, none⟩)) (w : World) (c0 c1 c2 c3 : Value)
    (hb : w.heap[g]? = some (.cells #[c0, c1, c2, c3] 41 (0, 0))) : (results fn tmps).run Tryz.prog w = .ok (.agg #[c0, c1, c2, c3]) w := by
  have d0 : w.cell? ⟨g, 0, none⟩ = some c0 := (cell_of_row _ g 0 _ 41 (0, 0) hb).trans rfl
  have d1 : w.cell? ⟨g, 1, none⟩ = some c1 := (cell_of_row _ g 1 _ 41 (0, 0) hb).trans rfl
  have d2 : w.cell? ⟨g, 2, none⟩ = some c2 := (cell_of_row _ g 2 _ 41 (0, 0) hb).trans rfl
  have d3 : w.cell? ⟨g, 3, none⟩ = some c3 := (cell_of_row _ g 3 _ 41 (0, 0) hb).trans rfl
  clear hb
  have ht' : tmps[t]?.getD undef = .pointer (some ⟨g, 0, none⟩) := by rw [← ht]; simp
  simp [results, h, go_sem, ht', d0, d1, d2, d3]
def putRf (w : World) (g : Nat) (u0 u1 u2 u3 : Value) : World := (((w.setCell ⟨g, 0, none⟩ u0).setCell ⟨g, 1, none⟩ u1).setCell ⟨g, 2, none⟩ u2).setCell ⟨g, 3, none⟩ u3
theorem putRf_touch (w : World) (g : Nat) (u0 u1 u2 u3 : Value) : Touch g (g + 1) w (putRf w g u0 u1 u2 u3) := (((touch_set1 w g 0 u0).trans (touch_set1 _ g 1 u1)).trans (touch_set1 _ g 2 u2)).trans (touch_set1 _ g 3 u3)
theorem putRf_heap {w : World} {g t : Nat} {c0 c1 c2 c3 : Value} (h : w.heap[g]? = some (.cells #[c0, c1, c2, c3] t (0, 0))) (u0 u1 u2 u3 : Value) : (putRf w g u0 u1 u2 u3).heap[g]? = some (.cells #[u0, u1, u2, u3] t (0, 0)) := heap_setCell_same _ _ 3 _ t _ (heap_setCell_same _ _ 2 _ t _ (heap_setCell_same _ _ 1 _ t _ (heap_setCell_same _ _ 0 _ t _ (h))))

set_option maxRecDepth 10000 in
set_option maxHeartbeats 4000000 in
theorem toRootFile_any (x : RfP) (a0 : Option Addr) (n0 c0 : Nat) (a1 : Option Addr) (n1 c1 : Nat) (w : World) (r0 : Ros KT w a0 n0 x.rs) (m0 : n0 ≤ 9223372036854775807) (r1 : Fss KT w a1 n1 x.ss) (m1 : n1 ≤ 9223372036854775807) (q0 : (n0 ≤ 1048576 ∧ ∀ k, k < n0 → (x.rs.getD k default).ks.length ≤ 1048576)) (q1 : (n1 ≤ 1048576 ∧ ∀ k, k < n1 → (x.ss.getD k default).sg.length ≤ 1048576)) :
    Calls Tryz.prog 28 #[.agg #[.int .i64 x.v, .int .i64 x.e, .slice a0 n0 c0, .slice a1 n1 c1]] w fun e w' => ∃ p0 p1, e = .returned (.agg #[.int .i64 x.v, .int .i64 x.e, .slice p0 n0 n0, .slice p1 n1 n1]) ∧ KeepB w.heap.size w' (fun W => Ros KT W p0 n0 x.rs) ∧ KeepB w.heap.size w' (fun W => Fss KT W p1 n1 x.ss) ∧ Below w.heap.size w w' := by
  obtain ⟨w1, hw1⟩ : ∃ w1, w1 = ((w.alloc (.cells #[.int .i64 x.v, .int .i64 x.e, .slice a0 n0 c0, .slice a1 n1 c1] 25)).alloc (.cells #[.int .i64 0, .int .i64 0, .slice none 0 0, .slice none 0 0] 41)).alloc (.cells #[.int .i64 x.v, .int .i64 x.e, .slice none 0 0, .slice none 0 0] 41) := ⟨_, rfl⟩
  have hbb : Below w.heap.size w w1 := by rw [hw1]; exact (((Below.refl _ _).alloc (Nat.le_refl _) _).alloc (by simp) _).alloc (by simp; omega) _
  have hsz : w1.heap.size = w.heap.size + 3 := by rw [hw1]; simp
  have HBX : Hid (_ ∧ _ ∧ _) := heap_alloc2_newH w (.cells #[.int .i64 x.v, .int .i64 x.e, .slice a0 n0 c0, .slice a1 n1 c1] 25) (.cells #[.int .i64 0, .int .i64 0, .slice none 0 0, .slice none 0 0] 41) (.cells #[.int .i64 x.v, .int .i64 x.e, .slice none 0 0, .slice none 0 0] 41)
  rw [← hw1] at HBX
  have HW : Hid (_ = _) := hw1
  have HR0 : Hid (∀ W, Below w.heap.size w W → Ros KT W a0 n0 x.rs) := fun W hW => r0.kept hW
  have HQ0 : Hid ((n0 ≤ 1048576 ∧ ∀ k, k < n0 → (x.rs.getD k default).ks.length ≤ 1048576)) := q0
  have HR1 : Hid (∀ W, Below w.heap.size w W → Fss KT W a1 n1 x.ss) := fun W hW => r1.kept hW
  have HQ1 : Hid ((n1 ≤ 1048576 ∧ ∀ k, k < n1 → (x.ss.getD k default).sg.length ≤ 1048576)) := q1
  clear hw1 r0 q0 r1 q1
  have l0 : w1.cell? ⟨w.heap.size, 2, none⟩ = some (.slice a0 n0 c0) := (cell_of_row _ _ 2 _ 25 (0, 0) HBX.out.1).trans rfl
  go_enter Tryz.func28, Tryz.ntmps28
  go_upto_region 4 with fail
  rw [← HW.out]
  clear HW
  go_wp2_with fail
  refine (toRoleS_any KT a0 n0 c0 x.rs _ (HR0.out _ hbb) HQ0.out.1 HQ0.out.2).mono ?_
  rintro e v0 ⟨p0, rfl, hk0, hb0⟩
  clear l0
  have hk0 : KeepB w1.heap.size v0 (fun W => Ros KT W p0 n0 x.rs) := hk0.map (fun W h => h.weak)
  have HK0 : Hid (KeepB (w.heap.size + 3) v0 (fun W => Ros KT W p0 n0 x.rs)) := hk0.mono (by omega)
  have hw0 : Below w.heap.size w v0 := hbb.trans (hb0.mono hbb.size)
  have hz0 : w.heap.size + 3 ≤ v0.heap.size := by have := hb0.size; omega
  have HBX0 : Hid (v0.heap[w.heap.size]? = some (.cells #[.int .i64 x.v, .int .i64 x.e, .slice a0 n0 c0, .slice a1 n1 c1] 25 (0, 0)) ∧ v0.heap[w.heap.size + 1]? = some (.cells #[.int .i64 0, .int .i64 0, .slice none 0 0, .slice none 0 0] 41 (0, 0)) ∧ v0.heap[w.heap.size + 1 + 1]? = some (.cells #[.int .i64 x.v, .int .i64 x.e, .slice none 0 0, .slice none 0 0] 41 (0, 0))) := ⟨below_kept HBX.out.1 hb0, below_kept HBX.out.2.1 hb0, below_kept HBX.out.2.2 hb0⟩
  have x0 : v0.cell? ⟨w.heap.size + 1 + 1, 0, none⟩ = some (.int .i64 x.v) := (cell_of_row _ _ 0 _ 41 (0, 0) HBX0.out.2.2).trans rfl
  have y0 : v0.frozen? ⟨w.heap.size + 1 + 1, 0, none⟩ = false := frozen_of_row v0 _ 0 _ 41 HBX0.out.2.2
  have x1 : v0.cell? ⟨w.heap.size + 1 + 1, 1, none⟩ = some (.int .i64 x.e) := (cell_of_row _ _ 1 _ 41 (0, 0) HBX0.out.2.2).trans rfl
  have y1 : v0.frozen? ⟨w.heap.size + 1 + 1, 1, none⟩ = false := frozen_of_row v0 _ 1 _ 41 HBX0.out.2.2
  have x2 : v0.cell? ⟨w.heap.size + 1 + 1, 2, none⟩ = some (.slice none 0 0) := (cell_of_row _ _ 2 _ 41 (0, 0) HBX0.out.2.2).trans rfl
  have y2 : v0.frozen? ⟨w.heap.size + 1 + 1, 2, none⟩ = false := frozen_of_row v0 _ 2 _ 41 HBX0.out.2.2
  have x3 : v0.cell? ⟨w.heap.size + 1 + 1, 3, none⟩ = some (.slice none 0 0) := (cell_of_row _ _ 3 _ 41 (0, 0) HBX0.out.2.2).trans rfl
  have y3 : v0.frozen? ⟨w.heap.size + 1 + 1, 3, none⟩ = false := frozen_of_row v0 _ 3 _ 41 HBX0.out.2.2
  have l3 : v0.cell? ⟨w.heap.size, 3, none⟩ = some (.slice a1 n1 c1) := (cell_of_row _ _ 3 _ 25 (0, 0) HBX0.out.1).trans rfl
  obtain ⟨z0, hz0⟩ : ∃ z, z = (v0.setCell ⟨w.heap.size + 1 + 1, 2, none⟩ (.slice p0 n0 n0)) := ⟨_, rfl⟩
  have ht0 : Touch (w.heap.size + 1 + 1) (w.heap.size + 1 + 1 + 1) v0 z0 := by rw [hz0]; exact touch_set1 _ _ _ _
  have HBY0 : Hid (z0.heap[w.heap.size]? = some (.cells #[.int .i64 x.v, .int .i64 x.e, .slice a0 n0 c0, .slice a1 n1 c1] 25 (0, 0)) ∧ z0.heap[w.heap.size + 1]? = some (.cells #[.int .i64 0, .int .i64 0, .slice none 0 0, .slice none 0 0] 41 (0, 0)) ∧ z0.heap[w.heap.size + 1 + 1]? = some (.cells #[.int .i64 x.v, .int .i64 x.e, .slice p0 n0 n0, .slice none 0 0] 41 (0, 0))) := ⟨touch_kept ht0 HBX0.out.1 (by omega), touch_kept ht0 HBX0.out.2.1 (by omega), by rw [hz0]; exact (heap_setCell_same _ _ 2 _ _ _ HBX0.out.2.2)⟩
  have HK0 : Hid (KeepB (w.heap.size + 3) z0 (fun W => Ros KT W p0 n0 x.rs)) := HK0.out.touch ht0 (by omega)
  have hy0 : Below w.heap.size w z0 := hw0.trans (ht0.below (by omega) (by omega))
  have hq0 : w.heap.size + 3 ≤ z0.heap.size := by have := ht0.size; omega
  have HZ0 : Hid (_ = _) := hz0
  clear hz0 hk0 hb0
  go_upto_region 5 with fail
  rw [← HZ0.out]
  clear HZ0 x0 y0 x1 y1 x2 y2 x3 y3 l3
  have l0 : z0.cell? ⟨w.heap.size, 3, none⟩ = some (.slice a1 n1 c1) := (cell_of_row _ _ 3 _ 25 (0, 0) HBY0.out.1).trans rfl
  have x0 : z0.cell? ⟨w.heap.size + 1 + 1, 0, none⟩ = some (.int .i64 x.v) := (cell_of_row _ _ 0 _ 41 (0, 0) HBY0.out.2.2).trans rfl
  have y0 : z0.frozen? ⟨w.heap.size + 1 + 1, 0, none⟩ = false := frozen_of_row z0 _ 0 _ 41 HBY0.out.2.2
  have x1 : z0.cell? ⟨w.heap.size + 1 + 1, 1, none⟩ = some (.int .i64 x.e) := (cell_of_row _ _ 1 _ 41 (0, 0) HBY0.out.2.2).trans rfl
  have y1 : z0.frozen? ⟨w.heap.size + 1 + 1, 1, none⟩ = false := frozen_of_row z0 _ 1 _ 41 HBY0.out.2.2
  have x2 : z0.cell? ⟨w.heap.size + 1 + 1, 2, none⟩ = some (.slice p0 n0 n0) := (cell_of_row _ _ 2 _ 41 (0, 0) HBY0.out.2.2).trans rfl
  have y2 : z0.frozen? ⟨w.heap.size + 1 + 1, 2, none⟩ = false := frozen_of_row z0 _ 2 _ 41 HBY0.out.2.2
  have x3 : z0.cell? ⟨w.heap.size + 1 + 1, 3, none⟩ = some (.slice none 0 0) := (cell_of_row _ _ 3 _ 41 (0, 0) HBY0.out.2.2).trans rfl
  have y3 : z0.frozen? ⟨w.heap.size + 1 + 1, 3, none⟩ = false := frozen_of_row z0 _ 3 _ 41 HBY0.out.2.2
  go_wp2_with fail
  refine (toFileSigS_any KT a1 n1 c1 x.ss _ (HR1.out _ hy0) HQ1.out.1 HQ1.out.2).mono ?_
  rintro e v1 ⟨p1, rfl, hk1, hb1⟩
  clear l0 x0 y0 x1 y1 x2 y2 x3 y3
  have hk1 : KeepB z0.heap.size v1 (fun W => Fss KT W p1 n1 x.ss) := hk1.map (fun W h => h.weak)
  have HK1 : Hid (KeepB (w.heap.size + 3) v1 (fun W => Fss KT W p1 n1 x.ss)) := hk1.mono (by omega)
  have HK0 : Hid (KeepB (w.heap.size + 3) v1 (fun W => Ros KT W p0 n0 x.rs)) := HK0.out.kept hb1
  have hw1 : Below w.heap.size w v1 := hy0.trans (hb1.mono hy0.size)
  have hz1 : w.heap.size + 3 ≤ v1.heap.size := by have := hb1.size; omega
  have HBX1 : Hid (v1.heap[w.heap.size]? = some (.cells #[.int .i64 x.v, .int .i64 x.e, .slice a0 n0 c0, .slice a1 n1 c1] 25 (0, 0)) ∧ v1.heap[w.heap.size + 1]? = some (.cells #[.int .i64 0, .int .i64 0, .slice none 0 0, .slice none 0 0] 41 (0, 0)) ∧ v1.heap[w.heap.size + 1 + 1]? = some (.cells #[.int .i64 x.v, .int .i64 x.e, .slice p0 n0 n0, .slice none 0 0] 41 (0, 0))) := ⟨below_kept HBY0.out.1 hb1, below_kept HBY0.out.2.1 hb1, below_kept HBY0.out.2.2 hb1⟩
  have x0 : v1.cell? ⟨w.heap.size + 1 + 1, 0, none⟩ = some (.int .i64 x.v) := (cell_of_row _ _ 0 _ 41 (0, 0) HBX1.out.2.2).trans rfl
  have y0 : v1.frozen? ⟨w.heap.size + 1 + 1, 0, none⟩ = false := frozen_of_row v1 _ 0 _ 41 HBX1.out.2.2
  have x1 : v1.cell? ⟨w.heap.size + 1 + 1, 1, none⟩ = some (.int .i64 x.e) := (cell_of_row _ _ 1 _ 41 (0, 0) HBX1.out.2.2).trans rfl
  have y1 : v1.frozen? ⟨w.heap.size + 1 + 1, 1, none⟩ = false := frozen_of_row v1 _ 1 _ 41 HBX1.out.2.2
  have x2 : v1.cell? ⟨w.heap.size + 1 + 1, 2, none⟩ = some (.slice p0 n0 n0) := (cell_of_row _ _ 2 _ 41 (0, 0) HBX1.out.2.2).trans rfl
  have y2 : v1.frozen? ⟨w.heap.size + 1 + 1, 2, none⟩ = false := frozen_of_row v1 _ 2 _ 41 HBX1.out.2.2
  have x3 : v1.cell? ⟨w.heap.size + 1 + 1, 3, none⟩ = some (.slice none 0 0) := (cell_of_row _ _ 3 _ 41 (0, 0) HBX1.out.2.2).trans rfl
  have y3 : v1.frozen? ⟨w.heap.size + 1 + 1, 3, none⟩ = false := frozen_of_row v1 _ 3 _ 41 HBX1.out.2.2
  have r0 : v1.cell? ⟨w.heap.size + 1, 0, none⟩ = some (.int .i64 0) := (cell_of_row _ _ 0 _ 41 (0, 0) HBX1.out.2.1).trans rfl
  have f0 : v1.frozen? ⟨w.heap.size + 1, 0, none⟩ = false := frozen_of_row v1 _ 0 _ 41 HBX1.out.2.1
  have r1 : v1.cell? ⟨w.heap.size + 1, 1, none⟩ = some (.int .i64 0) := (cell_of_row _ _ 1 _ 41 (0, 0) HBX1.out.2.1).trans rfl
  have f1 : v1.frozen? ⟨w.heap.size + 1, 1, none⟩ = false := frozen_of_row v1 _ 1 _ 41 HBX1.out.2.1
  have r2 : v1.cell? ⟨w.heap.size + 1, 2, none⟩ = some (.slice none 0 0) := (cell_of_row _ _ 2 _ 41 (0, 0) HBX1.out.2.1).trans rfl
  have f2 : v1.frozen? ⟨w.heap.size + 1, 2, none⟩ = false := frozen_of_row v1 _ 2 _ 41 HBX1.out.2.1
  have r3 : v1.cell? ⟨w.heap.size + 1, 3, none⟩ = some (.slice none 0 0) := (cell_of_row _ _ 3 _ 41 (0, 0) HBX1.out.2.1).trans rfl
  have f3 : v1.frozen? ⟨w.heap.size + 1, 3, none⟩ = false := frozen_of_row v1 _ 3 _ 41 HBX1.out.2.1
  clear hk1 hb1
  go_wp2_with fail
  try simp only [Exit.inBlock, Exit.then]
  have T0 : Touch (w.heap.size + 1 + 1) (w.heap.size + 1 + 1 + 1) v1 (v1.setCell ⟨w.heap.size + 1 + 1, 3, none⟩ (.slice p1 n1 n1)) := touch_set1 v1 (w.heap.size + 1 + 1) _ _
  have T1 : Touch (w.heap.size + 1) (w.heap.size + 3) v1 (v1.setCell ⟨w.heap.size + 1 + 1, 3, none⟩ (.slice p1 n1 n1)) := T0.mono (by omega) (by omega)
  have T2 : Touch (w.heap.size + 1) (w.heap.size + 3) v1 (putRf (v1.setCell ⟨w.heap.size + 1 + 1, 3, none⟩ (.slice p1 n1 n1)) (w.heap.size + 1) (.int .i64 x.v) (.int .i64 x.e) (.slice p0 n0 n0) (.slice p1 n1 n1)) := T1.trans ((putRf_touch _ (w.heap.size + 1) _ _ _ _).mono (by omega) (by omega))
  refine bodyPost_ret (results_Rf rfl _ (w.heap.size + 1) rfl _ _ _ _ _ (putRf_heap (touch_kept T0 HBX1.out.2.1 (by omega)) _ _ _ _)) rfl ⟨p0, p1, rfl, (HK0.out.touch T2 (Nat.le_refl _)).mono (by omega), (HK1.out.touch T2 (Nat.le_refl _)).mono (by omega), hw1.trans (T2.below (by omega) (by omega))⟩

set_option maxRecDepth 10000 in
set_option maxHeartbeats 4000000 in
theorem eqRootFile_same (x : RfP) (a0 : Option Addr) (n0 c0 : Nat) (a1 : Option Addr) (n1 c1 : Nat) (b0 : Option Addr) (d0 : Nat) (b1 : Option Addr) (d1 : Nat) (w : World) (r0 : Ros KT w a0 n0 x.rs) (s0 : Ros KT w b0 n0 x.rs) (m0 : n0 ≤ 9223372036854775807) (r1 : Fss KT w a1 n1 x.ss) (s1 : Fss KT w b1 n1 x.ss) (m1 : n1 ≤ 9223372036854775807) :
    Calls Tryz.prog 32 #[.agg #[.int .i64 x.v, .int .i64 x.e, .slice a0 n0 c0, .slice a1 n1 c1], .agg #[.int .i64 x.v, .int .i64 x.e, .slice b0 n0 d0, .slice b1 n1 d1]] w fun e w' => e = .returned (.bool true) ∧ Below w.heap.size w w' := by
  obtain ⟨w1, hw1⟩ : ∃ w1, w1 = (w.alloc (.cells #[.int .i64 x.v, .int .i64 x.e, .slice a0 n0 c0, .slice a1 n1 c1] 41)).alloc (.cells #[.int .i64 x.v, .int .i64 x.e, .slice b0 n0 d0, .slice b1 n1 d1] 41) := ⟨_, rfl⟩
  have hbb : Below w.heap.size w w1 := by rw [hw1]; exact ((Below.refl _ _).alloc (Nat.le_refl _) _).alloc (by simp) _
  have HBX : Hid (_ ∧ _) := two_blocks w (.cells #[.int .i64 x.v, .int .i64 x.e, .slice a0 n0 c0, .slice a1 n1 c1] 41) (.cells #[.int .i64 x.v, .int .i64 x.e, .slice b0 n0 d0, .slice b1 n1 d1] 41)
  rw [← hw1] at HBX
  have HW : Hid (_ = _) := hw1
  have HR0 : Hid (∀ W, Below w.heap.size w W → Ros KT W a0 n0 x.rs ∧ Ros KT W b0 n0 x.rs) := fun W hW => ⟨r0.kept hW, s0.kept hW⟩
  have HR1 : Hid (∀ W, Below w.heap.size w W → Fss KT W a1 n1 x.ss ∧ Fss KT W b1 n1 x.ss) := fun W hW => ⟨r1.kept hW, s1.kept hW⟩
  clear hw1 r0 s0 r1 s1
  have z0 : (x.v != x.v) = false := by simp
  have z1 : (x.e != x.e) = false := by simp
  have x0 : w1.cell? ⟨w.heap.size, 0, none⟩ = some (.int .i64 x.v) := (cell_of_row _ _ 0 _ 41 (0, 0) HBX.out.1).trans rfl
  have y0 : w1.cell? ⟨w.heap.size + 1, 0, none⟩ = some (.int .i64 x.v) := (cell_of_row _ _ 0 _ 41 (0, 0) HBX.out.2).trans rfl
  have x1 : w1.cell? ⟨w.heap.size, 1, none⟩ = some (.int .i64 x.e) := (cell_of_row _ _ 1 _ 41 (0, 0) HBX.out.1).trans rfl
  have y1 : w1.cell? ⟨w.heap.size + 1, 1, none⟩ = some (.int .i64 x.e) := (cell_of_row _ _ 1 _ 41 (0, 0) HBX.out.2).trans rfl
  have x2 : w1.cell? ⟨w.heap.size, 2, none⟩ = some (.slice a0 n0 c0) := (cell_of_row _ _ 2 _ 41 (0, 0) HBX.out.1).trans rfl
  have y2 : w1.cell? ⟨w.heap.size + 1, 2, none⟩ = some (.slice b0 n0 d0) := (cell_of_row _ _ 2 _ 41 (0, 0) HBX.out.2).trans rfl
  have x3 : w1.cell? ⟨w.heap.size, 3, none⟩ = some (.slice a1 n1 c1) := (cell_of_row _ _ 3 _ 41 (0, 0) HBX.out.1).trans rfl
  have y3 : w1.cell? ⟨w.heap.size + 1, 3, none⟩ = some (.slice b1 n1 d1) := (cell_of_row _ _ 3 _ 41 (0, 0) HBX.out.2).trans rfl
  go_enter Tryz.func32, Tryz.ntmps32
  go_upto_region 1 with fail
  rw [← HW.out]
  clear HW
  go_wp2_with fail
  refine (eqRoleS_same KT KT a0 b0 n0 c0 d0 x.rs _ (HR0.out _ hbb).1 (HR0.out _ hbb).2).mono ?_
  rintro e v0 ⟨rfl, hb0⟩
  clear x0 y0 x1 y1 x2 y2 x3 y3
  have kb0 : Below w1.heap.size w1 v0 := hb0
  have hh0 : Below w.heap.size w v0 := keepT hbb kb0
  have x0 : v0.cell? ⟨w.heap.size, 0, none⟩ = some (.int .i64 x.v) := (cell_of_row _ _ 0 _ 41 (0, 0) (below_kept HBX.out.1 kb0)).trans rfl
  have y0 : v0.cell? ⟨w.heap.size + 1, 0, none⟩ = some (.int .i64 x.v) := (cell_of_row _ _ 0 _ 41 (0, 0) (below_kept HBX.out.2 kb0)).trans rfl
  have x1 : v0.cell? ⟨w.heap.size, 1, none⟩ = some (.int .i64 x.e) := (cell_of_row _ _ 1 _ 41 (0, 0) (below_kept HBX.out.1 kb0)).trans rfl
  have y1 : v0.cell? ⟨w.heap.size + 1, 1, none⟩ = some (.int .i64 x.e) := (cell_of_row _ _ 1 _ 41 (0, 0) (below_kept HBX.out.2 kb0)).trans rfl
  have x2 : v0.cell? ⟨w.heap.size, 2, none⟩ = some (.slice a0 n0 c0) := (cell_of_row _ _ 2 _ 41 (0, 0) (below_kept HBX.out.1 kb0)).trans rfl
  have y2 : v0.cell? ⟨w.heap.size + 1, 2, none⟩ = some (.slice b0 n0 d0) := (cell_of_row _ _ 2 _ 41 (0, 0) (below_kept HBX.out.2 kb0)).trans rfl
  have x3 : v0.cell? ⟨w.heap.size, 3, none⟩ = some (.slice a1 n1 c1) := (cell_of_row _ _ 3 _ 41 (0, 0) (below_kept HBX.out.1 kb0)).trans rfl
  have y3 : v0.cell? ⟨w.heap.size + 1, 3, none⟩ = some (.slice b1 n1 d1) := (cell_of_row _ _ 3 _ 41 (0, 0) (below_kept HBX.out.2 kb0)).trans rfl
  go_wp2_with fail
  refine (eqFileSigS_same KT KT a1 b1 n1 c1 d1 x.ss _ (HR1.out _ hh0).1 (HR1.out _ hh0).2).mono ?_
  rintro e v1 ⟨rfl, hb1⟩
  clear x0 y0 x1 y1 x2 y2 x3 y3
  have kb1 : Below w1.heap.size w1 v1 := keepT kb0 hb1
  have hh1 : Below w.heap.size w v1 := keepT hbb kb1
  have x0 : v1.cell? ⟨w.heap.size, 0, none⟩ = some (.int .i64 x.v) := (cell_of_row _ _ 0 _ 41 (0, 0) (below_kept HBX.out.1 kb1)).trans rfl
  have y0 : v1.cell? ⟨w.heap.size + 1, 0, none⟩ = some (.int .i64 x.v) := (cell_of_row _ _ 0 _ 41 (0, 0) (below_kept HBX.out.2 kb1)).trans rfl
  have x1 : v1.cell? ⟨w.heap.size, 1, none⟩ = some (.int .i64 x.e) := (cell_of_row _ _ 1 _ 41 (0, 0) (below_kept HBX.out.1 kb1)).trans rfl
  have y1 : v1.cell? ⟨w.heap.size + 1, 1, none⟩ = some (.int .i64 x.e) := (cell_of_row _ _ 1 _ 41 (0, 0) (below_kept HBX.out.2 kb1)).trans rfl
  have x2 : v1.cell? ⟨w.heap.size, 2, none⟩ = some (.slice a0 n0 c0) := (cell_of_row _ _ 2 _ 41 (0, 0) (below_kept HBX.out.1 kb1)).trans rfl
  have y2 : v1.cell? ⟨w.heap.size + 1, 2, none⟩ = some (.slice b0 n0 d0) := (cell_of_row _ _ 2 _ 41 (0, 0) (below_kept HBX.out.2 kb1)).trans rfl
  have x3 : v1.cell? ⟨w.heap.size, 3, none⟩ = some (.slice a1 n1 c1) := (cell_of_row _ _ 3 _ 41 (0, 0) (below_kept HBX.out.1 kb1)).trans rfl
  have y3 : v1.cell? ⟨w.heap.size + 1, 3, none⟩ = some (.slice b1 n1 d1) := (cell_of_row _ _ 3 _ 41 (0, 0) (below_kept HBX.out.2 kb1)).trans rfl
  go_wp2
  go_ret
  exact ⟨rfl, hh1⟩

structure SfP where
  v : Int
  e : Int
  lv : Int
  lh : Int
  ss : List FsP

set_option maxRecDepth 10000 in
set_option maxHeartbeats 2000000 in
theorem szStampFile_any (x : SfP) (a0 : Option Addr) (n0 c0 : Nat) (l : Int) (w : World) (r0 : Fss KT w a0 n0 x.ss) (m0 : n0 ≤ 9223372036854775807) (h0 : 0 ≤ l) (h1 : l ≤ 1048576) :
    Calls Tryz.prog 20 #[.agg #[.int .i64 x.v, .int .i64 x.e, .int .i64 x.lv, .int .u64 x.lh, .slice a0 n0 c0], .int .i64 l] w fun e w' => ∃ r, e = .returned (.int .i64 r) ∧ (r < 0 ∨ (0 ≤ r ∧ r ≤ 1048576 ∧ (n0 ≤ 1048576 ∧ ∀ k, k < n0 → (x.ss.getD k default).sg.length ≤ 1048576))) ∧ Below w.heap.size w w' := by
  obtain ⟨w1, hw1⟩ : ∃ w1, w1 = w.alloc (.cells #[.int .i64 x.v, .int .i64 x.e, .int .i64 x.lv, .int .u64 x.lh, .slice a0 n0 c0] 28) := ⟨_, rfl⟩
  have hbb : Below w.heap.size w w1 := by rw [hw1]; exact (Below.refl _ _).alloc (Nat.le_refl _) _
  have HB : Hid (w1.heap[w.heap.size]? = some (.cells #[.int .i64 x.v, .int .i64 x.e, .int .i64 x.lv, .int .u64 x.lh, .slice a0 n0 c0] 28 (0, 0))) := by show _ = _; rw [hw1]; exact heap_alloc_new w _
  have HW : Hid (_ = _) := hw1
  have HR0 : Hid (∀ W, Below w.heap.size w W → Fss KT W a0 n0 x.ss) := fun W hW => r0.kept hW
  clear hw1 r0
  have l0 : w1.cell? ⟨w.heap.size, 4, none⟩ = some (.slice a0 n0 c0) := (cell_of_row _ _ 4 _ 28 (0, 0) HB.out).trans rfl
  go_enter Tryz.func20, Tryz.ntmps20
  go_upto_region 1 with fail
  rw [← HW.out]
  clear HW
  go_wp2_with fail
  refine (szFileSigS_any KT a0 n0 c0 x.ss l _ (HR0.out _ hbb) h0 h1).mono ?_
  rintro e v0 ⟨r0, rfl, hr0, hb0⟩
  clear l0
  have kb0 : Below w1.heap.size w1 v0 := hb0
  have hh0 : Below w.heap.size w v0 := keepT hbb kb0
  by_cases g0 : r0 < 0
  · clear hr0
    go_wp2
    go_ret
    exact ⟨_, rfl, .inl (by decide), hh0⟩
  have H0 : Hid (0 ≤ r0 ∧ r0 ≤ 1048576 ∧ (n0 ≤ 1048576 ∧ ∀ k, k < n0 → (x.ss.getD k default).sg.length ≤ 1048576)) := hr0.resolve_left g0
  have b0 : 0 ≤ r0 ∧ r0 ≤ 1048576 := ⟨H0.out.1, H0.out.2.1⟩
  clear hr0
  go_wp2
  go_ret
  exact ⟨_, rfl, .inr ⟨b0.1, b0.2, H0.out.2.2⟩, hh0⟩

theorem results_Sf {fn : Func} {t : Tmp} (h : fn.results = #[.cell t 43]) (tmps : Array Value) (g : Nat) (ht : tmps.getD t undef = .pointer (some ⟨g, 0, none⟩)) (w : World) (c0 c1 c2 c3 c4 : Value)
    (hb : w.heap[g]? = some (.cells #[c0, c1, c2, c3, c4] 43 (0, 0))) : (results fn tmps).run Tryz.prog w = .ok (.agg #[c0, c1, c2, c3, c4]) w := by
  have d0 : w.cell? ⟨g, 0, none⟩ = some c0 := (cell_of_row _ g 0 _ 43 (0, 0) hb).trans rfl
  have d1 : w.cell? ⟨g, 1, none⟩ = some c1 := (cell_of_row _ g 1 _ 43 (0, 0) hb).trans rfl
  have d2 : w.cell? ⟨g, 2, none⟩ = some c2 := (cell_of_row _ g 2 _ 43 (0, 0) hb).trans rfl
  have d3 : w.cell? ⟨g, 3, none⟩ = some c3 := (cell_of_row _ g 3 _ 43 (0, 0) hb).trans rfl
  have d4 : w.cell? ⟨g, 4, none⟩ = some c4 := (cell_of_row _ g 4 _ 43 (0, 0) hb).trans rfl
  clear hb
  have ht' : tmps[t]?.getD undef = .pointer (some ⟨g, 0, none⟩) := by rw [← ht]; simp
  simp [results, h, go_sem, ht', d0, d1, d2, d3, d4]
def putSf (w : World) (g : Nat) (u0 u1 u2 u3 u4 : Value) : World := ((((w.setCell ⟨g, 0, none⟩ u0).setCell ⟨g, 1, none⟩ u1).setCell ⟨g, 2, none⟩ u2).setCell ⟨g, 3, none⟩ u3).setCell ⟨g, 4, none⟩ u4
theorem putSf_touch (w : World) (g : Nat) (u0 u1 u2 u3 u4 : Value) : Touch g (g + 1) w (putSf w g u0 u1 u2 u3 u4) := ((((touch_set1 w g 0 u0).trans (touch_set1 _ g 1 u1)).trans (touch_set1 _ g 2 u2)).trans (touch_set1 _ g 3 u3)).trans (touch_set1 _ g 4 u4)
theorem putSf_heap {w : World} {g t : Nat} {c0 c1 c2 c3 c4 : Value} (h : w.heap[g]? = some (.cells #[c0, c1, c2, c3, c4] t (0, 0))) (u0 u1 u2 u3 u4 : Value) : (putSf w g u0 u1 u2 u3 u4).heap[g]? = some (.cells #[u0, u1, u2, u3, u4] t (0, 0)) := heap_setCell_same _ _ 4 _ t _ (heap_setCell_same _ _ 3 _ t _ (heap_setCell_same _ _ 2 _ t _ (heap_setCell_same _ _ 1 _ t _ (heap_setCell_same _ _ 0 _ t _ (h)))))

set_option maxRecDepth 10000 in
set_option maxHeartbeats 4000000 in
theorem toStampFile_any (x : SfP) (a0 : Option Addr) (n0 c0 : Nat) (w : World) (r0 : Fss KT w a0 n0 x.ss) (m0 : n0 ≤ 9223372036854775807) (q0 : (n0 ≤ 1048576 ∧ ∀ k, k < n0 → (x.ss.getD k default).sg.length ≤ 1048576)) :
    Calls Tryz.prog 29 #[.agg #[.int .i64 x.v, .int .i64 x.e, .int .i64 x.lv, .int .u64 x.lh, .slice a0 n0 c0]] w fun e w' => ∃ p0, e = .returned (.agg #[.int .i64 x.v, .int .i64 x.e, .int .i64 x.lv, .int .u64 x.lh, .slice p0 n0 n0]) ∧ KeepB w.heap.size w' (fun W => Fss KT W p0 n0 x.ss) ∧ Below w.heap.size w w' := by
  obtain ⟨w1, hw1⟩ : ∃ w1, w1 = ((w.alloc (.cells #[.int .i64 x.v, .int .i64 x.e, .int .i64 x.lv, .int .u64 x.lh, .slice a0 n0 c0] 28)).alloc (.cells #[.int .i64 0, .int .i64 0, .int .i64 0, .int .u64 0, .slice none 0 0] 43)).alloc (.cells #[.int .i64 x.v, .int .i64 x.e, .int .i64 x.lv, .int .u64 x.lh, .slice none 0 0] 43) := ⟨_, rfl⟩
  have hbb : Below w.heap.size w w1 := by rw [hw1]; exact (((Below.refl _ _).alloc (Nat.le_refl _) _).alloc (by simp) _).alloc (by simp; omega) _
  have hsz : w1.heap.size = w.heap.size + 3 := by rw [hw1]; simp
  have HBX : Hid (_ ∧ _ ∧ _) := heap_alloc2_newH w (.cells #[.int .i64 x.v, .int .i64 x.e, .int .i64 x.lv, .int .u64 x.lh, .slice a0 n0 c0] 28) (.cells #[.int .i64 0, .int .i64 0, .int .i64 0, .int .u64 0, .slice none 0 0] 43) (.cells #[.int .i64 x.v, .int .i64 x.e, .int .i64 x.lv, .int .u64 x.lh, .slice none 0 0] 43)
  rw [← hw1] at HBX
  have HW : Hid (_ = _) := hw1
  have HR0 : Hid (∀ W, Below w.heap.size w W → Fss KT W a0 n0 x.ss) := fun W hW => r0.kept hW
  have HQ0 : Hid ((n0 ≤ 1048576 ∧ ∀ k, k < n0 → (x.ss.getD k default).sg.length ≤ 1048576)) := q0
  clear hw1 r0 q0
  have l0 : w1.cell? ⟨w.heap.size, 4, none⟩ = some (.slice a0 n0 c0) := (cell_of_row _ _ 4 _ 28 (0, 0) HBX.out.1).trans rfl
  go_enter Tryz.func29, Tryz.ntmps29
  go_upto_region 6 with fail
  rw [← HW.out]
  clear HW
  go_wp2_with fail
  refine (toFileSigS_any KT a0 n0 c0 x.ss _ (HR0.out _ hbb) HQ0.out.1 HQ0.out.2).mono ?_
  rintro e v0 ⟨p0, rfl, hk0, hb0⟩
  clear l0
  have hk0 : KeepB w1.heap.size v0 (fun W => Fss KT W p0 n0 x.ss) := hk0.map (fun W h => h.weak)
  have HK0 : Hid (KeepB (w.heap.size + 3) v0 (fun W => Fss KT W p0 n0 x.ss)) := hk0.mono (by omega)
  have hw0 : Below w.heap.size w v0 := hbb.trans (hb0.mono hbb.size)
  have hz0 : w.heap.size + 3 ≤ v0.heap.size := by have := hb0.size; omega
  have HBX0 : Hid (v0.heap[w.heap.size]? = some (.cells #[.int .i64 x.v, .int .i64 x.e, .int .i64 x.lv, .int .u64 x.lh, .slice a0 n0 c0] 28 (0, 0)) ∧ v0.heap[w.heap.size + 1]? = some (.cells #[.int .i64 0, .int .i64 0, .int .i64 0, .int .u64 0, .slice none 0 0] 43 (0, 0)) ∧ v0.heap[w.heap.size + 1 + 1]? = some (.cells #[.int .i64 x.v, .int .i64 x.e, .int .i64 x.lv, .int .u64 x.lh, .slice none 0 0] 43 (0, 0))) := ⟨below_kept HBX.out.1 hb0, below_kept HBX.out.2.1 hb0, below_kept HBX.out.2.2 hb0⟩
  have x0 : v0.cell? ⟨w.heap.size + 1 + 1, 0, none⟩ = some (.int .i64 x.v) := (cell_of_row _ _ 0 _ 43 (0, 0) HBX0.out.2.2).trans rfl
  have y0 : v0.frozen? ⟨w.heap.size + 1 + 1, 0, none⟩ = false := frozen_of_row v0 _ 0 _ 43 HBX0.out.2.2
  have x1 : v0.cell? ⟨w.heap.size + 1 + 1, 1, none⟩ = some (.int .i64 x.e) := (cell_of_row _ _ 1 _ 43 (0, 0) HBX0.out.2.2).trans rfl
  have y1 : v0.frozen? ⟨w.heap.size + 1 + 1, 1, none⟩ = false := frozen_of_row v0 _ 1 _ 43 HBX0.out.2.2
  have x2 : v0.cell? ⟨w.heap.size + 1 + 1, 2, none⟩ = some (.int .i64 x.lv) := (cell_of_row _ _ 2 _ 43 (0, 0) HBX0.out.2.2).trans rfl
  have y2 : v0.frozen? ⟨w.heap.size + 1 + 1, 2, none⟩ = false := frozen_of_row v0 _ 2 _ 43 HBX0.out.2.2
  have x3 : v0.cell? ⟨w.heap.size + 1 + 1, 3, none⟩ = some (.int .u64 x.lh) := (cell_of_row _ _ 3 _ 43 (0, 0) HBX0.out.2.2).trans rfl
  have y3 : v0.frozen? ⟨w.heap.size + 1 + 1, 3, none⟩ = false := frozen_of_row v0 _ 3 _ 43 HBX0.out.2.2
  have x4 : v0.cell? ⟨w.heap.size + 1 + 1, 4, none⟩ = some (.slice none 0 0) := (cell_of_row _ _ 4 _ 43 (0, 0) HBX0.out.2.2).trans rfl
  have y4 : v0.frozen? ⟨w.heap.size + 1 + 1, 4, none⟩ = false := frozen_of_row v0 _ 4 _ 43 HBX0.out.2.2
  have r0 : v0.cell? ⟨w.heap.size + 1, 0, none⟩ = some (.int .i64 0) := (cell_of_row _ _ 0 _ 43 (0, 0) HBX0.out.2.1).trans rfl
  have f0 : v0.frozen? ⟨w.heap.size + 1, 0, none⟩ = false := frozen_of_row v0 _ 0 _ 43 HBX0.out.2.1
  have r1 : v0.cell? ⟨w.heap.size + 1, 1, none⟩ = some (.int .i64 0) := (cell_of_row _ _ 1 _ 43 (0, 0) HBX0.out.2.1).trans rfl
  have f1 : v0.frozen? ⟨w.heap.size + 1, 1, none⟩ = false := frozen_of_row v0 _ 1 _ 43 HBX0.out.2.1
  have r2 : v0.cell? ⟨w.heap.size + 1, 2, none⟩ = some (.int .i64 0) := (cell_of_row _ _ 2 _ 43 (0, 0) HBX0.out.2.1).trans rfl
  have f2 : v0.frozen? ⟨w.heap.size + 1, 2, none⟩ = false := frozen_of_row v0 _ 2 _ 43 HBX0.out.2.1
  have r3 : v0.cell? ⟨w.heap.size + 1, 3, none⟩ = some (.int .u64 0) := (cell_of_row _ _ 3 _ 43 (0, 0) HBX0.out.2.1).trans rfl
  have f3 : v0.frozen? ⟨w.heap.size + 1, 3, none⟩ = false := frozen_of_row v0 _ 3 _ 43 HBX0.out.2.1
  have r4 : v0.cell? ⟨w.heap.size + 1, 4, none⟩ = some (.slice none 0 0) := (cell_of_row _ _ 4 _ 43 (0, 0) HBX0.out.2.1).trans rfl
  have f4 : v0.frozen? ⟨w.heap.size + 1, 4, none⟩ = false := frozen_of_row v0 _ 4 _ 43 HBX0.out.2.1
  clear hk0 hb0
  go_wp2_with fail
  try simp only [Exit.inBlock, Exit.then]
  have T0 : Touch (w.heap.size + 1 + 1) (w.heap.size + 1 + 1 + 1) v0 (v0.setCell ⟨w.heap.size + 1 + 1, 4, none⟩ (.slice p0 n0 n0)) := touch_set1 v0 (w.heap.size + 1 + 1) _ _
  have T1 : Touch (w.heap.size + 1) (w.heap.size + 3) v0 (v0.setCell ⟨w.heap.size + 1 + 1, 4, none⟩ (.slice p0 n0 n0)) := T0.mono (by omega) (by omega)
  have T2 : Touch (w.heap.size + 1) (w.heap.size + 3) v0 (putSf (v0.setCell ⟨w.heap.size + 1 + 1, 4, none⟩ (.slice p0 n0 n0)) (w.heap.size + 1) (.int .i64 x.v) (.int .i64 x.e) (.int .i64 x.lv) (.int .u64 x.lh) (.slice p0 n0 n0)) := T1.trans ((putSf_touch _ (w.heap.size + 1) _ _ _ _ _).mono (by omega) (by omega))
  refine bodyPost_ret (results_Sf rfl _ (w.heap.size + 1) rfl _ _ _ _ _ _ (putSf_heap (touch_kept T0 HBX0.out.2.1 (by omega)) _ _ _ _ _)) rfl ⟨p0, rfl, (HK0.out.touch T2 (Nat.le_refl _)).mono (by omega), hw0.trans (T2.below (by omega) (by omega))⟩

set_option maxRecDepth 10000 in
set_option maxHeartbeats 4000000 in
theorem eqStampFile_same (x : SfP) (a0 : Option Addr) (n0 c0 : Nat) (b0 : Option Addr) (d0 : Nat) (w : World) (r0 : Fss KT w a0 n0 x.ss) (s0 : Fss KT w b0 n0 x.ss) (m0 : n0 ≤ 9223372036854775807) :
    Calls Tryz.prog 33 #[.agg #[.int .i64 x.v, .int .i64 x.e, .int .i64 x.lv, .int .u64 x.lh, .slice a0 n0 c0], .agg #[.int .i64 x.v, .int .i64 x.e, .int .i64 x.lv, .int .u64 x.lh, .slice b0 n0 d0]] w fun e w' => e = .returned (.bool true) ∧ Below w.heap.size w w' := by
  obtain ⟨w1, hw1⟩ : ∃ w1, w1 = (w.alloc (.cells #[.int .i64 x.v, .int .i64 x.e, .int .i64 x.lv, .int .u64 x.lh, .slice a0 n0 c0] 43)).alloc (.cells #[.int .i64 x.v, .int .i64 x.e, .int .i64 x.lv, .int .u64 x.lh, .slice b0 n0 d0] 43) := ⟨_, rfl⟩
  have hbb : Below w.heap.size w w1 := by rw [hw1]; exact ((Below.refl _ _).alloc (Nat.le_refl _) _).alloc (by simp) _
  have HBX : Hid (_ ∧ _) := two_blocks w (.cells #[.int .i64 x.v, .int .i64 x.e, .int .i64 x.lv, .int .u64 x.lh, .slice a0 n0 c0] 43) (.cells #[.int .i64 x.v, .int .i64 x.e, .int .i64 x.lv, .int .u64 x.lh, .slice b0 n0 d0] 43)
  rw [← hw1] at HBX
  have HW : Hid (_ = _) := hw1
  have HR0 : Hid (∀ W, Below w.heap.size w W → Fss KT W a0 n0 x.ss ∧ Fss KT W b0 n0 x.ss) := fun W hW => ⟨r0.kept hW, s0.kept hW⟩
  clear hw1 r0 s0
  have z0 : (x.v != x.v) = false := by simp
  have z1 : (x.e != x.e) = false := by simp
  have z2 : (x.lv != x.lv) = false := by simp
  have z3 : (x.lh != x.lh) = false := by simp
  have x0 : w1.cell? ⟨w.heap.size, 0, none⟩ = some (.int .i64 x.v) := (cell_of_row _ _ 0 _ 43 (0, 0) HBX.out.1).trans rfl
  have y0 : w1.cell? ⟨w.heap.size + 1, 0, none⟩ = some (.int .i64 x.v) := (cell_of_row _ _ 0 _ 43 (0, 0) HBX.out.2).trans rfl
  have x1 : w1.cell? ⟨w.heap.size, 1, none⟩ = some (.int .i64 x.e) := (cell_of_row _ _ 1 _ 43 (0, 0) HBX.out.1).trans rfl
  have y1 : w1.cell? ⟨w.heap.size + 1, 1, none⟩ = some (.int .i64 x.e) := (cell_of_row _ _ 1 _ 43 (0, 0) HBX.out.2).trans rfl
  have x2 : w1.cell? ⟨w.heap.size, 2, none⟩ = some (.int .i64 x.lv) := (cell_of_row _ _ 2 _ 43 (0, 0) HBX.out.1).trans rfl
  have y2 : w1.cell? ⟨w.heap.size + 1, 2, none⟩ = some (.int .i64 x.lv) := (cell_of_row _ _ 2 _ 43 (0, 0) HBX.out.2).trans rfl
  have x3 : w1.cell? ⟨w.heap.size, 3, none⟩ = some (.int .u64 x.lh) := (cell_of_row _ _ 3 _ 43 (0, 0) HBX.out.1).trans rfl
  have y3 : w1.cell? ⟨w.heap.size + 1, 3, none⟩ = some (.int .u64 x.lh) := (cell_of_row _ _ 3 _ 43 (0, 0) HBX.out.2).trans rfl
  have x4 : w1.cell? ⟨w.heap.size, 4, none⟩ = some (.slice a0 n0 c0) := (cell_of_row _ _ 4 _ 43 (0, 0) HBX.out.1).trans rfl
  have y4 : w1.cell? ⟨w.heap.size + 1, 4, none⟩ = some (.slice b0 n0 d0) := (cell_of_row _ _ 4 _ 43 (0, 0) HBX.out.2).trans rfl
  go_enter Tryz.func33, Tryz.ntmps33
  go_upto_region 1 with fail
  rw [← HW.out]
  clear HW
  go_wp2_with fail
  refine (eqFileSigS_same KT KT a0 b0 n0 c0 d0 x.ss _ (HR0.out _ hbb).1 (HR0.out _ hbb).2).mono ?_
  rintro e v0 ⟨rfl, hb0⟩
  clear x0 y0 x1 y1 x2 y2 x3 y3 x4 y4
  have kb0 : Below w1.heap.size w1 v0 := hb0
  have hh0 : Below w.heap.size w v0 := keepT hbb kb0
  have x0 : v0.cell? ⟨w.heap.size, 0, none⟩ = some (.int .i64 x.v) := (cell_of_row _ _ 0 _ 43 (0, 0) (below_kept HBX.out.1 kb0)).trans rfl
  have y0 : v0.cell? ⟨w.heap.size + 1, 0, none⟩ = some (.int .i64 x.v) := (cell_of_row _ _ 0 _ 43 (0, 0) (below_kept HBX.out.2 kb0)).trans rfl
  have x1 : v0.cell? ⟨w.heap.size, 1, none⟩ = some (.int .i64 x.e) := (cell_of_row _ _ 1 _ 43 (0, 0) (below_kept HBX.out.1 kb0)).trans rfl
  have y1 : v0.cell? ⟨w.heap.size + 1, 1, none⟩ = some (.int .i64 x.e) := (cell_of_row _ _ 1 _ 43 (0, 0) (below_kept HBX.out.2 kb0)).trans rfl
  have x2 : v0.cell? ⟨w.heap.size, 2, none⟩ = some (.int .i64 x.lv) := (cell_of_row _ _ 2 _ 43 (0, 0) (below_kept HBX.out.1 kb0)).trans rfl
  have y2 : v0.cell? ⟨w.heap.size + 1, 2, none⟩ = some (.int .i64 x.lv) := (cell_of_row _ _ 2 _ 43 (0, 0) (below_kept HBX.out.2 kb0)).trans rfl
  have x3 : v0.cell? ⟨w.heap.size, 3, none⟩ = some (.int .u64 x.lh) := (cell_of_row _ _ 3 _ 43 (0, 0) (below_kept HBX.out.1 kb0)).trans rfl
  have y3 : v0.cell? ⟨w.heap.size + 1, 3, none⟩ = some (.int .u64 x.lh) := (cell_of_row _ _ 3 _ 43 (0, 0) (below_kept HBX.out.2 kb0)).trans rfl
  have x4 : v0.cell? ⟨w.heap.size, 4, none⟩ = some (.slice a0 n0 c0) := (cell_of_row _ _ 4 _ 43 (0, 0) (below_kept HBX.out.1 kb0)).trans rfl
  have y4 : v0.cell? ⟨w.heap.size + 1, 4, none⟩ = some (.slice b0 n0 d0) := (cell_of_row _ _ 4 _ 43 (0, 0) (below_kept HBX.out.2 kb0)).trans rfl
  go_wp2
  go_ret
  exact ⟨rfl, hh0⟩

structure LfP where
  v : Int
  e : Int
  es : List (Int × Int)
  ss : List FsP

set_option maxRecDepth 10000 in
set_option maxHeartbeats 2000000 in
theorem szListFile_any (x : LfP) (a0 : Option Addr) (n0 c0 : Nat) (a1 : Option Addr) (n1 c1 : Nat) (l : Int) (w : World) (r0 : RowTe w a0 n0 x.es) (m0 : n0 ≤ 9223372036854775807) (r1 : Fss KT w a1 n1 x.ss) (m1 : n1 ≤ 9223372036854775807) (h0 : 0 ≤ l) (h1 : l ≤ 1048576) :
    Calls Tryz.prog 21 #[.agg #[.int .i64 x.v, .int .i64 x.e, .slice a0 n0 c0, .slice a1 n1 c1], .int .i64 l] w fun e w' => ∃ r, e = .returned (.int .i64 r) ∧ (r < 0 ∨ (0 ≤ r ∧ r ≤ 1048576 ∧ n0 ≤ 1048576 ∧ (n1 ≤ 1048576 ∧ ∀ k, k < n1 → (x.ss.getD k default).sg.length ≤ 1048576))) ∧ Below w.heap.size w w' := by
  obtain ⟨w1, hw1⟩ : ∃ w1, w1 = w.alloc (.cells #[.int .i64 x.v, .int .i64 x.e, .slice a0 n0 c0, .slice a1 n1 c1] 31) := ⟨_, rfl⟩
  have hbb : Below w.heap.size w w1 := by rw [hw1]; exact (Below.refl _ _).alloc (Nat.le_refl _) _
  have HB : Hid (w1.heap[w.heap.size]? = some (.cells #[.int .i64 x.v, .int .i64 x.e, .slice a0 n0 c0, .slice a1 n1 c1] 31 (0, 0))) := by show _ = _; rw [hw1]; exact heap_alloc_new w _
  have HW : Hid (_ = _) := hw1
  have HR0 : Hid (∀ W, Below w.heap.size w W → RowTe W a0 n0 x.es) := fun W hW => r0.kept hW
  have HR1 : Hid (∀ W, Below w.heap.size w W → Fss KT W a1 n1 x.ss) := fun W hW => r1.kept hW
  clear hw1 r0 r1
  have l0 : w1.cell? ⟨w.heap.size, 2, none⟩ = some (.slice a0 n0 c0) := (cell_of_row _ _ 2 _ 31 (0, 0) HB.out).trans rfl
  go_enter Tryz.func21, Tryz.ntmps21
  go_upto_region 1 with fail
  rw [← HW.out]
  clear HW
  go_wp2_with fail
  refine (szTeS_any a0 n0 c0 l _ m0 h0 h1).mono ?_
  rintro e v0 ⟨rfl, hv0⟩
  have hv0 := hv0.symm
  subst hv0
  clear l0
  obtain ⟨r0, hr0⟩ : ∃ r : Int, r = (if l < (n0 : Int) then -1 else l - (n0 : Int)) := ⟨_, rfl⟩
  rw [← hr0]
  by_cases g0 : r0 < 0
  · clear hr0
    go_wp2
    go_ret
    exact ⟨_, rfl, .inl (by decide), hbb⟩
  have H0 : Hid (n0 ≤ 1048576) := by
    show _ ≤ _
    by_cases h : l < (n0 : Int)
    · rw [if_pos h] at hr0; omega
    · omega
  have b0 : 0 ≤ r0 ∧ r0 ≤ 1048576 := by
    by_cases h : l < (n0 : Int)
    · rw [if_pos h] at hr0; omega
    · rw [if_neg h] at hr0; omega
  clear hr0
  have kb0 : Below w1.heap.size w1 w1 := Below.refl _ _
  have l0 : w1.cell? ⟨w.heap.size, 3, none⟩ = some (.slice a1 n1 c1) := (cell_of_row _ _ 3 _ 31 (0, 0) (below_kept HB.out kb0)).trans rfl
  go_wp2_with fail
  refine (szFileSigS_any KT a1 n1 c1 x.ss r0 _ (HR1.out _ hbb) b0.1 b0.2).mono ?_
  rintro e v1 ⟨r1, rfl, hr1, hb1⟩
  clear l0
  have kb1 : Below w1.heap.size w1 v1 := keepT kb0 hb1
  have hh1 : Below w.heap.size w v1 := keepT hbb kb1
  by_cases g1 : r1 < 0
  · clear hr1
    go_wp2
    go_ret
    exact ⟨_, rfl, .inl (by decide), hh1⟩
  have H1 : Hid (0 ≤ r1 ∧ r1 ≤ 1048576 ∧ (n1 ≤ 1048576 ∧ ∀ k, k < n1 → (x.ss.getD k default).sg.length ≤ 1048576)) := hr1.resolve_left g1
  have b1 : 0 ≤ r1 ∧ r1 ≤ 1048576 := ⟨H1.out.1, H1.out.2.1⟩
  clear hr1
  go_wp2
  go_ret
  exact ⟨_, rfl, .inr ⟨b1.1, b1.2, H0.out, H1.out.2.2⟩, hh1⟩

theorem results_Lf {fn : Func} {t : Tmp} (h : fn.results = #[.cell t 46]) (tmps : Array Value) (g : Nat) (ht : tmps.getD t undef = .pointer (some ⟨g, 0, none⟩)) (w : World) (c0 c1 c2 c3 : Value)
    (hb : w.heap[g]? = some (.cells #[c0, c1, c2, c3] 46 (0, 0))) : (results fn tmps).run Tryz.prog w = .ok (.agg #[c0, c1, c2, c3]) w := by
  have d0 : w.cell? ⟨g, 0, none⟩ = some c0 := (cell_of_row _ g 0 _ 46 (0, 0) hb).trans rfl
  have d1 : w.cell? ⟨g, 1, none⟩ = some c1 := (cell_of_row _ g 1 _ 46 (0, 0) hb).trans rfl
  have d2 : w.cell? ⟨g, 2, none⟩ = some c2 := (cell_of_row _ g 2 _ 46 (0, 0) hb).trans rfl
  have d3 : w.cell? ⟨g, 3, none⟩ = some c3 := (cell_of_row _ g 3 _ 46 (0, 0) hb).trans rfl
  clear hb
  have ht' : tmps[t]?.getD undef = .pointer (some ⟨g, 0, none⟩) := by rw [← ht]; simp
  simp [results, h, go_sem, ht', d0, d1, d2, d3]
def putLf (w : World) (g : Nat) (u0 u1 u2 u3 : Value) : World := (((w.setCell ⟨g, 0, none⟩ u0).setCell ⟨g, 1, none⟩ u1).setCell ⟨g, 2, none⟩ u2).setCell ⟨g, 3, none⟩ u3
theorem putLf_touch (w : World) (g : Nat) (u0 u1 u2 u3 : Value) : Touch g (g + 1) w (putLf w g u0 u1 u2 u3) := (((touch_set1 w g 0 u0).trans (touch_set1 _ g 1 u1)).trans (touch_set1 _ g 2 u2)).trans (touch_set1 _ g 3 u3)
theorem putLf_heap {w : World} {g t : Nat} {c0 c1 c2 c3 : Value} (h : w.heap[g]? = some (.cells #[c0, c1, c2, c3] t (0, 0))) (u0 u1 u2 u3 : Value) : (putLf w g u0 u1 u2 u3).heap[g]? = some (.cells #[u0, u1, u2, u3] t (0, 0)) := heap_setCell_same _ _ 3 _ t _ (heap_setCell_same _ _ 2 _ t _ (heap_setCell_same _ _ 1 _ t _ (heap_setCell_same _ _ 0 _ t _ (h))))

set_option maxRecDepth 10000 in
set_option maxHeartbeats 4000000 in
theorem toListFile_any (x : LfP) (a0 : Option Addr) (n0 c0 : Nat) (a1 : Option Addr) (n1 c1 : Nat) (w : World) (r0 : RowTe w a0 n0 x.es) (m0 : n0 ≤ 9223372036854775807) (r1 : Fss KT w a1 n1 x.ss) (m1 : n1 ≤ 9223372036854775807) (q0 : n0 ≤ 1048576) (q1 : (n1 ≤ 1048576 ∧ ∀ k, k < n1 → (x.ss.getD k default).sg.length ≤ 1048576)) :
    Calls Tryz.prog 30 #[.agg #[.int .i64 x.v, .int .i64 x.e, .slice a0 n0 c0, .slice a1 n1 c1]] w fun e w' => ∃ p0 p1, e = .returned (.agg #[.int .i64 x.v, .int .i64 x.e, .slice p0 n0 n0, .slice p1 n1 n1]) ∧ KeepB w.heap.size w' (fun W => RowTe W p0 n0 x.es) ∧ KeepB w.heap.size w' (fun W => Fss KT W p1 n1 x.ss) ∧ Below w.heap.size w w' := by
  obtain ⟨w1, hw1⟩ : ∃ w1, w1 = ((w.alloc (.cells #[.int .i64 x.v, .int .i64 x.e, .slice a0 n0 c0, .slice a1 n1 c1] 31)).alloc (.cells #[.int .i64 0, .int .i64 0, .slice none 0 0, .slice none 0 0] 46)).alloc (.cells #[.int .i64 x.v, .int .i64 x.e, .slice none 0 0, .slice none 0 0] 46) := ⟨_, rfl⟩
  have hbb : Below w.heap.size w w1 := by rw [hw1]; exact (((Below.refl _ _).alloc (Nat.le_refl _) _).alloc (by simp) _).alloc (by simp; omega) _
  have hsz : w1.heap.size = w.heap.size + 3 := by rw [hw1]; simp
  have HBX : Hid (_ ∧ _ ∧ _) := heap_alloc2_newH w (.cells #[.int .i64 x.v, .int .i64 x.e, .slice a0 n0 c0, .slice a1 n1 c1] 31) (.cells #[.int .i64 0, .int .i64 0, .slice none 0 0, .slice none 0 0] 46) (.cells #[.int .i64 x.v, .int .i64 x.e, .slice none 0 0, .slice none 0 0] 46)
  rw [← hw1] at HBX
  have HW : Hid (_ = _) := hw1
  have HR0 : Hid (∀ W, Below w.heap.size w W → RowTe W a0 n0 x.es) := fun W hW => r0.kept hW
  have HQ0 : Hid (n0 ≤ 1048576) := q0
  have HR1 : Hid (∀ W, Below w.heap.size w W → Fss KT W a1 n1 x.ss) := fun W hW => r1.kept hW
  have HQ1 : Hid ((n1 ≤ 1048576 ∧ ∀ k, k < n1 → (x.ss.getD k default).sg.length ≤ 1048576)) := q1
  clear hw1 r0 q0 r1 q1
  have l0 : w1.cell? ⟨w.heap.size, 2, none⟩ = some (.slice a0 n0 c0) := (cell_of_row _ _ 2 _ 31 (0, 0) HBX.out.1).trans rfl
  go_enter Tryz.func30, Tryz.ntmps30
  go_upto_region 4 with fail
  rw [← HW.out]
  clear HW
  go_wp2_with fail
  refine (toTeS_any a0 n0 c0 x.es _ (HR0.out _ hbb) HQ0.out).mono ?_
  rintro e v0 ⟨p0, rfl, hk0, hb0⟩
  clear l0
  have hk0 : KeepB w1.heap.size v0 (fun W => RowTe W p0 n0 x.es) := fun W hW => (hk0.touch5 hW (Nat.le_refl _)).toRow
  have HK0 : Hid (KeepB (w.heap.size + 3) v0 (fun W => RowTe W p0 n0 x.es)) := hk0.mono (by omega)
  have hw0 : Below w.heap.size w v0 := hbb.trans (hb0.mono hbb.size)
  have hz0 : w.heap.size + 3 ≤ v0.heap.size := by have := hb0.size; omega
  have HBX0 : Hid (v0.heap[w.heap.size]? = some (.cells #[.int .i64 x.v, .int .i64 x.e, .slice a0 n0 c0, .slice a1 n1 c1] 31 (0, 0)) ∧ v0.heap[w.heap.size + 1]? = some (.cells #[.int .i64 0, .int .i64 0, .slice none 0 0, .slice none 0 0] 46 (0, 0)) ∧ v0.heap[w.heap.size + 1 + 1]? = some (.cells #[.int .i64 x.v, .int .i64 x.e, .slice none 0 0, .slice none 0 0] 46 (0, 0))) := ⟨below_kept HBX.out.1 hb0, below_kept HBX.out.2.1 hb0, below_kept HBX.out.2.2 hb0⟩
  have x0 : v0.cell? ⟨w.heap.size + 1 + 1, 0, none⟩ = some (.int .i64 x.v) := (cell_of_row _ _ 0 _ 46 (0, 0) HBX0.out.2.2).trans rfl
  have y0 : v0.frozen? ⟨w.heap.size + 1 + 1, 0, none⟩ = false := frozen_of_row v0 _ 0 _ 46 HBX0.out.2.2
  have x1 : v0.cell? ⟨w.heap.size + 1 + 1, 1, none⟩ = some (.int .i64 x.e) := (cell_of_row _ _ 1 _ 46 (0, 0) HBX0.out.2.2).trans rfl
  have y1 : v0.frozen? ⟨w.heap.size + 1 + 1, 1, none⟩ = false := frozen_of_row v0 _ 1 _ 46 HBX0.out.2.2
  have x2 : v0.cell? ⟨w.heap.size + 1 + 1, 2, none⟩ = some (.slice none 0 0) := (cell_of_row _ _ 2 _ 46 (0, 0) HBX0.out.2.2).trans rfl
  have y2 : v0.frozen? ⟨w.heap.size + 1 + 1, 2, none⟩ = false := frozen_of_row v0 _ 2 _ 46 HBX0.out.2.2
  have x3 : v0.cell? ⟨w.heap.size + 1 + 1, 3, none⟩ = some (.slice none 0 0) := (cell_of_row _ _ 3 _ 46 (0, 0) HBX0.out.2.2).trans rfl
  have y3 : v0.frozen? ⟨w.heap.size + 1 + 1, 3, none⟩ = false := frozen_of_row v0 _ 3 _ 46 HBX0.out.2.2
  have l3 : v0.cell? ⟨w.heap.size, 3, none⟩ = some (.slice a1 n1 c1) := (cell_of_row _ _ 3 _ 31 (0, 0) HBX0.out.1).trans rfl
  obtain ⟨z0, hz0⟩ : ∃ z, z = (v0.setCell ⟨w.heap.size + 1 + 1, 2, none⟩ (.slice p0 n0 n0)) := ⟨_, rfl⟩
  have ht0 : Touch (w.heap.size + 1 + 1) (w.heap.size + 1 + 1 + 1) v0 z0 := by rw [hz0]; exact touch_set1 _ _ _ _
  have HBY0 : Hid (z0.heap[w.heap.size]? = some (.cells #[.int .i64 x.v, .int .i64 x.e, .slice a0 n0 c0, .slice a1 n1 c1] 31 (0, 0)) ∧ z0.heap[w.heap.size + 1]? = some (.cells #[.int .i64 0, .int .i64 0, .slice none 0 0, .slice none 0 0] 46 (0, 0)) ∧ z0.heap[w.heap.size + 1 + 1]? = some (.cells #[.int .i64 x.v, .int .i64 x.e, .slice p0 n0 n0, .slice none 0 0] 46 (0, 0))) := ⟨touch_kept ht0 HBX0.out.1 (by omega), touch_kept ht0 HBX0.out.2.1 (by omega), by rw [hz0]; exact (heap_setCell_same _ _ 2 _ _ _ HBX0.out.2.2)⟩
  have HK0 : Hid (KeepB (w.heap.size + 3) z0 (fun W => RowTe W p0 n0 x.es)) := HK0.out.touch ht0 (by omega)
  have hy0 : Below w.heap.size w z0 := hw0.trans (ht0.below (by omega) (by omega))
  have hq0 : w.heap.size + 3 ≤ z0.heap.size := by have := ht0.size; omega
  have HZ0 : Hid (_ = _) := hz0
  clear hz0 hk0 hb0
  go_upto_region 5 with fail
  rw [← HZ0.out]
  clear HZ0 x0 y0 x1 y1 x2 y2 x3 y3 l3
  have l0 : z0.cell? ⟨w.heap.size, 3, none⟩ = some (.slice a1 n1 c1) := (cell_of_row _ _ 3 _ 31 (0, 0) HBY0.out.1).trans rfl
  have x0 : z0.cell? ⟨w.heap.size + 1 + 1, 0, none⟩ = some (.int .i64 x.v) := (cell_of_row _ _ 0 _ 46 (0, 0) HBY0.out.2.2).trans rfl
  have y0 : z0.frozen? ⟨w.heap.size + 1 + 1, 0, none⟩ = false := frozen_of_row z0 _ 0 _ 46 HBY0.out.2.2
  have x1 : z0.cell? ⟨w.heap.size + 1 + 1, 1, none⟩ = some (.int .i64 x.e) := (cell_of_row _ _ 1 _ 46 (0, 0) HBY0.out.2.2).trans rfl
  have y1 : z0.frozen? ⟨w.heap.size + 1 + 1, 1, none⟩ = false := frozen_of_row z0 _ 1 _ 46 HBY0.out.2.2
  have x2 : z0.cell? ⟨w.heap.size + 1 + 1, 2, none⟩ = some (.slice p0 n0 n0) := (cell_of_row _ _ 2 _ 46 (0, 0) HBY0.out.2.2).trans rfl
  have y2 : z0.frozen? ⟨w.heap.size + 1 + 1, 2, none⟩ = false := frozen_of_row z0 _ 2 _ 46 HBY0.out.2.2
  have x3 : z0.cell? ⟨w.heap.size + 1 + 1, 3, none⟩ = some (.slice none 0 0) := (cell_of_row _ _ 3 _ 46 (0, 0) HBY0.out.2.2).trans rfl
  have y3 : z0.frozen? ⟨w.heap.size + 1 + 1, 3, none⟩ = false := frozen_of_row z0 _ 3 _ 46 HBY0.out.2.2
  go_wp2_with fail
  refine (toFileSigS_any KT a1 n1 c1 x.ss _ (HR1.out _ hy0) HQ1.out.1 HQ1.out.2).mono ?_
  rintro e v1 ⟨p1, rfl, hk1, hb1⟩
  clear l0 x0 y0 x1 y1 x2 y2 x3 y3
  have hk1 : KeepB z0.heap.size v1 (fun W => Fss KT W p1 n1 x.ss) := hk1.map (fun W h => h.weak)
  have HK1 : Hid (KeepB (w.heap.size + 3) v1 (fun W => Fss KT W p1 n1 x.ss)) := hk1.mono (by omega)
  have HK0 : Hid (KeepB (w.heap.size + 3) v1 (fun W => RowTe W p0 n0 x.es)) := HK0.out.kept hb1
  have hw1 : Below w.heap.size w v1 := hy0.trans (hb1.mono hy0.size)
  have hz1 : w.heap.size + 3 ≤ v1.heap.size := by have := hb1.size; omega
  have HBX1 : Hid (v1.heap[w.heap.size]? = some (.cells #[.int .i64 x.v, .int .i64 x.e, .slice a0 n0 c0, .slice a1 n1 c1] 31 (0, 0)) ∧ v1.heap[w.heap.size + 1]? = some (.cells #[.int .i64 0, .int .i64 0, .slice none 0 0, .slice none 0 0] 46 (0, 0)) ∧ v1.heap[w.heap.size + 1 + 1]? = some (.cells #[.int .i64 x.v, .int .i64 x.e, .slice p0 n0 n0, .slice none 0 0] 46 (0, 0))) := ⟨below_kept HBY0.out.1 hb1, below_kept HBY0.out.2.1 hb1, below_kept HBY0.out.2.2 hb1⟩
  have x0 : v1.cell? ⟨w.heap.size + 1 + 1, 0, none⟩ = some (.int .i64 x.v) := (cell_of_row _ _ 0 _ 46 (0, 0) HBX1.out.2.2).trans rfl
  have y0 : v1.frozen? ⟨w.heap.size + 1 + 1, 0, none⟩ = false := frozen_of_row v1 _ 0 _ 46 HBX1.out.2.2
  have x1 : v1.cell? ⟨w.heap.size + 1 + 1, 1, none⟩ = some (.int .i64 x.e) := (cell_of_row _ _ 1 _ 46 (0, 0) HBX1.out.2.2).trans rfl
  have y1 : v1.frozen? ⟨w.heap.size + 1 + 1, 1, none⟩ = false := frozen_of_row v1 _ 1 _ 46 HBX1.out.2.2
  have x2 : v1.cell? ⟨w.heap.size + 1 + 1, 2, none⟩ = some (.slice p0 n0 n0) := (cell_of_row _ _ 2 _ 46 (0, 0) HBX1.out.2.2).trans rfl
  have y2 : v1.frozen? ⟨w.heap.size + 1 + 1, 2, none⟩ = false := frozen_of_row v1 _ 2 _ 46 HBX1.out.2.2
  have x3 : v1.cell? ⟨w.heap.size + 1 + 1, 3, none⟩ = some (.slice none 0 0) := (cell_of_row _ _ 3 _ 46 (0, 0) HBX1.out.2.2).trans rfl
  have y3 : v1.frozen? ⟨w.heap.size + 1 + 1, 3, none⟩ = false := frozen_of_row v1 _ 3 _ 46 HBX1.out.2.2
  have r0 : v1.cell? ⟨w.heap.size + 1, 0, none⟩ = some (.int .i64 0) := (cell_of_row _ _ 0 _ 46 (0, 0) HBX1.out.2.1).trans rfl
  have f0 : v1.frozen? ⟨w.heap.size + 1, 0, none⟩ = false := frozen_of_row v1 _ 0 _ 46 HBX1.out.2.1
  have r1 : v1.cell? ⟨w.heap.size + 1, 1, none⟩ = some (.int .i64 0) := (cell_of_row _ _ 1 _ 46 (0, 0) HBX1.out.2.1).trans rfl
  have f1 : v1.frozen? ⟨w.heap.size + 1, 1, none⟩ = false := frozen_of_row v1 _ 1 _ 46 HBX1.out.2.1
  have r2 : v1.cell? ⟨w.heap.size + 1, 2, none⟩ = some (.slice none 0 0) := (cell_of_row _ _ 2 _ 46 (0, 0) HBX1.out.2.1).trans rfl
  have f2 : v1.frozen? ⟨w.heap.size + 1, 2, none⟩ = false := frozen_of_row v1 _ 2 _ 46 HBX1.out.2.1
  have r3 : v1.cell? ⟨w.heap.size + 1, 3, none⟩ = some (.slice none 0 0) := (cell_of_row _ _ 3 _ 46 (0, 0) HBX1.out.2.1).trans rfl
  have f3 : v1.frozen? ⟨w.heap.size + 1, 3, none⟩ = false := frozen_of_row v1 _ 3 _ 46 HBX1.out.2.1
  clear hk1 hb1
  go_wp2_with fail
  try simp only [Exit.inBlock, Exit.then]
  have T0 : Touch (w.heap.size + 1 + 1) (w.heap.size + 1 + 1 + 1) v1 (v1.setCell ⟨w.heap.size + 1 + 1, 3, none⟩ (.slice p1 n1 n1)) := touch_set1 v1 (w.heap.size + 1 + 1) _ _
  have T1 : Touch (w.heap.size + 1) (w.heap.size + 3) v1 (v1.setCell ⟨w.heap.size + 1 + 1, 3, none⟩ (.slice p1 n1 n1)) := T0.mono (by omega) (by omega)
  have T2 : Touch (w.heap.size + 1) (w.heap.size + 3) v1 (putLf (v1.setCell ⟨w.heap.size + 1 + 1, 3, none⟩ (.slice p1 n1 n1)) (w.heap.size + 1) (.int .i64 x.v) (.int .i64 x.e) (.slice p0 n0 n0) (.slice p1 n1 n1)) := T1.trans ((putLf_touch _ (w.heap.size + 1) _ _ _ _).mono (by omega) (by omega))
  refine bodyPost_ret (results_Lf rfl _ (w.heap.size + 1) rfl _ _ _ _ _ (putLf_heap (touch_kept T0 HBX1.out.2.1 (by omega)) _ _ _ _)) rfl ⟨p0, p1, rfl, (HK0.out.touch T2 (Nat.le_refl _)).mono (by omega), (HK1.out.touch T2 (Nat.le_refl _)).mono (by omega), hw1.trans (T2.below (by omega) (by omega))⟩

set_option maxRecDepth 10000 in
set_option maxHeartbeats 4000000 in
theorem eqListFile_same (x : LfP) (a0 : Option Addr) (n0 c0 : Nat) (a1 : Option Addr) (n1 c1 : Nat) (b0 : Option Addr) (d0 : Nat) (b1 : Option Addr) (d1 : Nat) (w : World) (r0 : RowTe w a0 n0 x.es) (s0 : RowTe w b0 n0 x.es) (m0 : n0 ≤ 9223372036854775807) (r1 : Fss KT w a1 n1 x.ss) (s1 : Fss KT w b1 n1 x.ss) (m1 : n1 ≤ 9223372036854775807) :
    Calls Tryz.prog 34 #[.agg #[.int .i64 x.v, .int .i64 x.e, .slice a0 n0 c0, .slice a1 n1 c1], .agg #[.int .i64 x.v, .int .i64 x.e, .slice b0 n0 d0, .slice b1 n1 d1]] w fun e w' => e = .returned (.bool true) ∧ Below w.heap.size w w' := by
  obtain ⟨w1, hw1⟩ : ∃ w1, w1 = (w.alloc (.cells #[.int .i64 x.v, .int .i64 x.e, .slice a0 n0 c0, .slice a1 n1 c1] 46)).alloc (.cells #[.int .i64 x.v, .int .i64 x.e, .slice b0 n0 d0, .slice b1 n1 d1] 46) := ⟨_, rfl⟩
  have hbb : Below w.heap.size w w1 := by rw [hw1]; exact ((Below.refl _ _).alloc (Nat.le_refl _) _).alloc (by simp) _
  have HBX : Hid (_ ∧ _) := two_blocks w (.cells #[.int .i64 x.v, .int .i64 x.e, .slice a0 n0 c0, .slice a1 n1 c1] 46) (.cells #[.int .i64 x.v, .int .i64 x.e, .slice b0 n0 d0, .slice b1 n1 d1] 46)
  rw [← hw1] at HBX
  have HW : Hid (_ = _) := hw1
  have HR0 : Hid (∀ W, Below w.heap.size w W → RowTe W a0 n0 x.es ∧ RowTe W b0 n0 x.es) := fun W hW => ⟨r0.kept hW, s0.kept hW⟩
  have HR1 : Hid (∀ W, Below w.heap.size w W → Fss KT W a1 n1 x.ss ∧ Fss KT W b1 n1 x.ss) := fun W hW => ⟨r1.kept hW, s1.kept hW⟩
  clear hw1 r0 s0 r1 s1
  have z0 : (x.v != x.v) = false := by simp
  have z1 : (x.e != x.e) = false := by simp
  have x0 : w1.cell? ⟨w.heap.size, 0, none⟩ = some (.int .i64 x.v) := (cell_of_row _ _ 0 _ 46 (0, 0) HBX.out.1).trans rfl
  have y0 : w1.cell? ⟨w.heap.size + 1, 0, none⟩ = some (.int .i64 x.v) := (cell_of_row _ _ 0 _ 46 (0, 0) HBX.out.2).trans rfl
  have x1 : w1.cell? ⟨w.heap.size, 1, none⟩ = some (.int .i64 x.e) := (cell_of_row _ _ 1 _ 46 (0, 0) HBX.out.1).trans rfl
  have y1 : w1.cell? ⟨w.heap.size + 1, 1, none⟩ = some (.int .i64 x.e) := (cell_of_row _ _ 1 _ 46 (0, 0) HBX.out.2).trans rfl
  have x2 : w1.cell? ⟨w.heap.size, 2, none⟩ = some (.slice a0 n0 c0) := (cell_of_row _ _ 2 _ 46 (0, 0) HBX.out.1).trans rfl
  have y2 : w1.cell? ⟨w.heap.size + 1, 2, none⟩ = some (.slice b0 n0 d0) := (cell_of_row _ _ 2 _ 46 (0, 0) HBX.out.2).trans rfl
  have x3 : w1.cell? ⟨w.heap.size, 3, none⟩ = some (.slice a1 n1 c1) := (cell_of_row _ _ 3 _ 46 (0, 0) HBX.out.1).trans rfl
  have y3 : w1.cell? ⟨w.heap.size + 1, 3, none⟩ = some (.slice b1 n1 d1) := (cell_of_row _ _ 3 _ 46 (0, 0) HBX.out.2).trans rfl
  go_enter Tryz.func34, Tryz.ntmps34
  go_upto_region 1 with fail
  rw [← HW.out]
  clear HW
  go_wp2_with fail
  refine (eqTeS_same a0 b0 n0 c0 d0 x.es _ (HR0.out _ hbb).1 (HR0.out _ hbb).2 m0).mono ?_
  rintro e v0 ⟨rfl, hb0⟩
  clear x0 y0 x1 y1 x2 y2 x3 y3
  have kb0 : Below w1.heap.size w1 v0 := hb0
  have hh0 : Below w.heap.size w v0 := keepT hbb kb0
  have x0 : v0.cell? ⟨w.heap.size, 0, none⟩ = some (.int .i64 x.v) := (cell_of_row _ _ 0 _ 46 (0, 0) (below_kept HBX.out.1 kb0)).trans rfl
  have y0 : v0.cell? ⟨w.heap.size + 1, 0, none⟩ = some (.int .i64 x.v) := (cell_of_row _ _ 0 _ 46 (0, 0) (below_kept HBX.out.2 kb0)).trans rfl
  have x1 : v0.cell? ⟨w.heap.size, 1, none⟩ = some (.int .i64 x.e) := (cell_of_row _ _ 1 _ 46 (0, 0) (below_kept HBX.out.1 kb0)).trans rfl
  have y1 : v0.cell? ⟨w.heap.size + 1, 1, none⟩ = some (.int .i64 x.e) := (cell_of_row _ _ 1 _ 46 (0, 0) (below_kept HBX.out.2 kb0)).trans rfl
  have x2 : v0.cell? ⟨w.heap.size, 2, none⟩ = some (.slice a0 n0 c0) := (cell_of_row _ _ 2 _ 46 (0, 0) (below_kept HBX.out.1 kb0)).trans rfl
  have y2 : v0.cell? ⟨w.heap.size + 1, 2, none⟩ = some (.slice b0 n0 d0) := (cell_of_row _ _ 2 _ 46 (0, 0) (below_kept HBX.out.2 kb0)).trans rfl
  have x3 : v0.cell? ⟨w.heap.size, 3, none⟩ = some (.slice a1 n1 c1) := (cell_of_row _ _ 3 _ 46 (0, 0) (below_kept HBX.out.1 kb0)).trans rfl
  have y3 : v0.cell? ⟨w.heap.size + 1, 3, none⟩ = some (.slice b1 n1 d1) := (cell_of_row _ _ 3 _ 46 (0, 0) (below_kept HBX.out.2 kb0)).trans rfl
  go_wp2_with fail
  refine (eqFileSigS_same KT KT a1 b1 n1 c1 d1 x.ss _ (HR1.out _ hh0).1 (HR1.out _ hh0).2).mono ?_
  rintro e v1 ⟨rfl, hb1⟩
  clear x0 y0 x1 y1 x2 y2 x3 y3
  have kb1 : Below w1.heap.size w1 v1 := keepT kb0 hb1
  have hh1 : Below w.heap.size w v1 := keepT hbb kb1
  have x0 : v1.cell? ⟨w.heap.size, 0, none⟩ = some (.int .i64 x.v) := (cell_of_row _ _ 0 _ 46 (0, 0) (below_kept HBX.out.1 kb1)).trans rfl
  have y0 : v1.cell? ⟨w.heap.size + 1, 0, none⟩ = some (.int .i64 x.v) := (cell_of_row _ _ 0 _ 46 (0, 0) (below_kept HBX.out.2 kb1)).trans rfl
  have x1 : v1.cell? ⟨w.heap.size, 1, none⟩ = some (.int .i64 x.e) := (cell_of_row _ _ 1 _ 46 (0, 0) (below_kept HBX.out.1 kb1)).trans rfl
  have y1 : v1.cell? ⟨w.heap.size + 1, 1, none⟩ = some (.int .i64 x.e) := (cell_of_row _ _ 1 _ 46 (0, 0) (below_kept HBX.out.2 kb1)).trans rfl
  have x2 : v1.cell? ⟨w.heap.size, 2, none⟩ = some (.slice a0 n0 c0) := (cell_of_row _ _ 2 _ 46 (0, 0) (below_kept HBX.out.1 kb1)).trans rfl
  have y2 : v1.cell? ⟨w.heap.size + 1, 2, none⟩ = some (.slice b0 n0 d0) := (cell_of_row _ _ 2 _ 46 (0, 0) (below_kept HBX.out.2 kb1)).trans rfl
  have x3 : v1.cell? ⟨w.heap.size, 3, none⟩ = some (.slice a1 n1 c1) := (cell_of_row _ _ 3 _ 46 (0, 0) (below_kept HBX.out.1 kb1)).trans rfl
  have y3 : v1.cell? ⟨w.heap.size + 1, 3, none⟩ = some (.slice b1 n1 d1) := (cell_of_row _ _ 3 _ 46 (0, 0) (below_kept HBX.out.2 kb1)).trans rfl
  go_wp2
  go_ret
  exact ⟨rfl, hh1⟩

end Go.Proofs.YtglpbgebcpijaaaGreat
