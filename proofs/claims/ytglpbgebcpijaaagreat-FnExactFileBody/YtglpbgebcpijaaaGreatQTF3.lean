import Derived.Test.YtglpbgebcpijaaaGreatMFM
import Derived.Test.YtglpbgebcpijaaaGreatMTH
import Derived.Great.BuildSlice
set_option linter.unusedVariables false
namespace Go.Proofs.YtglpbgebcpijaaaGreat
open Go.RowKit

/-- Its sizes are small. -/
structure TfS (x : TfP) (n0 n1 n2 n3 n4 : Nat) : Prop where
  q0 : (n0 ≤ 1048576 ∧ ∀ k, k < n0 → (x.r.rs.getD k default).ks.length ≤ 1048576)
  q1 : (n1 ≤ 1048576 ∧ ∀ k, k < n1 → (x.r.ss.getD k default).sg.length ≤ 1048576)
  q2 : (n2 ≤ 1048576 ∧ ∀ k, k < n2 → (x.s.ss.getD k default).sg.length ≤ 1048576)
  q3 : n3 ≤ 1048576
  q4 : (n4 ≤ 1048576 ∧ ∀ k, k < n4 → (x.l.ss.getD k default).sg.length ≤ 1048576)
/-- Its rows may be marked. -/
structure TfO (lo hi : Nat) (a0 : Option Addr) (n0 : Nat) (a1 : Option Addr) (n1 : Nat) (a2 : Option Addr) (n2 : Nat) (a3 : Option Addr) (n3 : Nat) (a4 : Option Addr) (n4 : Nat) (w : World) : Prop where
  o0 : SO 1 0 3 lo hi w a0 n0
  o1 : SO 0 1 1 lo hi w a1 n1
  o2 : SO 0 1 1 lo hi w a2 n2
  o3 : IR 2 lo hi w a3 n3
  o4 : SO 0 1 1 lo hi w a4 n4
theorem TfO.sh {lo hi : Nat} {a0 : Option Addr} {n0 : Nat} {a1 : Option Addr} {n1 : Nat} {a2 : Option Addr} {n2 : Nat} {a3 : Option Addr} {n3 : Nat} {a4 : Option Addr} {n4 : Nat} {w w' : World} (h : TfO lo hi a0 n0 a1 n1 a2 n2 a3 n3 a4 n4 w) (k : Sh w w') : TfO lo hi a0 n0 a1 n1 a2 n2 a3 n3 a4 n4 w' := ⟨h.o0.sh k, h.o1.sh k, h.o2.sh k, h.o3.sh k, h.o4.sh k⟩

set_option maxRecDepth 10000 in
set_option maxHeartbeats 4000000 in
theorem szTrustFile_any (x : TfP) (a0 : Option Addr) (n0 c0 : Nat) (a1 : Option Addr) (n1 c1 : Nat) (a2 : Option Addr) (n2 c2 : Nat) (a3 : Option Addr) (n3 c3 : Nat) (a4 : Option Addr) (n4 c4 : Nat) (l : Int) (w : World) (h : TfR x a0 n0 a1 n1 a2 n2 a3 n3 a4 n4 w) (h0 : 0 ≤ l) (h1 : l ≤ 1048576) :
    Calls Tryz.prog 5 #[.agg #[.int .i64 x.k, .int .i64 x.r.v, .int .i64 x.r.e, .slice a0 n0 c0, .slice a1 n1 c1, .int .i64 x.s.v, .int .i64 x.s.e, .int .i64 x.s.lv, .int .u64 x.s.lh, .slice a2 n2 c2, .int .i64 x.l.v, .int .i64 x.l.e, .slice a3 n3 c3, .slice a4 n4 c4], .int .i64 l] w fun e w' => ∃ r, e = .returned (.int .i64 r) ∧ (r < 0 ∨ (0 ≤ r ∧ r ≤ 1048576 ∧ TfS x n0 n1 n2 n3 n4)) ∧ Below w.heap.size w w' := by
  obtain ⟨w1, hw1⟩ : ∃ w1, w1 = w.alloc (.cells #[.int .i64 x.k, .int .i64 x.r.v, .int .i64 x.r.e, .slice a0 n0 c0, .slice a1 n1 c1, .int .i64 x.s.v, .int .i64 x.s.e, .int .i64 x.s.lv, .int .u64 x.s.lh, .slice a2 n2 c2, .int .i64 x.l.v, .int .i64 x.l.e, .slice a3 n3 c3, .slice a4 n4 c4] 33) := ⟨_, rfl⟩
  have hbb : Below w.heap.size w w1 := by rw [hw1]; exact (Below.refl _ _).alloc (Nat.le_refl _) _
  have HB : Hid (w1.heap[w.heap.size]? = some (.cells #[.int .i64 x.k, .int .i64 x.r.v, .int .i64 x.r.e, .slice a0 n0 c0, .slice a1 n1 c1, .int .i64 x.s.v, .int .i64 x.s.e, .int .i64 x.s.lv, .int .u64 x.s.lh, .slice a2 n2 c2, .int .i64 x.l.v, .int .i64 x.l.e, .slice a3 n3 c3, .slice a4 n4 c4] 33 (0, 0))) := by show _ = _; rw [hw1]; exact heap_alloc_new w _
  have HW : Hid (_ = _) := hw1
  have HR : Hid (∀ W, Below w.heap.size w W → TfR x a0 n0 a1 n1 a2 n2 a3 n3 a4 n4 W) := fun W hW => h.kept hW
  clear hw1 h
  have l0 : w1.cell? ⟨w.heap.size, 0, none⟩ = some (.int .i64 x.k) := (cell_of_row _ _ 0 _ 33 (0, 0) HB.out).trans rfl
  have l1 : w1.cell? ⟨w.heap.size, 1, none⟩ = some (.int .i64 x.r.v) := (cell_of_row _ _ 1 _ 33 (0, 0) HB.out).trans rfl
  have l2 : w1.cell? ⟨w.heap.size, 2, none⟩ = some (.int .i64 x.r.e) := (cell_of_row _ _ 2 _ 33 (0, 0) HB.out).trans rfl
  have l3 : w1.cell? ⟨w.heap.size, 3, none⟩ = some (.slice a0 n0 c0) := (cell_of_row _ _ 3 _ 33 (0, 0) HB.out).trans rfl
  have l4 : w1.cell? ⟨w.heap.size, 4, none⟩ = some (.slice a1 n1 c1) := (cell_of_row _ _ 4 _ 33 (0, 0) HB.out).trans rfl
  go_enter Tryz.func5, Tryz.ntmps5
  go_upto_region 1 with fail
  rw [← HW.out]
  clear HW
  go_wp2_with fail
  refine (szRootFile_any x.r a0 n0 c0 a1 n1 c1 l _ (HR.out _ hbb).r0 (HR.out _ hbb).m0 (HR.out _ hbb).r1 (HR.out _ hbb).m1 h0 h1).mono ?_
  rintro e v0 ⟨r0, rfl, hr0, hb0⟩
  clear l1 l2 l3 l4
  have kb0 : Below w1.heap.size w1 v0 := hb0
  have hh0 : Below w.heap.size w v0 := keepT hbb kb0
  by_cases g0 : r0 < 0
  · clear hr0
    go_wp2
    go_ret
    exact ⟨_, rfl, .inl (by decide), hh0⟩
  have H0 : Hid (0 ≤ r0 ∧ r0 ≤ 1048576 ∧ (n0 ≤ 1048576 ∧ ∀ k, k < n0 → (x.r.rs.getD k default).ks.length ≤ 1048576) ∧ (n1 ≤ 1048576 ∧ ∀ k, k < n1 → (x.r.ss.getD k default).sg.length ≤ 1048576)) := hr0.resolve_left g0
  have b0 : 0 ≤ r0 ∧ r0 ≤ 1048576 := ⟨H0.out.1, H0.out.2.1⟩
  clear hr0
  have l5 : v0.cell? ⟨w.heap.size, 5, none⟩ = some (.int .i64 x.s.v) := (cell_of_row _ _ 5 _ 33 (0, 0) (below_kept HB.out kb0)).trans rfl
  have l6 : v0.cell? ⟨w.heap.size, 6, none⟩ = some (.int .i64 x.s.e) := (cell_of_row _ _ 6 _ 33 (0, 0) (below_kept HB.out kb0)).trans rfl
  have l7 : v0.cell? ⟨w.heap.size, 7, none⟩ = some (.int .i64 x.s.lv) := (cell_of_row _ _ 7 _ 33 (0, 0) (below_kept HB.out kb0)).trans rfl
  have l8 : v0.cell? ⟨w.heap.size, 8, none⟩ = some (.int .u64 x.s.lh) := (cell_of_row _ _ 8 _ 33 (0, 0) (below_kept HB.out kb0)).trans rfl
  have l9 : v0.cell? ⟨w.heap.size, 9, none⟩ = some (.slice a2 n2 c2) := (cell_of_row _ _ 9 _ 33 (0, 0) (below_kept HB.out kb0)).trans rfl
  go_wp2_with fail
  refine (szStampFile_any x.s a2 n2 c2 r0 _ (HR.out _ hh0).r2 (HR.out _ hh0).m2 b0.1 b0.2).mono ?_
  rintro e v1 ⟨r1, rfl, hr1, hb1⟩
  clear l5 l6 l7 l8 l9
  have kb1 : Below w1.heap.size w1 v1 := keepT kb0 hb1
  have hh1 : Below w.heap.size w v1 := keepT hbb kb1
  by_cases g1 : r1 < 0
  · clear hr1
    go_wp2
    go_ret
    exact ⟨_, rfl, .inl (by decide), hh1⟩
  have H1 : Hid (0 ≤ r1 ∧ r1 ≤ 1048576 ∧ (n2 ≤ 1048576 ∧ ∀ k, k < n2 → (x.s.ss.getD k default).sg.length ≤ 1048576)) := hr1.resolve_left g1
  have b1 : 0 ≤ r1 ∧ r1 ≤ 1048576 := ⟨H1.out.1, H1.out.2.1⟩
  clear hr1
  have l10 : v1.cell? ⟨w.heap.size, 10, none⟩ = some (.int .i64 x.l.v) := (cell_of_row _ _ 10 _ 33 (0, 0) (below_kept HB.out kb1)).trans rfl
  have l11 : v1.cell? ⟨w.heap.size, 11, none⟩ = some (.int .i64 x.l.e) := (cell_of_row _ _ 11 _ 33 (0, 0) (below_kept HB.out kb1)).trans rfl
  have l12 : v1.cell? ⟨w.heap.size, 12, none⟩ = some (.slice a3 n3 c3) := (cell_of_row _ _ 12 _ 33 (0, 0) (below_kept HB.out kb1)).trans rfl
  have l13 : v1.cell? ⟨w.heap.size, 13, none⟩ = some (.slice a4 n4 c4) := (cell_of_row _ _ 13 _ 33 (0, 0) (below_kept HB.out kb1)).trans rfl
  go_wp2_with fail
  refine (szListFile_any x.l a3 n3 c3 a4 n4 c4 r1 _ (HR.out _ hh1).r3 (HR.out _ hh1).m3 (HR.out _ hh1).r4 (HR.out _ hh1).m4 b1.1 b1.2).mono ?_
  rintro e v2 ⟨r2, rfl, hr2, hb2⟩
  clear l10 l11 l12 l13
  have kb2 : Below w1.heap.size w1 v2 := keepT kb1 hb2
  have hh2 : Below w.heap.size w v2 := keepT hbb kb2
  by_cases g2 : r2 < 0
  · clear hr2
    go_wp2
    go_ret
    exact ⟨_, rfl, .inl (by decide), hh2⟩
  have H2 : Hid (0 ≤ r2 ∧ r2 ≤ 1048576 ∧ n3 ≤ 1048576 ∧ (n4 ≤ 1048576 ∧ ∀ k, k < n4 → (x.l.ss.getD k default).sg.length ≤ 1048576)) := hr2.resolve_left g2
  have b2 : 0 ≤ r2 ∧ r2 ≤ 1048576 := ⟨H2.out.1, H2.out.2.1⟩
  clear hr2
  go_wp2
  go_ret
  exact ⟨_, rfl, .inr ⟨b2.1, b2.2, ⟨H0.out.2.2.1, H0.out.2.2.2, H1.out.2.2, H2.out.2.2.1, H2.out.2.2.2⟩⟩, hh2⟩

theorem infoTf : (Tryz.prog.info? 48).map (·.size) = some 14 := by kernel_rfl
theorem results_Tf {fn : Func} {t : Tmp} (h : fn.results = #[.cell t 48]) (tmps : Array Value) (g : Nat) (ht : tmps.getD t undef = .pointer (some ⟨g, 0, none⟩)) (w : World) (cs : Array Value) (hs : cs.size = 14)
    (hb : w.heap[g]? = some (.cells cs 48 (0, 0))) : (results fn tmps).run Tryz.prog w = .ok (.agg cs) w := by
  have ht' : tmps[t]?.getD undef = .pointer (some ⟨g, 0, none⟩) := by rw [← ht]; simp
  have hi : (Tryz.prog.info? 48).map (·.size) = some cs.size := by rw [hs]; exact infoTf
  simp [results, h, asAddr, ht', run_loadVar_row w g _ _ cs (0, 0) _ hb Tryz.underlying48 rfl hi]

set_option maxRecDepth 10000 in
set_option maxHeartbeats 8000000 in
theorem toTrustFile_any (x : TfP) (a0 : Option Addr) (n0 c0 : Nat) (a1 : Option Addr) (n1 c1 : Nat) (a2 : Option Addr) (n2 c2 : Nat) (a3 : Option Addr) (n3 c3 : Nat) (a4 : Option Addr) (n4 c4 : Nat) (w : World) (h : TfR x a0 n0 a1 n1 a2 n2 a3 n3 a4 n4 w) (hq : TfS x n0 n1 n2 n3 n4) :
    Calls Tryz.prog 7 #[.agg #[.int .i64 x.k, .int .i64 x.r.v, .int .i64 x.r.e, .slice a0 n0 c0, .slice a1 n1 c1, .int .i64 x.s.v, .int .i64 x.s.e, .int .i64 x.s.lv, .int .u64 x.s.lh, .slice a2 n2 c2, .int .i64 x.l.v, .int .i64 x.l.e, .slice a3 n3 c3, .slice a4 n4 c4]] w fun e w' => ∃ p0 p1 p2 p3 p4, e = .returned (.agg #[.int .i64 x.k, .int .i64 x.r.v, .int .i64 x.r.e, .slice p0 n0 n0, .slice p1 n1 n1, .int .i64 x.s.v, .int .i64 x.s.e, .int .i64 x.s.lv, .int .u64 x.s.lh, .slice p2 n2 n2, .int .i64 x.l.v, .int .i64 x.l.e, .slice p3 n3 n3, .slice p4 n4 n4]) ∧ TfR x p0 n0 p1 n1 p2 n2 p3 n3 p4 n4 w' ∧ TfO w.heap.size w'.heap.size p0 n0 p1 n1 p2 n2 p3 n3 p4 n4 w' ∧ Below w.heap.size w w' := by
  obtain ⟨w1, hw1⟩ : ∃ w1, w1 = ((w.alloc (.cells #[.int .i64 x.k, .int .i64 x.r.v, .int .i64 x.r.e, .slice a0 n0 c0, .slice a1 n1 c1, .int .i64 x.s.v, .int .i64 x.s.e, .int .i64 x.s.lv, .int .u64 x.s.lh, .slice a2 n2 c2, .int .i64 x.l.v, .int .i64 x.l.e, .slice a3 n3 c3, .slice a4 n4 c4] 33)).alloc (.cells #[.int .i64 0, .int .i64 0, .int .i64 0, .slice none 0 0, .slice none 0 0, .int .i64 0, .int .i64 0, .int .i64 0, .int .u64 0, .slice none 0 0, .int .i64 0, .int .i64 0, .slice none 0 0, .slice none 0 0] 48)).alloc (.cells #[.int .i64 0, .int .i64 0, .int .i64 0, .slice none 0 0, .slice none 0 0, .int .i64 0, .int .i64 0, .int .i64 0, .int .u64 0, .slice none 0 0, .int .i64 0, .int .i64 0, .slice none 0 0, .slice none 0 0] 48) := ⟨_, rfl⟩
  have hbb : Below w.heap.size w w1 := by rw [hw1]; exact (((Below.refl _ _).alloc (Nat.le_refl _) _).alloc (by simp) _).alloc (by simp; omega) _
  have hsz : w1.heap.size = w.heap.size + 3 := by rw [hw1]; simp
  have HBX : Hid (_ ∧ _ ∧ _) := heap_alloc2_newH w (.cells #[.int .i64 x.k, .int .i64 x.r.v, .int .i64 x.r.e, .slice a0 n0 c0, .slice a1 n1 c1, .int .i64 x.s.v, .int .i64 x.s.e, .int .i64 x.s.lv, .int .u64 x.s.lh, .slice a2 n2 c2, .int .i64 x.l.v, .int .i64 x.l.e, .slice a3 n3 c3, .slice a4 n4 c4] 33) (.cells #[.int .i64 0, .int .i64 0, .int .i64 0, .slice none 0 0, .slice none 0 0, .int .i64 0, .int .i64 0, .int .i64 0, .int .u64 0, .slice none 0 0, .int .i64 0, .int .i64 0, .slice none 0 0, .slice none 0 0] 48) (.cells #[.int .i64 0, .int .i64 0, .int .i64 0, .slice none 0 0, .slice none 0 0, .int .i64 0, .int .i64 0, .int .i64 0, .int .u64 0, .slice none 0 0, .int .i64 0, .int .i64 0, .slice none 0 0, .slice none 0 0] 48)
  rw [← hw1] at HBX
  have HW : Hid (_ = _) := hw1
  have HR : Hid (∀ W, Below w.heap.size w W → TfR x a0 n0 a1 n1 a2 n2 a3 n3 a4 n4 W) := fun W hW => h.kept hW
  have HQ : Hid (TfS x n0 n1 n2 n3 n4) := hq
  clear hw1 h hq
  have l0 : w1.cell? ⟨w.heap.size, 0, none⟩ = some (.int .i64 x.k) := (cell_of_row _ _ 0 _ 33 (0, 0) HBX.out.1).trans rfl
  have l1 : w1.cell? ⟨w.heap.size, 1, none⟩ = some (.int .i64 x.r.v) := (cell_of_row _ _ 1 _ 33 (0, 0) HBX.out.1).trans rfl
  have l2 : w1.cell? ⟨w.heap.size, 2, none⟩ = some (.int .i64 x.r.e) := (cell_of_row _ _ 2 _ 33 (0, 0) HBX.out.1).trans rfl
  have l3 : w1.cell? ⟨w.heap.size, 3, none⟩ = some (.slice a0 n0 c0) := (cell_of_row _ _ 3 _ 33 (0, 0) HBX.out.1).trans rfl
  have l4 : w1.cell? ⟨w.heap.size, 4, none⟩ = some (.slice a1 n1 c1) := (cell_of_row _ _ 4 _ 33 (0, 0) HBX.out.1).trans rfl
  go_enter Tryz.func7, Tryz.ntmps7
  go_upto_region 2 with fail
  rw [← HW.out]
  clear HW
  have x0 : w1.cell? ⟨w.heap.size + 1 + 1, 0, none⟩ = some (.int .i64 0) := (cell_of_row _ _ 0 _ 48 (0, 0) HBX.out.2.2).trans rfl
  have y0 : w1.frozen? ⟨w.heap.size + 1 + 1, 0, none⟩ = false := frozen_of_row w1 _ 0 _ 48 HBX.out.2.2
  obtain ⟨z9, hz9⟩ : ∃ z, z = w1.setCell ⟨w.heap.size + 1 + 1, 0, none⟩ (.int .i64 x.k) := ⟨_, rfl⟩
  have ht9 : Touch (w.heap.size + 1 + 1) (w.heap.size + 1 + 1 + 1) w1 z9 := by rw [hz9]; exact touch_set1 _ _ _ _
  have HBY9 : Hid (z9.heap[w.heap.size]? = some (.cells #[.int .i64 x.k, .int .i64 x.r.v, .int .i64 x.r.e, .slice a0 n0 c0, .slice a1 n1 c1, .int .i64 x.s.v, .int .i64 x.s.e, .int .i64 x.s.lv, .int .u64 x.s.lh, .slice a2 n2 c2, .int .i64 x.l.v, .int .i64 x.l.e, .slice a3 n3 c3, .slice a4 n4 c4] 33 (0, 0)) ∧ z9.heap[w.heap.size + 1]? = some (.cells #[.int .i64 0, .int .i64 0, .int .i64 0, .slice none 0 0, .slice none 0 0, .int .i64 0, .int .i64 0, .int .i64 0, .int .u64 0, .slice none 0 0, .int .i64 0, .int .i64 0, .slice none 0 0, .slice none 0 0] 48 (0, 0)) ∧ z9.heap[w.heap.size + 1 + 1]? = some (.cells #[.int .i64 x.k, .int .i64 0, .int .i64 0, .slice none 0 0, .slice none 0 0, .int .i64 0, .int .i64 0, .int .i64 0, .int .u64 0, .slice none 0 0, .int .i64 0, .int .i64 0, .slice none 0 0, .slice none 0 0] 48 (0, 0))) := ⟨touch_kept ht9 HBX.out.1 (by omega), touch_kept ht9 HBX.out.2.1 (by omega), by rw [hz9]; exact heap_setCell_same _ _ 0 _ _ _ HBX.out.2.2⟩
  have hy9 : Below w.heap.size w z9 := hbb.trans (ht9.below (by omega) (by omega))
  have hq9 : w.heap.size + 3 ≤ z9.heap.size := by have := ht9.size; omega
  have HZ9 : Hid (_ = _) := hz9
  clear hz9
  go_upto_region 3 with fail
  rw [← HZ9.out]
  clear HZ9 x0 y0 l0 l1 l2 l3 l4
  have l1 : z9.cell? ⟨w.heap.size, 1, none⟩ = some (.int .i64 x.r.v) := (cell_of_row _ _ 1 _ 33 (0, 0) HBY9.out.1).trans rfl
  have l2 : z9.cell? ⟨w.heap.size, 2, none⟩ = some (.int .i64 x.r.e) := (cell_of_row _ _ 2 _ 33 (0, 0) HBY9.out.1).trans rfl
  have l3 : z9.cell? ⟨w.heap.size, 3, none⟩ = some (.slice a0 n0 c0) := (cell_of_row _ _ 3 _ 33 (0, 0) HBY9.out.1).trans rfl
  have l4 : z9.cell? ⟨w.heap.size, 4, none⟩ = some (.slice a1 n1 c1) := (cell_of_row _ _ 4 _ 33 (0, 0) HBY9.out.1).trans rfl
  go_wp2_with fail
  refine (toRootFile2_any x.r a0 n0 c0 a1 n1 c1 _ (HR.out _ hy9).r0 (HR.out _ hy9).m0 (HR.out _ hy9).r1 (HR.out _ hy9).m1 HQ.out.q0 HQ.out.q1).mono ?_
  rintro e v0 ⟨p0, p1, rfl, k0, k1, hb0⟩
  clear l1 l2 l3 l4
  have HK0 : Hid (KeepB (w.heap.size + 3) v0 (fun W => Ros KT W p0 n0 x.r.rs ∧ SO 1 0 3 w.heap.size W.heap.size W p0 n0)) := (k0.map (fun W h => ⟨h.1, h.2.mono (by omega) (Nat.le_refl _)⟩)).mono (by omega)
  have HK1 : Hid (KeepB (w.heap.size + 3) v0 (fun W => Fss KT W p1 n1 x.r.ss ∧ SO 0 1 1 w.heap.size W.heap.size W p1 n1)) := (k1.map (fun W h => ⟨h.1, h.2.mono (by omega) (Nat.le_refl _)⟩)).mono (by omega)
  have hw0 : Below w.heap.size w v0 := hy9.trans (hb0.mono hy9.size)
  have hz0 : w.heap.size + 3 ≤ v0.heap.size := by have := hb0.size; omega
  have HBX0 : Hid (v0.heap[w.heap.size]? = some (.cells #[.int .i64 x.k, .int .i64 x.r.v, .int .i64 x.r.e, .slice a0 n0 c0, .slice a1 n1 c1, .int .i64 x.s.v, .int .i64 x.s.e, .int .i64 x.s.lv, .int .u64 x.s.lh, .slice a2 n2 c2, .int .i64 x.l.v, .int .i64 x.l.e, .slice a3 n3 c3, .slice a4 n4 c4] 33 (0, 0)) ∧ v0.heap[w.heap.size + 1]? = some (.cells #[.int .i64 0, .int .i64 0, .int .i64 0, .slice none 0 0, .slice none 0 0, .int .i64 0, .int .i64 0, .int .i64 0, .int .u64 0, .slice none 0 0, .int .i64 0, .int .i64 0, .slice none 0 0, .slice none 0 0] 48 (0, 0)) ∧ v0.heap[w.heap.size + 1 + 1]? = some (.cells #[.int .i64 x.k, .int .i64 0, .int .i64 0, .slice none 0 0, .slice none 0 0, .int .i64 0, .int .i64 0, .int .i64 0, .int .u64 0, .slice none 0 0, .int .i64 0, .int .i64 0, .slice none 0 0, .slice none 0 0] 48 (0, 0))) := ⟨below_kept HBY9.out.1 hb0, below_kept HBY9.out.2.1 hb0, below_kept HBY9.out.2.2 hb0⟩
  have x1 : v0.cell? ⟨w.heap.size + 1 + 1, 1, none⟩ = some (.int .i64 0) := (cell_of_row _ _ 1 _ 48 (0, 0) HBX0.out.2.2).trans rfl
  have y1 : v0.frozen? ⟨w.heap.size + 1 + 1, 1, none⟩ = false := frozen_of_row v0 _ 1 _ 48 HBX0.out.2.2
  have x2 : v0.cell? ⟨w.heap.size + 1 + 1, 2, none⟩ = some (.int .i64 0) := (cell_of_row _ _ 2 _ 48 (0, 0) HBX0.out.2.2).trans rfl
  have y2 : v0.frozen? ⟨w.heap.size + 1 + 1, 2, none⟩ = false := frozen_of_row v0 _ 2 _ 48 HBX0.out.2.2
  have x3 : v0.cell? ⟨w.heap.size + 1 + 1, 3, none⟩ = some (.slice none 0 0) := (cell_of_row _ _ 3 _ 48 (0, 0) HBX0.out.2.2).trans rfl
  have y3 : v0.frozen? ⟨w.heap.size + 1 + 1, 3, none⟩ = false := frozen_of_row v0 _ 3 _ 48 HBX0.out.2.2
  have x4 : v0.cell? ⟨w.heap.size + 1 + 1, 4, none⟩ = some (.slice none 0 0) := (cell_of_row _ _ 4 _ 48 (0, 0) HBX0.out.2.2).trans rfl
  have y4 : v0.frozen? ⟨w.heap.size + 1 + 1, 4, none⟩ = false := frozen_of_row v0 _ 4 _ 48 HBX0.out.2.2
  obtain ⟨z0, hz0⟩ : ∃ z, z = ((((v0.setCell ⟨w.heap.size + 1 + 1, 1, none⟩ (.int .i64 x.r.v)).setCell ⟨w.heap.size + 1 + 1, 2, none⟩ (.int .i64 x.r.e)).setCell ⟨w.heap.size + 1 + 1, 3, none⟩ (.slice p0 n0 n0)).setCell ⟨w.heap.size + 1 + 1, 4, none⟩ (.slice p1 n1 n1)) := ⟨_, rfl⟩
  have ht0 : Touch (w.heap.size + 1 + 1) (w.heap.size + 1 + 1 + 1) v0 z0 := by rw [hz0]; exact (((touch_set1 _ _ _ _).trans (touch_set1 _ _ _ _)).trans (touch_set1 _ _ _ _)).trans (touch_set1 _ _ _ _)
  have HBY0 : Hid (z0.heap[w.heap.size]? = some (.cells #[.int .i64 x.k, .int .i64 x.r.v, .int .i64 x.r.e, .slice a0 n0 c0, .slice a1 n1 c1, .int .i64 x.s.v, .int .i64 x.s.e, .int .i64 x.s.lv, .int .u64 x.s.lh, .slice a2 n2 c2, .int .i64 x.l.v, .int .i64 x.l.e, .slice a3 n3 c3, .slice a4 n4 c4] 33 (0, 0)) ∧ z0.heap[w.heap.size + 1]? = some (.cells #[.int .i64 0, .int .i64 0, .int .i64 0, .slice none 0 0, .slice none 0 0, .int .i64 0, .int .i64 0, .int .i64 0, .int .u64 0, .slice none 0 0, .int .i64 0, .int .i64 0, .slice none 0 0, .slice none 0 0] 48 (0, 0)) ∧ z0.heap[w.heap.size + 1 + 1]? = some (.cells #[.int .i64 x.k, .int .i64 x.r.v, .int .i64 x.r.e, .slice p0 n0 n0, .slice p1 n1 n1, .int .i64 0, .int .i64 0, .int .i64 0, .int .u64 0, .slice none 0 0, .int .i64 0, .int .i64 0, .slice none 0 0, .slice none 0 0] 48 (0, 0))) := ⟨touch_kept ht0 HBX0.out.1 (by omega), touch_kept ht0 HBX0.out.2.1 (by omega), by rw [hz0]; exact (heap_setCell_same _ _ 4 _ _ _ (heap_setCell_same _ _ 3 _ _ _ (heap_setCell_same _ _ 2 _ _ _ (heap_setCell_same _ _ 1 _ _ _ HBX0.out.2.2))))⟩
  have HK0 : Hid (KeepB (w.heap.size + 3) z0 (fun W => Ros KT W p0 n0 x.r.rs ∧ SO 1 0 3 w.heap.size W.heap.size W p0 n0)) := HK0.out.touch ht0 (by omega)
  have HK1 : Hid (KeepB (w.heap.size + 3) z0 (fun W => Fss KT W p1 n1 x.r.ss ∧ SO 0 1 1 w.heap.size W.heap.size W p1 n1)) := HK1.out.touch ht0 (by omega)
  have hy0 : Below w.heap.size w z0 := hw0.trans (ht0.below (by omega) (by omega))
  have hq0 : w.heap.size + 3 ≤ z0.heap.size := by have := ht0.size; omega
  have HZ0 : Hid (_ = _) := hz0
  clear hz0 k0 k1 hb0
  go_upto_region 4 with fail
  rw [← HZ0.out]
  clear HZ0 x1 y1 x2 y2 x3 y3 x4 y4
  have l5 : z0.cell? ⟨w.heap.size, 5, none⟩ = some (.int .i64 x.s.v) := (cell_of_row _ _ 5 _ 33 (0, 0) HBY0.out.1).trans rfl
  have l6 : z0.cell? ⟨w.heap.size, 6, none⟩ = some (.int .i64 x.s.e) := (cell_of_row _ _ 6 _ 33 (0, 0) HBY0.out.1).trans rfl
  have l7 : z0.cell? ⟨w.heap.size, 7, none⟩ = some (.int .i64 x.s.lv) := (cell_of_row _ _ 7 _ 33 (0, 0) HBY0.out.1).trans rfl
  have l8 : z0.cell? ⟨w.heap.size, 8, none⟩ = some (.int .u64 x.s.lh) := (cell_of_row _ _ 8 _ 33 (0, 0) HBY0.out.1).trans rfl
  have l9 : z0.cell? ⟨w.heap.size, 9, none⟩ = some (.slice a2 n2 c2) := (cell_of_row _ _ 9 _ 33 (0, 0) HBY0.out.1).trans rfl
  go_wp2_with fail
  refine (toStampFile2_any x.s a2 n2 c2 _ (HR.out _ hy0).r2 (HR.out _ hy0).m2 HQ.out.q2).mono ?_
  rintro e v1 ⟨p2, rfl, k2, hb1⟩
  clear l5 l6 l7 l8 l9
  have HK2 : Hid (KeepB (w.heap.size + 3) v1 (fun W => Fss KT W p2 n2 x.s.ss ∧ SO 0 1 1 w.heap.size W.heap.size W p2 n2)) := (k2.map (fun W h => ⟨h.1, h.2.mono (by omega) (Nat.le_refl _)⟩)).mono (by omega)
  have HK0 : Hid (KeepB (w.heap.size + 3) v1 (fun W => Ros KT W p0 n0 x.r.rs ∧ SO 1 0 3 w.heap.size W.heap.size W p0 n0)) := HK0.out.kept hb1
  have HK1 : Hid (KeepB (w.heap.size + 3) v1 (fun W => Fss KT W p1 n1 x.r.ss ∧ SO 0 1 1 w.heap.size W.heap.size W p1 n1)) := HK1.out.kept hb1
  have hw1 : Below w.heap.size w v1 := hy0.trans (hb1.mono hy0.size)
  have hz1 : w.heap.size + 3 ≤ v1.heap.size := by have := hb1.size; omega
  have HBX1 : Hid (v1.heap[w.heap.size]? = some (.cells #[.int .i64 x.k, .int .i64 x.r.v, .int .i64 x.r.e, .slice a0 n0 c0, .slice a1 n1 c1, .int .i64 x.s.v, .int .i64 x.s.e, .int .i64 x.s.lv, .int .u64 x.s.lh, .slice a2 n2 c2, .int .i64 x.l.v, .int .i64 x.l.e, .slice a3 n3 c3, .slice a4 n4 c4] 33 (0, 0)) ∧ v1.heap[w.heap.size + 1]? = some (.cells #[.int .i64 0, .int .i64 0, .int .i64 0, .slice none 0 0, .slice none 0 0, .int .i64 0, .int .i64 0, .int .i64 0, .int .u64 0, .slice none 0 0, .int .i64 0, .int .i64 0, .slice none 0 0, .slice none 0 0] 48 (0, 0)) ∧ v1.heap[w.heap.size + 1 + 1]? = some (.cells #[.int .i64 x.k, .int .i64 x.r.v, .int .i64 x.r.e, .slice p0 n0 n0, .slice p1 n1 n1, .int .i64 0, .int .i64 0, .int .i64 0, .int .u64 0, .slice none 0 0, .int .i64 0, .int .i64 0, .slice none 0 0, .slice none 0 0] 48 (0, 0))) := ⟨below_kept HBY0.out.1 hb1, below_kept HBY0.out.2.1 hb1, below_kept HBY0.out.2.2 hb1⟩
  have x5 : v1.cell? ⟨w.heap.size + 1 + 1, 5, none⟩ = some (.int .i64 0) := (cell_of_row _ _ 5 _ 48 (0, 0) HBX1.out.2.2).trans rfl
  have y5 : v1.frozen? ⟨w.heap.size + 1 + 1, 5, none⟩ = false := frozen_of_row v1 _ 5 _ 48 HBX1.out.2.2
  have x6 : v1.cell? ⟨w.heap.size + 1 + 1, 6, none⟩ = some (.int .i64 0) := (cell_of_row _ _ 6 _ 48 (0, 0) HBX1.out.2.2).trans rfl
  have y6 : v1.frozen? ⟨w.heap.size + 1 + 1, 6, none⟩ = false := frozen_of_row v1 _ 6 _ 48 HBX1.out.2.2
  have x7 : v1.cell? ⟨w.heap.size + 1 + 1, 7, none⟩ = some (.int .i64 0) := (cell_of_row _ _ 7 _ 48 (0, 0) HBX1.out.2.2).trans rfl
  have y7 : v1.frozen? ⟨w.heap.size + 1 + 1, 7, none⟩ = false := frozen_of_row v1 _ 7 _ 48 HBX1.out.2.2
  have x8 : v1.cell? ⟨w.heap.size + 1 + 1, 8, none⟩ = some (.int .u64 0) := (cell_of_row _ _ 8 _ 48 (0, 0) HBX1.out.2.2).trans rfl
  have y8 : v1.frozen? ⟨w.heap.size + 1 + 1, 8, none⟩ = false := frozen_of_row v1 _ 8 _ 48 HBX1.out.2.2
  have x9 : v1.cell? ⟨w.heap.size + 1 + 1, 9, none⟩ = some (.slice none 0 0) := (cell_of_row _ _ 9 _ 48 (0, 0) HBX1.out.2.2).trans rfl
  have y9 : v1.frozen? ⟨w.heap.size + 1 + 1, 9, none⟩ = false := frozen_of_row v1 _ 9 _ 48 HBX1.out.2.2
  obtain ⟨z1, hz1⟩ : ∃ z, z = (((((v1.setCell ⟨w.heap.size + 1 + 1, 5, none⟩ (.int .i64 x.s.v)).setCell ⟨w.heap.size + 1 + 1, 6, none⟩ (.int .i64 x.s.e)).setCell ⟨w.heap.size + 1 + 1, 7, none⟩ (.int .i64 x.s.lv)).setCell ⟨w.heap.size + 1 + 1, 8, none⟩ (.int .u64 x.s.lh)).setCell ⟨w.heap.size + 1 + 1, 9, none⟩ (.slice p2 n2 n2)) := ⟨_, rfl⟩
  have ht1 : Touch (w.heap.size + 1 + 1) (w.heap.size + 1 + 1 + 1) v1 z1 := by rw [hz1]; exact ((((touch_set1 _ _ _ _).trans (touch_set1 _ _ _ _)).trans (touch_set1 _ _ _ _)).trans (touch_set1 _ _ _ _)).trans (touch_set1 _ _ _ _)
  have HBY1 : Hid (z1.heap[w.heap.size]? = some (.cells #[.int .i64 x.k, .int .i64 x.r.v, .int .i64 x.r.e, .slice a0 n0 c0, .slice a1 n1 c1, .int .i64 x.s.v, .int .i64 x.s.e, .int .i64 x.s.lv, .int .u64 x.s.lh, .slice a2 n2 c2, .int .i64 x.l.v, .int .i64 x.l.e, .slice a3 n3 c3, .slice a4 n4 c4] 33 (0, 0)) ∧ z1.heap[w.heap.size + 1]? = some (.cells #[.int .i64 0, .int .i64 0, .int .i64 0, .slice none 0 0, .slice none 0 0, .int .i64 0, .int .i64 0, .int .i64 0, .int .u64 0, .slice none 0 0, .int .i64 0, .int .i64 0, .slice none 0 0, .slice none 0 0] 48 (0, 0)) ∧ z1.heap[w.heap.size + 1 + 1]? = some (.cells #[.int .i64 x.k, .int .i64 x.r.v, .int .i64 x.r.e, .slice p0 n0 n0, .slice p1 n1 n1, .int .i64 x.s.v, .int .i64 x.s.e, .int .i64 x.s.lv, .int .u64 x.s.lh, .slice p2 n2 n2, .int .i64 0, .int .i64 0, .slice none 0 0, .slice none 0 0] 48 (0, 0))) := ⟨touch_kept ht1 HBX1.out.1 (by omega), touch_kept ht1 HBX1.out.2.1 (by omega), by rw [hz1]; exact (heap_setCell_same _ _ 9 _ _ _ (heap_setCell_same _ _ 8 _ _ _ (heap_setCell_same _ _ 7 _ _ _ (heap_setCell_same _ _ 6 _ _ _ (heap_setCell_same _ _ 5 _ _ _ HBX1.out.2.2)))))⟩
  have HK0 : Hid (KeepB (w.heap.size + 3) z1 (fun W => Ros KT W p0 n0 x.r.rs ∧ SO 1 0 3 w.heap.size W.heap.size W p0 n0)) := HK0.out.touch ht1 (by omega)
  have HK1 : Hid (KeepB (w.heap.size + 3) z1 (fun W => Fss KT W p1 n1 x.r.ss ∧ SO 0 1 1 w.heap.size W.heap.size W p1 n1)) := HK1.out.touch ht1 (by omega)
  have HK2 : Hid (KeepB (w.heap.size + 3) z1 (fun W => Fss KT W p2 n2 x.s.ss ∧ SO 0 1 1 w.heap.size W.heap.size W p2 n2)) := HK2.out.touch ht1 (by omega)
  have hy1 : Below w.heap.size w z1 := hw1.trans (ht1.below (by omega) (by omega))
  have hq1 : w.heap.size + 3 ≤ z1.heap.size := by have := ht1.size; omega
  have HZ1 : Hid (_ = _) := hz1
  clear hz1 k2 hb1
  go_upto_region 5 with fail
  rw [← HZ1.out]
  clear HZ1 x5 y5 x6 y6 x7 y7 x8 y8 x9 y9
  have l10 : z1.cell? ⟨w.heap.size, 10, none⟩ = some (.int .i64 x.l.v) := (cell_of_row _ _ 10 _ 33 (0, 0) HBY1.out.1).trans rfl
  have l11 : z1.cell? ⟨w.heap.size, 11, none⟩ = some (.int .i64 x.l.e) := (cell_of_row _ _ 11 _ 33 (0, 0) HBY1.out.1).trans rfl
  have l12 : z1.cell? ⟨w.heap.size, 12, none⟩ = some (.slice a3 n3 c3) := (cell_of_row _ _ 12 _ 33 (0, 0) HBY1.out.1).trans rfl
  have l13 : z1.cell? ⟨w.heap.size, 13, none⟩ = some (.slice a4 n4 c4) := (cell_of_row _ _ 13 _ 33 (0, 0) HBY1.out.1).trans rfl
  go_wp2_with fail
  refine (toListFile2_any x.l a3 n3 c3 a4 n4 c4 _ (HR.out _ hy1).r3 (HR.out _ hy1).m3 (HR.out _ hy1).r4 (HR.out _ hy1).m4 HQ.out.q3 HQ.out.q4).mono ?_
  rintro e v2 ⟨p3, p4, rfl, k3, k4, hb2⟩
  clear l10 l11 l12 l13
  have HK3 : Hid (KeepB (w.heap.size + 3) v2 (fun W => RowTe W p3 n3 x.l.es ∧ IR 2 w.heap.size W.heap.size W p3 n3)) := (k3.map (fun W h => ⟨h.1, h.2.mono (by omega) (Nat.le_refl _)⟩)).mono (by omega)
  have HK4 : Hid (KeepB (w.heap.size + 3) v2 (fun W => Fss KT W p4 n4 x.l.ss ∧ SO 0 1 1 w.heap.size W.heap.size W p4 n4)) := (k4.map (fun W h => ⟨h.1, h.2.mono (by omega) (Nat.le_refl _)⟩)).mono (by omega)
  have HK0 : Hid (KeepB (w.heap.size + 3) v2 (fun W => Ros KT W p0 n0 x.r.rs ∧ SO 1 0 3 w.heap.size W.heap.size W p0 n0)) := HK0.out.kept hb2
  have HK1 : Hid (KeepB (w.heap.size + 3) v2 (fun W => Fss KT W p1 n1 x.r.ss ∧ SO 0 1 1 w.heap.size W.heap.size W p1 n1)) := HK1.out.kept hb2
  have HK2 : Hid (KeepB (w.heap.size + 3) v2 (fun W => Fss KT W p2 n2 x.s.ss ∧ SO 0 1 1 w.heap.size W.heap.size W p2 n2)) := HK2.out.kept hb2
  have hw2 : Below w.heap.size w v2 := hy1.trans (hb2.mono hy1.size)
  have hz2 : w.heap.size + 3 ≤ v2.heap.size := by have := hb2.size; omega
  have HBX2 : Hid (v2.heap[w.heap.size]? = some (.cells #[.int .i64 x.k, .int .i64 x.r.v, .int .i64 x.r.e, .slice a0 n0 c0, .slice a1 n1 c1, .int .i64 x.s.v, .int .i64 x.s.e, .int .i64 x.s.lv, .int .u64 x.s.lh, .slice a2 n2 c2, .int .i64 x.l.v, .int .i64 x.l.e, .slice a3 n3 c3, .slice a4 n4 c4] 33 (0, 0)) ∧ v2.heap[w.heap.size + 1]? = some (.cells #[.int .i64 0, .int .i64 0, .int .i64 0, .slice none 0 0, .slice none 0 0, .int .i64 0, .int .i64 0, .int .i64 0, .int .u64 0, .slice none 0 0, .int .i64 0, .int .i64 0, .slice none 0 0, .slice none 0 0] 48 (0, 0)) ∧ v2.heap[w.heap.size + 1 + 1]? = some (.cells #[.int .i64 x.k, .int .i64 x.r.v, .int .i64 x.r.e, .slice p0 n0 n0, .slice p1 n1 n1, .int .i64 x.s.v, .int .i64 x.s.e, .int .i64 x.s.lv, .int .u64 x.s.lh, .slice p2 n2 n2, .int .i64 0, .int .i64 0, .slice none 0 0, .slice none 0 0] 48 (0, 0))) := ⟨below_kept HBY1.out.1 hb2, below_kept HBY1.out.2.1 hb2, below_kept HBY1.out.2.2 hb2⟩
  have x10 : v2.cell? ⟨w.heap.size + 1 + 1, 10, none⟩ = some (.int .i64 0) := (cell_of_row _ _ 10 _ 48 (0, 0) HBX2.out.2.2).trans rfl
  have y10 : v2.frozen? ⟨w.heap.size + 1 + 1, 10, none⟩ = false := frozen_of_row v2 _ 10 _ 48 HBX2.out.2.2
  have x11 : v2.cell? ⟨w.heap.size + 1 + 1, 11, none⟩ = some (.int .i64 0) := (cell_of_row _ _ 11 _ 48 (0, 0) HBX2.out.2.2).trans rfl
  have y11 : v2.frozen? ⟨w.heap.size + 1 + 1, 11, none⟩ = false := frozen_of_row v2 _ 11 _ 48 HBX2.out.2.2
  have x12 : v2.cell? ⟨w.heap.size + 1 + 1, 12, none⟩ = some (.slice none 0 0) := (cell_of_row _ _ 12 _ 48 (0, 0) HBX2.out.2.2).trans rfl
  have y12 : v2.frozen? ⟨w.heap.size + 1 + 1, 12, none⟩ = false := frozen_of_row v2 _ 12 _ 48 HBX2.out.2.2
  have x13 : v2.cell? ⟨w.heap.size + 1 + 1, 13, none⟩ = some (.slice none 0 0) := (cell_of_row _ _ 13 _ 48 (0, 0) HBX2.out.2.2).trans rfl
  have y13 : v2.frozen? ⟨w.heap.size + 1 + 1, 13, none⟩ = false := frozen_of_row v2 _ 13 _ 48 HBX2.out.2.2
  obtain ⟨z2, hz2⟩ : ∃ z, z = ((((v2.setCell ⟨w.heap.size + 1 + 1, 10, none⟩ (.int .i64 x.l.v)).setCell ⟨w.heap.size + 1 + 1, 11, none⟩ (.int .i64 x.l.e)).setCell ⟨w.heap.size + 1 + 1, 12, none⟩ (.slice p3 n3 n3)).setCell ⟨w.heap.size + 1 + 1, 13, none⟩ (.slice p4 n4 n4)) := ⟨_, rfl⟩
  have ht2 : Touch (w.heap.size + 1 + 1) (w.heap.size + 1 + 1 + 1) v2 z2 := by rw [hz2]; exact (((touch_set1 _ _ _ _).trans (touch_set1 _ _ _ _)).trans (touch_set1 _ _ _ _)).trans (touch_set1 _ _ _ _)
  have HBY2 : Hid (z2.heap[w.heap.size]? = some (.cells #[.int .i64 x.k, .int .i64 x.r.v, .int .i64 x.r.e, .slice a0 n0 c0, .slice a1 n1 c1, .int .i64 x.s.v, .int .i64 x.s.e, .int .i64 x.s.lv, .int .u64 x.s.lh, .slice a2 n2 c2, .int .i64 x.l.v, .int .i64 x.l.e, .slice a3 n3 c3, .slice a4 n4 c4] 33 (0, 0)) ∧ z2.heap[w.heap.size + 1]? = some (.cells #[.int .i64 0, .int .i64 0, .int .i64 0, .slice none 0 0, .slice none 0 0, .int .i64 0, .int .i64 0, .int .i64 0, .int .u64 0, .slice none 0 0, .int .i64 0, .int .i64 0, .slice none 0 0, .slice none 0 0] 48 (0, 0)) ∧ z2.heap[w.heap.size + 1 + 1]? = some (.cells #[.int .i64 x.k, .int .i64 x.r.v, .int .i64 x.r.e, .slice p0 n0 n0, .slice p1 n1 n1, .int .i64 x.s.v, .int .i64 x.s.e, .int .i64 x.s.lv, .int .u64 x.s.lh, .slice p2 n2 n2, .int .i64 x.l.v, .int .i64 x.l.e, .slice p3 n3 n3, .slice p4 n4 n4] 48 (0, 0))) := ⟨touch_kept ht2 HBX2.out.1 (by omega), touch_kept ht2 HBX2.out.2.1 (by omega), by rw [hz2]; exact (heap_setCell_same _ _ 13 _ _ _ (heap_setCell_same _ _ 12 _ _ _ (heap_setCell_same _ _ 11 _ _ _ (heap_setCell_same _ _ 10 _ _ _ HBX2.out.2.2))))⟩
  have HK0 : Hid (KeepB (w.heap.size + 3) z2 (fun W => Ros KT W p0 n0 x.r.rs ∧ SO 1 0 3 w.heap.size W.heap.size W p0 n0)) := HK0.out.touch ht2 (by omega)
  have HK1 : Hid (KeepB (w.heap.size + 3) z2 (fun W => Fss KT W p1 n1 x.r.ss ∧ SO 0 1 1 w.heap.size W.heap.size W p1 n1)) := HK1.out.touch ht2 (by omega)
  have HK2 : Hid (KeepB (w.heap.size + 3) z2 (fun W => Fss KT W p2 n2 x.s.ss ∧ SO 0 1 1 w.heap.size W.heap.size W p2 n2)) := HK2.out.touch ht2 (by omega)
  have HK3 : Hid (KeepB (w.heap.size + 3) z2 (fun W => RowTe W p3 n3 x.l.es ∧ IR 2 w.heap.size W.heap.size W p3 n3)) := HK3.out.touch ht2 (by omega)
  have HK4 : Hid (KeepB (w.heap.size + 3) z2 (fun W => Fss KT W p4 n4 x.l.ss ∧ SO 0 1 1 w.heap.size W.heap.size W p4 n4)) := HK4.out.touch ht2 (by omega)
  have hy2 : Below w.heap.size w z2 := hw2.trans (ht2.below (by omega) (by omega))
  have hq2 : w.heap.size + 3 ≤ z2.heap.size := by have := ht2.size; omega
  have HZ2 : Hid (_ = _) := hz2
  clear hz2 k3 k4 hb2
  go_upto_region 6 with fail
  rw [← HZ2.out]
  clear HZ2 x10 y10 x11 y11 x12 y12 x13 y13
  rename_i K0 hK0
  apply wp_region_lit
  refine wpList_load_row rfl 48 _ rfl (w.heap.size + 1 + 1) rfl 48 #[.int .i64 x.k, .int .i64 x.r.v, .int .i64 x.r.e, .slice p0 n0 n0, .slice p1 n1 n1, .int .i64 x.s.v, .int .i64 x.s.e, .int .i64 x.s.lv, .int .u64 x.s.lh, .slice p2 n2 n2, .int .i64 x.l.v, .int .i64 x.l.e, .slice p3 n3 n3, .slice p4 n4 n4] (0, 0) _ HBY2.out.2.2 Tryz.underlying48 rfl infoTf ?_
  refine wpList_store_rowTo rfl 48 _ _ rfl rfl (w.heap.size + 1) #[.int .i64 x.k, .int .i64 x.r.v, .int .i64 x.r.e, .slice p0 n0 n0, .slice p1 n1 n1, .int .i64 x.s.v, .int .i64 x.s.e, .int .i64 x.s.lv, .int .u64 x.s.lh, .slice p2 n2 n2, .int .i64 x.l.v, .int .i64 x.l.e, .slice p3 n3 n3, .slice p4 n4 n4] rfl rfl 48 #[.int .i64 0, .int .i64 0, .int .i64 0, .slice none 0 0, .slice none 0 0, .int .i64 0, .int .i64 0, .int .i64 0, .int .u64 0, .slice none 0 0, .int .i64 0, .int .i64 0, .slice none 0 0, .slice none 0 0] HBY2.out.2.1 infoTf rfl (by simp [Value.oneCell']) ?_
  apply wpList_nil
  refine hK0 _ _ ?_
  clear hK0 K0
  have T2 := setRow_touch z2 (w.heap.size + 1) #[.int .i64 x.k, .int .i64 x.r.v, .int .i64 x.r.e, .slice p0 n0 n0, .slice p1 n1 n1, .int .i64 x.s.v, .int .i64 x.s.e, .int .i64 x.s.lv, .int .u64 x.s.lh, .slice p2 n2 n2, .int .i64 x.l.v, .int .i64 x.l.e, .slice p3 n3 n3, .slice p4 n4 n4]
  have hrow : (z2.setRow (w.heap.size + 1) #[.int .i64 x.k, .int .i64 x.r.v, .int .i64 x.r.e, .slice p0 n0 n0, .slice p1 n1 n1, .int .i64 x.s.v, .int .i64 x.s.e, .int .i64 x.s.lv, .int .u64 x.s.lh, .slice p2 n2 n2, .int .i64 x.l.v, .int .i64 x.l.e, .slice p3 n3 n3, .slice p4 n4 n4]).heap[w.heap.size + 1]? = some (.cells #[.int .i64 x.k, .int .i64 x.r.v, .int .i64 x.r.e, .slice p0 n0 n0, .slice p1 n1 n1, .int .i64 x.s.v, .int .i64 x.s.e, .int .i64 x.s.lv, .int .u64 x.s.lh, .slice p2 n2 n2, .int .i64 x.l.v, .int .i64 x.l.e, .slice p3 n3 n3, .slice p4 n4 n4] 48 (0, 0)) := setRow_heap _ _ _ _ _ _ HBY2.out.2.1
  go_wp2
  try simp only [Exit.inBlock, Exit.then]
  exact bodyPost_ret (results_Tf rfl _ (w.heap.size + 1) rfl _ _ rfl hrow) rfl ⟨p0, p1, p2, p3, p4, rfl, ⟨(HK0.out.touch T2 (by omega)).now.1, (HK1.out.touch T2 (by omega)).now.1, (HK2.out.touch T2 (by omega)).now.1, (HK3.out.touch T2 (by omega)).now.1, (HK4.out.touch T2 (by omega)).now.1, (HR.out _ (Below.refl _ _)).m0, (HR.out _ (Below.refl _ _)).m1, (HR.out _ (Below.refl _ _)).m2, (HR.out _ (Below.refl _ _)).m3, (HR.out _ (Below.refl _ _)).m4, (HR.out _ (Below.refl _ _)).lh⟩, ⟨(HK0.out.touch T2 (by omega)).now.2, (HK1.out.touch T2 (by omega)).now.2, (HK2.out.touch T2 (by omega)).now.2, (HK3.out.touch T2 (by omega)).now.2, (HK4.out.touch T2 (by omega)).now.2⟩, hy2.trans (T2.below (by omega) (by omega))⟩

set_option maxRecDepth 10000 in
set_option maxHeartbeats 8000000 in
theorem eqTrustFile_same (x : TfP) (a0 : Option Addr) (n0 c0 : Nat) (a1 : Option Addr) (n1 c1 : Nat) (a2 : Option Addr) (n2 c2 : Nat) (a3 : Option Addr) (n3 c3 : Nat) (a4 : Option Addr) (n4 c4 : Nat) (b0 : Option Addr) (d0 : Nat) (b1 : Option Addr) (d1 : Nat) (b2 : Option Addr) (d2 : Nat) (b3 : Option Addr) (d3 : Nat) (b4 : Option Addr) (d4 : Nat) (w : World) (h : TfR x a0 n0 a1 n1 a2 n2 a3 n3 a4 n4 w) (h2 : TfR x b0 n0 b1 n1 b2 n2 b3 n3 b4 n4 w) :
    Calls Tryz.prog 10 #[.agg #[.int .i64 x.k, .int .i64 x.r.v, .int .i64 x.r.e, .slice a0 n0 c0, .slice a1 n1 c1, .int .i64 x.s.v, .int .i64 x.s.e, .int .i64 x.s.lv, .int .u64 x.s.lh, .slice a2 n2 c2, .int .i64 x.l.v, .int .i64 x.l.e, .slice a3 n3 c3, .slice a4 n4 c4], .agg #[.int .i64 x.k, .int .i64 x.r.v, .int .i64 x.r.e, .slice b0 n0 d0, .slice b1 n1 d1, .int .i64 x.s.v, .int .i64 x.s.e, .int .i64 x.s.lv, .int .u64 x.s.lh, .slice b2 n2 d2, .int .i64 x.l.v, .int .i64 x.l.e, .slice b3 n3 d3, .slice b4 n4 d4]] w fun e w' => e = .returned (.bool true) ∧ Below w.heap.size w w' := by
  obtain ⟨w1, hw1⟩ : ∃ w1, w1 = (w.alloc (.cells #[.int .i64 x.k, .int .i64 x.r.v, .int .i64 x.r.e, .slice a0 n0 c0, .slice a1 n1 c1, .int .i64 x.s.v, .int .i64 x.s.e, .int .i64 x.s.lv, .int .u64 x.s.lh, .slice a2 n2 c2, .int .i64 x.l.v, .int .i64 x.l.e, .slice a3 n3 c3, .slice a4 n4 c4] 48)).alloc (.cells #[.int .i64 x.k, .int .i64 x.r.v, .int .i64 x.r.e, .slice b0 n0 d0, .slice b1 n1 d1, .int .i64 x.s.v, .int .i64 x.s.e, .int .i64 x.s.lv, .int .u64 x.s.lh, .slice b2 n2 d2, .int .i64 x.l.v, .int .i64 x.l.e, .slice b3 n3 d3, .slice b4 n4 d4] 48) := ⟨_, rfl⟩
  have hbb : Below w.heap.size w w1 := by rw [hw1]; exact ((Below.refl _ _).alloc (Nat.le_refl _) _).alloc (by simp) _
  have HBX : Hid (_ ∧ _) := two_blocks w (.cells #[.int .i64 x.k, .int .i64 x.r.v, .int .i64 x.r.e, .slice a0 n0 c0, .slice a1 n1 c1, .int .i64 x.s.v, .int .i64 x.s.e, .int .i64 x.s.lv, .int .u64 x.s.lh, .slice a2 n2 c2, .int .i64 x.l.v, .int .i64 x.l.e, .slice a3 n3 c3, .slice a4 n4 c4] 48) (.cells #[.int .i64 x.k, .int .i64 x.r.v, .int .i64 x.r.e, .slice b0 n0 d0, .slice b1 n1 d1, .int .i64 x.s.v, .int .i64 x.s.e, .int .i64 x.s.lv, .int .u64 x.s.lh, .slice b2 n2 d2, .int .i64 x.l.v, .int .i64 x.l.e, .slice b3 n3 d3, .slice b4 n4 d4] 48)
  rw [← hw1] at HBX
  have HW : Hid (_ = _) := hw1
  have HR : Hid (∀ W, Below w.heap.size w W → TfR x a0 n0 a1 n1 a2 n2 a3 n3 a4 n4 W ∧ TfR x b0 n0 b1 n1 b2 n2 b3 n3 b4 n4 W) := fun W hW => ⟨h.kept hW, h2.kept hW⟩
  clear hw1 h h2
  have z0 : (x.k != x.k) = false := by simp
  have x0 : w1.cell? ⟨w.heap.size, 0, none⟩ = some (.int .i64 x.k) := (cell_of_row _ _ 0 _ 48 (0, 0) HBX.out.1).trans rfl
  have y0 : w1.cell? ⟨w.heap.size + 1, 0, none⟩ = some (.int .i64 x.k) := (cell_of_row _ _ 0 _ 48 (0, 0) HBX.out.2).trans rfl
  have x1 : w1.cell? ⟨w.heap.size, 1, none⟩ = some (.int .i64 x.r.v) := (cell_of_row _ _ 1 _ 48 (0, 0) HBX.out.1).trans rfl
  have y1 : w1.cell? ⟨w.heap.size + 1, 1, none⟩ = some (.int .i64 x.r.v) := (cell_of_row _ _ 1 _ 48 (0, 0) HBX.out.2).trans rfl
  have x2 : w1.cell? ⟨w.heap.size, 2, none⟩ = some (.int .i64 x.r.e) := (cell_of_row _ _ 2 _ 48 (0, 0) HBX.out.1).trans rfl
  have y2 : w1.cell? ⟨w.heap.size + 1, 2, none⟩ = some (.int .i64 x.r.e) := (cell_of_row _ _ 2 _ 48 (0, 0) HBX.out.2).trans rfl
  have x3 : w1.cell? ⟨w.heap.size, 3, none⟩ = some (.slice a0 n0 c0) := (cell_of_row _ _ 3 _ 48 (0, 0) HBX.out.1).trans rfl
  have y3 : w1.cell? ⟨w.heap.size + 1, 3, none⟩ = some (.slice b0 n0 d0) := (cell_of_row _ _ 3 _ 48 (0, 0) HBX.out.2).trans rfl
  have x4 : w1.cell? ⟨w.heap.size, 4, none⟩ = some (.slice a1 n1 c1) := (cell_of_row _ _ 4 _ 48 (0, 0) HBX.out.1).trans rfl
  have y4 : w1.cell? ⟨w.heap.size + 1, 4, none⟩ = some (.slice b1 n1 d1) := (cell_of_row _ _ 4 _ 48 (0, 0) HBX.out.2).trans rfl
  go_enter Tryz.func10, Tryz.ntmps10
  go_upto_region 1 with fail
  rw [← HW.out]
  clear HW
  go_wp2_with fail
  refine (eqRootFile_same x.r a0 n0 c0 a1 n1 c1 b0 d0 b1 d1 _ (HR.out _ hbb).1.r0 (HR.out _ hbb).2.r0 (HR.out _ hbb).1.m0 (HR.out _ hbb).1.r1 (HR.out _ hbb).2.r1 (HR.out _ hbb).1.m1).mono ?_
  rintro e v0 ⟨rfl, hb0⟩
  clear x1 y1 x2 y2 x3 y3 x4 y4
  have kb0 : Below w1.heap.size w1 v0 := hb0
  have hh0 : Below w.heap.size w v0 := keepT hbb kb0
  have x5 : v0.cell? ⟨w.heap.size, 5, none⟩ = some (.int .i64 x.s.v) := (cell_of_row _ _ 5 _ 48 (0, 0) (below_kept HBX.out.1 kb0)).trans rfl
  have y5 : v0.cell? ⟨w.heap.size + 1, 5, none⟩ = some (.int .i64 x.s.v) := (cell_of_row _ _ 5 _ 48 (0, 0) (below_kept HBX.out.2 kb0)).trans rfl
  have x6 : v0.cell? ⟨w.heap.size, 6, none⟩ = some (.int .i64 x.s.e) := (cell_of_row _ _ 6 _ 48 (0, 0) (below_kept HBX.out.1 kb0)).trans rfl
  have y6 : v0.cell? ⟨w.heap.size + 1, 6, none⟩ = some (.int .i64 x.s.e) := (cell_of_row _ _ 6 _ 48 (0, 0) (below_kept HBX.out.2 kb0)).trans rfl
  have x7 : v0.cell? ⟨w.heap.size, 7, none⟩ = some (.int .i64 x.s.lv) := (cell_of_row _ _ 7 _ 48 (0, 0) (below_kept HBX.out.1 kb0)).trans rfl
  have y7 : v0.cell? ⟨w.heap.size + 1, 7, none⟩ = some (.int .i64 x.s.lv) := (cell_of_row _ _ 7 _ 48 (0, 0) (below_kept HBX.out.2 kb0)).trans rfl
  have x8 : v0.cell? ⟨w.heap.size, 8, none⟩ = some (.int .u64 x.s.lh) := (cell_of_row _ _ 8 _ 48 (0, 0) (below_kept HBX.out.1 kb0)).trans rfl
  have y8 : v0.cell? ⟨w.heap.size + 1, 8, none⟩ = some (.int .u64 x.s.lh) := (cell_of_row _ _ 8 _ 48 (0, 0) (below_kept HBX.out.2 kb0)).trans rfl
  have x9 : v0.cell? ⟨w.heap.size, 9, none⟩ = some (.slice a2 n2 c2) := (cell_of_row _ _ 9 _ 48 (0, 0) (below_kept HBX.out.1 kb0)).trans rfl
  have y9 : v0.cell? ⟨w.heap.size + 1, 9, none⟩ = some (.slice b2 n2 d2) := (cell_of_row _ _ 9 _ 48 (0, 0) (below_kept HBX.out.2 kb0)).trans rfl
  go_wp2_with fail
  refine (eqStampFile_same x.s a2 n2 c2 b2 d2 _ (HR.out _ hh0).1.r2 (HR.out _ hh0).2.r2 (HR.out _ hh0).1.m2).mono ?_
  rintro e v1 ⟨rfl, hb1⟩
  clear x5 y5 x6 y6 x7 y7 x8 y8 x9 y9
  have kb1 : Below w1.heap.size w1 v1 := keepT kb0 hb1
  have hh1 : Below w.heap.size w v1 := keepT hbb kb1
  have x10 : v1.cell? ⟨w.heap.size, 10, none⟩ = some (.int .i64 x.l.v) := (cell_of_row _ _ 10 _ 48 (0, 0) (below_kept HBX.out.1 kb1)).trans rfl
  have y10 : v1.cell? ⟨w.heap.size + 1, 10, none⟩ = some (.int .i64 x.l.v) := (cell_of_row _ _ 10 _ 48 (0, 0) (below_kept HBX.out.2 kb1)).trans rfl
  have x11 : v1.cell? ⟨w.heap.size, 11, none⟩ = some (.int .i64 x.l.e) := (cell_of_row _ _ 11 _ 48 (0, 0) (below_kept HBX.out.1 kb1)).trans rfl
  have y11 : v1.cell? ⟨w.heap.size + 1, 11, none⟩ = some (.int .i64 x.l.e) := (cell_of_row _ _ 11 _ 48 (0, 0) (below_kept HBX.out.2 kb1)).trans rfl
  have x12 : v1.cell? ⟨w.heap.size, 12, none⟩ = some (.slice a3 n3 c3) := (cell_of_row _ _ 12 _ 48 (0, 0) (below_kept HBX.out.1 kb1)).trans rfl
  have y12 : v1.cell? ⟨w.heap.size + 1, 12, none⟩ = some (.slice b3 n3 d3) := (cell_of_row _ _ 12 _ 48 (0, 0) (below_kept HBX.out.2 kb1)).trans rfl
  have x13 : v1.cell? ⟨w.heap.size, 13, none⟩ = some (.slice a4 n4 c4) := (cell_of_row _ _ 13 _ 48 (0, 0) (below_kept HBX.out.1 kb1)).trans rfl
  have y13 : v1.cell? ⟨w.heap.size + 1, 13, none⟩ = some (.slice b4 n4 d4) := (cell_of_row _ _ 13 _ 48 (0, 0) (below_kept HBX.out.2 kb1)).trans rfl
  go_wp2_with fail
  refine (eqListFile_same x.l a3 n3 c3 a4 n4 c4 b3 d3 b4 d4 _ (HR.out _ hh1).1.r3 (HR.out _ hh1).2.r3 (HR.out _ hh1).1.m3 (HR.out _ hh1).1.r4 (HR.out _ hh1).2.r4 (HR.out _ hh1).1.m4).mono ?_
  rintro e v2 ⟨rfl, hb2⟩
  clear x10 y10 x11 y11 x12 y12 x13 y13
  have kb2 : Below w1.heap.size w1 v2 := keepT kb1 hb2
  have hh2 : Below w.heap.size w v2 := keepT hbb kb2
  go_wp2
  go_ret
  exact ⟨rfl, hh2⟩

set_option maxRecDepth 10000 in
set_option maxHeartbeats 2000000 in
theorem markTrustFile_any (lo hi : Nat) (x : TfP) (a0 : Option Addr) (n0 c0 : Nat) (a1 : Option Addr) (n1 c1 : Nat) (a2 : Option Addr) (n2 c2 : Nat) (a3 : Option Addr) (n3 c3 : Nat) (a4 : Option Addr) (n4 c4 : Nat) (k : Nat) (w : World) (h : TfO lo hi a0 n0 a1 n1 a2 n2 a3 n3 a4 n4 w) (hs : TfS x n0 n1 n2 n3 n4) (hh : hi ≤ w.heap.size) (hk : k ≤ 1000) :
    Calls Tryz.prog 11 #[.agg #[.int .i64 x.k, .int .i64 x.r.v, .int .i64 x.r.e, .slice a0 n0 c0, .slice a1 n1 c1, .int .i64 x.s.v, .int .i64 x.s.e, .int .i64 x.s.lv, .int .u64 x.s.lh, .slice a2 n2 c2, .int .i64 x.l.v, .int .i64 x.l.e, .slice a3 n3 c3, .slice a4 n4 c4], .int .i64 k] w (MkF lo hi w k 20971520000000) := by
  obtain ⟨w0, hw0⟩ : ∃ w0, w0 = w.alloc (.cells #[.int .i64 x.k, .int .i64 x.r.v, .int .i64 x.r.e, .slice a0 n0 c0, .slice a1 n1 c1, .int .i64 x.s.v, .int .i64 x.s.e, .int .i64 x.s.lv, .int .u64 x.s.lh, .slice a2 n2 c2, .int .i64 x.l.v, .int .i64 x.l.e, .slice a3 n3 c3, .slice a4 n4 c4] 48) := ⟨_, rfl⟩
  have hbb : Below w.heap.size w w0 := by rw [hw0]; exact (Below.refl _ _).alloc (Nat.le_refl _) _
  have HB : Hid (w0.heap[w.heap.size]? = some (.cells #[.int .i64 x.k, .int .i64 x.r.v, .int .i64 x.r.e, .slice a0 n0 c0, .slice a1 n1 c1, .int .i64 x.s.v, .int .i64 x.s.e, .int .i64 x.s.lv, .int .u64 x.s.lh, .slice a2 n2 c2, .int .i64 x.l.v, .int .i64 x.l.e, .slice a3 n3 c3, .slice a4 n4 c4] 48 (0, 0))) := by show _ = _; rw [hw0]; exact heap_alloc_new w _
  have HW : Hid (_ = _) := hw0
  have HT0 : Hid (Touch lo hi w w0) := Touch.of_below hbb
  have HS0 : Hid (Sh w w0) := Sh.below hbb
  have HO : Hid (TfO lo hi a0 n0 a1 n1 a2 n2 a3 n3 a4 n4 w) := h
  have HQ : Hid (TfS x n0 n1 n2 n3 n4) := hs
  clear hw0 hbb h hs
  have x1 : w0.cell? ⟨w.heap.size, 1, none⟩ = some (.int .i64 x.r.v) := (cell_of_row _ _ 1 _ _ (0, 0) HB.out).trans rfl
  have x2 : w0.cell? ⟨w.heap.size, 2, none⟩ = some (.int .i64 x.r.e) := (cell_of_row _ _ 2 _ _ (0, 0) HB.out).trans rfl
  have x3 : w0.cell? ⟨w.heap.size, 3, none⟩ = some (.slice a0 n0 c0) := (cell_of_row _ _ 3 _ _ (0, 0) HB.out).trans rfl
  have x4 : w0.cell? ⟨w.heap.size, 4, none⟩ = some (.slice a1 n1 c1) := (cell_of_row _ _ 4 _ _ (0, 0) HB.out).trans rfl
  go_enter Tryz.func11, Tryz.ntmps11
  go_upto_region 1 with fail
  rw [← HW.out]
  clear HW
  go_wp2_with fail
  refine (markRf_any lo hi x.r.v x.r.e a0 n0 c0 a1 n1 c1 k _ (HO.out.sh HS0.out).o0 HQ.out.q0.1 (HO.out.sh HS0.out).o1 HQ.out.q1.1 (Nat.le_trans hh HT0.out.size) (by omega)).mono ?_
  rintro e w1 ⟨K1, hK1, rfl, ht1, hs1⟩
  have HT1 : Hid (Touch lo hi w w1) := HT0.out.trans ht1
  have HS1 : Hid (Sh w w1) := HS0.out.trans hs1
  clear x1 x2 x3 x4 hs1
  have HB1 : Hid (w1.heap[w.heap.size]? = some (.cells #[.int .i64 x.k, .int .i64 x.r.v, .int .i64 x.r.e, .slice a0 n0 c0, .slice a1 n1 c1, .int .i64 x.s.v, .int .i64 x.s.e, .int .i64 x.s.lv, .int .u64 x.s.lh, .slice a2 n2 c2, .int .i64 x.l.v, .int .i64 x.l.e, .slice a3 n3 c3, .slice a4 n4 c4] 48 (0, 0))) := touch_kept ht1 HB.out (.inr hh)
  clear ht1
  have x5 : w1.cell? ⟨w.heap.size, 5, none⟩ = some (.int .i64 x.s.v) := (cell_of_row _ _ 5 _ _ (0, 0) HB1.out).trans rfl
  have x6 : w1.cell? ⟨w.heap.size, 6, none⟩ = some (.int .i64 x.s.e) := (cell_of_row _ _ 6 _ _ (0, 0) HB1.out).trans rfl
  have x7 : w1.cell? ⟨w.heap.size, 7, none⟩ = some (.int .i64 x.s.lv) := (cell_of_row _ _ 7 _ _ (0, 0) HB1.out).trans rfl
  have x8 : w1.cell? ⟨w.heap.size, 8, none⟩ = some (.int .u64 x.s.lh) := (cell_of_row _ _ 8 _ _ (0, 0) HB1.out).trans rfl
  have x9 : w1.cell? ⟨w.heap.size, 9, none⟩ = some (.slice a2 n2 c2) := (cell_of_row _ _ 9 _ _ (0, 0) HB1.out).trans rfl
  go_wp2_with fail
  refine (markSf_any lo hi x.s.v x.s.e x.s.lv x.s.lh a2 n2 c2 K1 _ (HO.out.sh HS1.out).o2 HQ.out.q2.1 (Nat.le_trans hh HT1.out.size) (by omega)).mono ?_
  rintro e w2 ⟨K2, hK2, rfl, ht2, hs2⟩
  have HT2 : Hid (Touch lo hi w w2) := HT1.out.trans ht2
  have HS2 : Hid (Sh w w2) := HS1.out.trans hs2
  clear x5 x6 x7 x8 x9 hs2
  have HB2 : Hid (w2.heap[w.heap.size]? = some (.cells #[.int .i64 x.k, .int .i64 x.r.v, .int .i64 x.r.e, .slice a0 n0 c0, .slice a1 n1 c1, .int .i64 x.s.v, .int .i64 x.s.e, .int .i64 x.s.lv, .int .u64 x.s.lh, .slice a2 n2 c2, .int .i64 x.l.v, .int .i64 x.l.e, .slice a3 n3 c3, .slice a4 n4 c4] 48 (0, 0))) := touch_kept ht2 HB1.out (.inr hh)
  clear ht2
  have x10 : w2.cell? ⟨w.heap.size, 10, none⟩ = some (.int .i64 x.l.v) := (cell_of_row _ _ 10 _ _ (0, 0) HB2.out).trans rfl
  have x11 : w2.cell? ⟨w.heap.size, 11, none⟩ = some (.int .i64 x.l.e) := (cell_of_row _ _ 11 _ _ (0, 0) HB2.out).trans rfl
  have x12 : w2.cell? ⟨w.heap.size, 12, none⟩ = some (.slice a3 n3 c3) := (cell_of_row _ _ 12 _ _ (0, 0) HB2.out).trans rfl
  have x13 : w2.cell? ⟨w.heap.size, 13, none⟩ = some (.slice a4 n4 c4) := (cell_of_row _ _ 13 _ _ (0, 0) HB2.out).trans rfl
  go_wp2_with fail
  refine (markLf_any lo hi x.l.v x.l.e a3 n3 c3 a4 n4 c4 K2 _ (HO.out.sh HS2.out).o3 HQ.out.q3 (HO.out.sh HS2.out).o4 HQ.out.q4.1 (Nat.le_trans hh HT2.out.size) (by omega)).mono ?_
  rintro e w3 ⟨K3, hK3, rfl, ht3, hs3⟩
  have HT3 : Hid (Touch lo hi w w3) := HT2.out.trans ht3
  have HS3 : Hid (Sh w w3) := HS2.out.trans hs3
  clear x10 x11 x12 x13 hs3
  go_wp2
  go_ret
  exact ⟨K3, by omega, rfl, HT3.out, HS3.out⟩

end Go.Proofs.YtglpbgebcpijaaaGreat

