import Derived.Test.YtglpbgebcpijaaaGreatTF1
import Derived.Great.BuildSlice
set_option linter.unusedVariables false
namespace Go.Proofs.YtglpbgebcpijaaaGreat
open Go.RowKit

structure TsP where
  r : RfP
  s : SfP
  l : LfP
/-- What a state's slices read as. -/
structure TsR (x : TsP) (a0 : Option Addr) (n0 : Nat) (a1 : Option Addr) (n1 : Nat) (a2 : Option Addr) (n2 : Nat) (a3 : Option Addr) (n3 : Nat) (a4 : Option Addr) (n4 : Nat) (w : World) : Prop where
  r0 : Ros KT w a0 n0 x.r.rs
  r1 : Fss KT w a1 n1 x.r.ss
  r2 : Fss KT w a2 n2 x.s.ss
  r3 : RowTe w a3 n3 x.l.es
  r4 : Fss KT w a4 n4 x.l.ss
  m0 : n0 ≤ 9223372036854775807
  m1 : n1 ≤ 9223372036854775807
  m2 : n2 ≤ 9223372036854775807
  m3 : n3 ≤ 9223372036854775807
  m4 : n4 ≤ 9223372036854775807
def tsv (x : TsP) (a0 : Option Addr) (n0 c0 : Nat) (a1 : Option Addr) (n1 c1 : Nat) (a2 : Option Addr) (n2 c2 : Nat) (a3 : Option Addr) (n3 c3 : Nat) (a4 : Option Addr) (n4 c4 : Nat) : Value := .agg #[.int .i64 x.r.v, .int .i64 x.r.e, .slice a0 n0 c0, .slice a1 n1 c1, .int .i64 x.s.v, .int .i64 x.s.e, .int .i64 x.s.lv, .int .u64 x.s.lh, .slice a2 n2 c2, .int .i64 x.l.v, .int .i64 x.l.e, .slice a3 n3 c3, .slice a4 n4 c4]
theorem TsR.kept {x : TsP} {a0 : Option Addr} {n0 : Nat} {a1 : Option Addr} {n1 : Nat} {a2 : Option Addr} {n2 : Nat} {a3 : Option Addr} {n3 : Nat} {a4 : Option Addr} {n4 : Nat} {w w' : World} (h : TsR x a0 n0 a1 n1 a2 n2 a3 n3 a4 n4 w) (hb : Below w.heap.size w w') : TsR x a0 n0 a1 n1 a2 n2 a3 n3 a4 n4 w' := ⟨h.r0.kept hb, h.r1.kept hb, h.r2.kept hb, h.r3.kept hb, h.r4.kept hb, h.m0, h.m1, h.m2, h.m3, h.m4⟩
/-- Its sizes are small. -/
structure TsS (x : TsP) (n0 n1 n2 n3 n4 : Nat) : Prop where
  q0 : (n0 ≤ 1048576 ∧ ∀ k, k < n0 → (x.r.rs.getD k default).ks.length ≤ 1048576)
  q1 : (n1 ≤ 1048576 ∧ ∀ k, k < n1 → (x.r.ss.getD k default).sg.length ≤ 1048576)
  q2 : (n2 ≤ 1048576 ∧ ∀ k, k < n2 → (x.s.ss.getD k default).sg.length ≤ 1048576)
  q3 : n3 ≤ 1048576
  q4 : (n4 ≤ 1048576 ∧ ∀ k, k < n4 → (x.l.ss.getD k default).sg.length ≤ 1048576)

set_option maxRecDepth 10000 in
set_option maxHeartbeats 4000000 in
theorem szTrustState_any (x : TsP) (a0 : Option Addr) (n0 c0 : Nat) (a1 : Option Addr) (n1 c1 : Nat) (a2 : Option Addr) (n2 c2 : Nat) (a3 : Option Addr) (n3 c3 : Nat) (a4 : Option Addr) (n4 c4 : Nat) (l : Int) (w : World) (h : TsR x a0 n0 a1 n1 a2 n2 a3 n3 a4 n4 w) (h0 : 0 ≤ l) (h1 : l ≤ 1048576) :
    Calls Tryz.prog 14 #[.agg #[.int .i64 x.r.v, .int .i64 x.r.e, .slice a0 n0 c0, .slice a1 n1 c1, .int .i64 x.s.v, .int .i64 x.s.e, .int .i64 x.s.lv, .int .u64 x.s.lh, .slice a2 n2 c2, .int .i64 x.l.v, .int .i64 x.l.e, .slice a3 n3 c3, .slice a4 n4 c4], .int .i64 l] w fun e w' => ∃ r, e = .returned (.int .i64 r) ∧ (r < 0 ∨ (0 ≤ r ∧ r ≤ 1048576 ∧ TsS x n0 n1 n2 n3 n4)) ∧ Below w.heap.size w w' := by
  obtain ⟨w1, hw1⟩ : ∃ w1, w1 = w.alloc (.cells #[.int .i64 x.r.v, .int .i64 x.r.e, .slice a0 n0 c0, .slice a1 n1 c1, .int .i64 x.s.v, .int .i64 x.s.e, .int .i64 x.s.lv, .int .u64 x.s.lh, .slice a2 n2 c2, .int .i64 x.l.v, .int .i64 x.l.e, .slice a3 n3 c3, .slice a4 n4 c4] 56) := ⟨_, rfl⟩
  have hbb : Below w.heap.size w w1 := by rw [hw1]; exact (Below.refl _ _).alloc (Nat.le_refl _) _
  have HB : Hid (w1.heap[w.heap.size]? = some (.cells #[.int .i64 x.r.v, .int .i64 x.r.e, .slice a0 n0 c0, .slice a1 n1 c1, .int .i64 x.s.v, .int .i64 x.s.e, .int .i64 x.s.lv, .int .u64 x.s.lh, .slice a2 n2 c2, .int .i64 x.l.v, .int .i64 x.l.e, .slice a3 n3 c3, .slice a4 n4 c4] 56 (0, 0))) := by show _ = _; rw [hw1]; exact heap_alloc_new w _
  have HW : Hid (_ = _) := hw1
  have HR : Hid (∀ W, Below w.heap.size w W → TsR x a0 n0 a1 n1 a2 n2 a3 n3 a4 n4 W) := fun W hW => h.kept hW
  clear hw1 h
  have l0 : w1.cell? ⟨w.heap.size, 0, none⟩ = some (.int .i64 x.r.v) := (cell_of_row _ _ 0 _ 56 (0, 0) HB.out).trans rfl
  have l1 : w1.cell? ⟨w.heap.size, 1, none⟩ = some (.int .i64 x.r.e) := (cell_of_row _ _ 1 _ 56 (0, 0) HB.out).trans rfl
  have l2 : w1.cell? ⟨w.heap.size, 2, none⟩ = some (.slice a0 n0 c0) := (cell_of_row _ _ 2 _ 56 (0, 0) HB.out).trans rfl
  have l3 : w1.cell? ⟨w.heap.size, 3, none⟩ = some (.slice a1 n1 c1) := (cell_of_row _ _ 3 _ 56 (0, 0) HB.out).trans rfl
  go_enter Tryz.func14, Tryz.ntmps14
  go_upto_region 1 with fail
  rw [← HW.out]
  clear HW
  go_wp2_with fail
  refine (szRootFile_any x.r a0 n0 c0 a1 n1 c1 l _ (HR.out _ hbb).r0 (HR.out _ hbb).m0 (HR.out _ hbb).r1 (HR.out _ hbb).m1 h0 h1).mono ?_
  rintro e v0 ⟨r0, rfl, hr0, hb0⟩
  clear l0 l1 l2 l3
  have kb0 : Below w1.heap.size w1 v0 := hb0
  have hh0 : Below w.heap.size w v0 := keepT hbb kb0
  by_cases g0 : r0 < 0
  · clear hr0
    go_wp2
    go_ret
    exact ⟨_, rfl, .inl (by decide), hh0⟩
  have H0 : Hid (0 ≤ r0 ∧ r0 ≤ 1048576 ∧ (n0 ≤ 1048576 ∧ ∀ k, k < n0 → (x.r.rs.getD k default).ks.length ≤ 1048576) ∧ (n1 ≤ 1048576 ∧ ∀ k, k < n1 → (x.r.ss.getD k default).sg.length ≤ 1048576)) := hr0.resolve_left g0
  have b0 : 0 ≤ r0 ∧ r0 ≤ 1048576 := ⟨H0.out.1, H0.out.2.1⟩
  clear hr0
  have l4 : v0.cell? ⟨w.heap.size, 4, none⟩ = some (.int .i64 x.s.v) := (cell_of_row _ _ 4 _ 56 (0, 0) (below_kept HB.out kb0)).trans rfl
  have l5 : v0.cell? ⟨w.heap.size, 5, none⟩ = some (.int .i64 x.s.e) := (cell_of_row _ _ 5 _ 56 (0, 0) (below_kept HB.out kb0)).trans rfl
  have l6 : v0.cell? ⟨w.heap.size, 6, none⟩ = some (.int .i64 x.s.lv) := (cell_of_row _ _ 6 _ 56 (0, 0) (below_kept HB.out kb0)).trans rfl
  have l7 : v0.cell? ⟨w.heap.size, 7, none⟩ = some (.int .u64 x.s.lh) := (cell_of_row _ _ 7 _ 56 (0, 0) (below_kept HB.out kb0)).trans rfl
  have l8 : v0.cell? ⟨w.heap.size, 8, none⟩ = some (.slice a2 n2 c2) := (cell_of_row _ _ 8 _ 56 (0, 0) (below_kept HB.out kb0)).trans rfl
  go_wp2_with fail
  refine (szStampFile_any x.s a2 n2 c2 r0 _ (HR.out _ hh0).r2 (HR.out _ hh0).m2 b0.1 b0.2).mono ?_
  rintro e v1 ⟨r1, rfl, hr1, hb1⟩
  clear l4 l5 l6 l7 l8
  have kb1 : Below w1.heap.size w1 v1 := keepT kb0 hb1
  have hh1 : Below w.heap.size w v1 := keepT hbb kb1
  by_cases g1 : r1 < 0
  · clear hr1
    go_wp2
    go_ret
    exact ⟨_, rfl, .inl (by decide), hh1⟩
  have H1 : Hid (0 ≤ r1 ∧ r1 ≤ 1048576 ∧ (n2 ≤ 1048576 ∧ ∀ k, k < n2 → (x.s.ss.getD k default).sg.length ≤ 1048576)) := hr1.resolve_left g1
  have b1 : 0 ≤ r1 ∧ r1 ≤ 1048576 := ⟨H1.out.1, H1.out.2.1⟩
  clear hr1
  have l9 : v1.cell? ⟨w.heap.size, 9, none⟩ = some (.int .i64 x.l.v) := (cell_of_row _ _ 9 _ 56 (0, 0) (below_kept HB.out kb1)).trans rfl
  have l10 : v1.cell? ⟨w.heap.size, 10, none⟩ = some (.int .i64 x.l.e) := (cell_of_row _ _ 10 _ 56 (0, 0) (below_kept HB.out kb1)).trans rfl
  have l11 : v1.cell? ⟨w.heap.size, 11, none⟩ = some (.slice a3 n3 c3) := (cell_of_row _ _ 11 _ 56 (0, 0) (below_kept HB.out kb1)).trans rfl
  have l12 : v1.cell? ⟨w.heap.size, 12, none⟩ = some (.slice a4 n4 c4) := (cell_of_row _ _ 12 _ 56 (0, 0) (below_kept HB.out kb1)).trans rfl
  go_wp2_with fail
  refine (szListFile_any x.l a3 n3 c3 a4 n4 c4 r1 _ (HR.out _ hh1).r3 (HR.out _ hh1).m3 (HR.out _ hh1).r4 (HR.out _ hh1).m4 b1.1 b1.2).mono ?_
  rintro e v2 ⟨r2, rfl, hr2, hb2⟩
  clear l9 l10 l11 l12
  have kb2 : Below w1.heap.size w1 v2 := keepT kb1 hb2
  have hh2 : Below w.heap.size w v2 := keepT hbb kb2
  by_cases g2 : r2 < 0
  · clear hr2
    go_wp2
    go_ret
    exact ⟨_, rfl, .inl (by decide), hh2⟩
  have H2 : Hid (0 ≤ r2 ∧ r2 ≤ 1048576 ∧ n3 ≤ 1048576 ∧ (n4 ≤ 1048576 ∧ ∀ k, k < n4 → (x.l.ss.getD k default).sg.length ≤ 1048576)) := hr2.resolve_left g2
  have b2 : 0 ≤ r2 ∧ r2 ≤ 1048576 := ⟨H2.out.1, H2.out.2.1⟩
  clear hr2
  go_wp2
  go_ret
  exact ⟨_, rfl, .inr ⟨b2.1, b2.2, ⟨H0.out.2.2.1, H0.out.2.2.2, H1.out.2.2, H2.out.2.2.1, H2.out.2.2.2⟩⟩, hh2⟩

theorem infoTs : (Tryz.prog.info? 60).map (·.size) = some 13 := by kernel_rfl
theorem results_Ts {fn : Func} {t : Tmp} (h : fn.results = #[.cell t 60]) (tmps : Array Value) (g : Nat) (ht : tmps.getD t undef = .pointer (some ⟨g, 0, none⟩)) (w : World) (cs : Array Value) (hs : cs.size = 13)
    (hb : w.heap[g]? = some (.cells cs 60 (0, 0))) : (results fn tmps).run Tryz.prog w = .ok (.agg cs) w := by
  have ht' : tmps[t]?.getD undef = .pointer (some ⟨g, 0, none⟩) := by rw [← ht]; simp
  have hi : (Tryz.prog.info? 60).map (·.size) = some cs.size := by rw [hs]; exact infoTs
  simp [results, h, asAddr, ht', run_loadVar_row w g _ _ cs (0, 0) _ hb Tryz.underlying60 rfl hi]

set_option maxRecDepth 10000 in
set_option maxHeartbeats 8000000 in
theorem toTrustState_any (x : TsP) (a0 : Option Addr) (n0 c0 : Nat) (a1 : Option Addr) (n1 c1 : Nat) (a2 : Option Addr) (n2 c2 : Nat) (a3 : Option Addr) (n3 c3 : Nat) (a4 : Option Addr) (n4 c4 : Nat) (w : World) (h : TsR x a0 n0 a1 n1 a2 n2 a3 n3 a4 n4 w) (hq : TsS x n0 n1 n2 n3 n4) :
    Calls Tryz.prog 16 #[.agg #[.int .i64 x.r.v, .int .i64 x.r.e, .slice a0 n0 c0, .slice a1 n1 c1, .int .i64 x.s.v, .int .i64 x.s.e, .int .i64 x.s.lv, .int .u64 x.s.lh, .slice a2 n2 c2, .int .i64 x.l.v, .int .i64 x.l.e, .slice a3 n3 c3, .slice a4 n4 c4]] w fun e w' => ∃ p0 p1 p2 p3 p4, e = .returned (.agg #[.int .i64 x.r.v, .int .i64 x.r.e, .slice p0 n0 n0, .slice p1 n1 n1, .int .i64 x.s.v, .int .i64 x.s.e, .int .i64 x.s.lv, .int .u64 x.s.lh, .slice p2 n2 n2, .int .i64 x.l.v, .int .i64 x.l.e, .slice p3 n3 n3, .slice p4 n4 n4]) ∧ TsR x p0 n0 p1 n1 p2 n2 p3 n3 p4 n4 w' ∧ Below w.heap.size w w' := by
  obtain ⟨w1, hw1⟩ : ∃ w1, w1 = ((w.alloc (.cells #[.int .i64 x.r.v, .int .i64 x.r.e, .slice a0 n0 c0, .slice a1 n1 c1, .int .i64 x.s.v, .int .i64 x.s.e, .int .i64 x.s.lv, .int .u64 x.s.lh, .slice a2 n2 c2, .int .i64 x.l.v, .int .i64 x.l.e, .slice a3 n3 c3, .slice a4 n4 c4] 56)).alloc (.cells #[.int .i64 0, .int .i64 0, .slice none 0 0, .slice none 0 0, .int .i64 0, .int .i64 0, .int .i64 0, .int .u64 0, .slice none 0 0, .int .i64 0, .int .i64 0, .slice none 0 0, .slice none 0 0] 60)).alloc (.cells #[.int .i64 0, .int .i64 0, .slice none 0 0, .slice none 0 0, .int .i64 0, .int .i64 0, .int .i64 0, .int .u64 0, .slice none 0 0, .int .i64 0, .int .i64 0, .slice none 0 0, .slice none 0 0] 60) := ⟨_, rfl⟩
  have hbb : Below w.heap.size w w1 := by rw [hw1]; exact (((Below.refl _ _).alloc (Nat.le_refl _) _).alloc (by simp) _).alloc (by simp; omega) _
  have hsz : w1.heap.size = w.heap.size + 3 := by rw [hw1]; simp
  have HBX : Hid (_ ∧ _ ∧ _) := heap_alloc2_newH w (.cells #[.int .i64 x.r.v, .int .i64 x.r.e, .slice a0 n0 c0, .slice a1 n1 c1, .int .i64 x.s.v, .int .i64 x.s.e, .int .i64 x.s.lv, .int .u64 x.s.lh, .slice a2 n2 c2, .int .i64 x.l.v, .int .i64 x.l.e, .slice a3 n3 c3, .slice a4 n4 c4] 56) (.cells #[.int .i64 0, .int .i64 0, .slice none 0 0, .slice none 0 0, .int .i64 0, .int .i64 0, .int .i64 0, .int .u64 0, .slice none 0 0, .int .i64 0, .int .i64 0, .slice none 0 0, .slice none 0 0] 60) (.cells #[.int .i64 0, .int .i64 0, .slice none 0 0, .slice none 0 0, .int .i64 0, .int .i64 0, .int .i64 0, .int .u64 0, .slice none 0 0, .int .i64 0, .int .i64 0, .slice none 0 0, .slice none 0 0] 60)
  rw [← hw1] at HBX
  have HW : Hid (_ = _) := hw1
  have HR : Hid (∀ W, Below w.heap.size w W → TsR x a0 n0 a1 n1 a2 n2 a3 n3 a4 n4 W) := fun W hW => h.kept hW
  have HQ : Hid (TsS x n0 n1 n2 n3 n4) := hq
  clear hw1 h hq
  have l0 : w1.cell? ⟨w.heap.size, 0, none⟩ = some (.int .i64 x.r.v) := (cell_of_row _ _ 0 _ 56 (0, 0) HBX.out.1).trans rfl
  have l1 : w1.cell? ⟨w.heap.size, 1, none⟩ = some (.int .i64 x.r.e) := (cell_of_row _ _ 1 _ 56 (0, 0) HBX.out.1).trans rfl
  have l2 : w1.cell? ⟨w.heap.size, 2, none⟩ = some (.slice a0 n0 c0) := (cell_of_row _ _ 2 _ 56 (0, 0) HBX.out.1).trans rfl
  have l3 : w1.cell? ⟨w.heap.size, 3, none⟩ = some (.slice a1 n1 c1) := (cell_of_row _ _ 3 _ 56 (0, 0) HBX.out.1).trans rfl
  go_enter Tryz.func16, Tryz.ntmps16
  go_upto_region 2 with fail
  rw [← HW.out]
  clear HW
  go_wp2_with fail
  refine (toRootFile_any x.r a0 n0 c0 a1 n1 c1 _ (HR.out _ hbb).r0 (HR.out _ hbb).m0 (HR.out _ hbb).r1 (HR.out _ hbb).m1 HQ.out.q0 HQ.out.q1).mono ?_
  rintro e v0 ⟨p0, p1, rfl, k0, k1, hb0⟩
  clear l0 l1 l2 l3
  have HK0 : Hid (KeepB (w.heap.size + 3) v0 (fun W => Ros KT W p0 n0 x.r.rs)) := k0.mono (by omega)
  have HK1 : Hid (KeepB (w.heap.size + 3) v0 (fun W => Fss KT W p1 n1 x.r.ss)) := k1.mono (by omega)
  have hw0 : Below w.heap.size w v0 := hbb.trans (hb0.mono hbb.size)
  have hz0 : w.heap.size + 3 ≤ v0.heap.size := by have := hb0.size; omega
  have HBX0 : Hid (v0.heap[w.heap.size]? = some (.cells #[.int .i64 x.r.v, .int .i64 x.r.e, .slice a0 n0 c0, .slice a1 n1 c1, .int .i64 x.s.v, .int .i64 x.s.e, .int .i64 x.s.lv, .int .u64 x.s.lh, .slice a2 n2 c2, .int .i64 x.l.v, .int .i64 x.l.e, .slice a3 n3 c3, .slice a4 n4 c4] 56 (0, 0)) ∧ v0.heap[w.heap.size + 1]? = some (.cells #[.int .i64 0, .int .i64 0, .slice none 0 0, .slice none 0 0, .int .i64 0, .int .i64 0, .int .i64 0, .int .u64 0, .slice none 0 0, .int .i64 0, .int .i64 0, .slice none 0 0, .slice none 0 0] 60 (0, 0)) ∧ v0.heap[w.heap.size + 1 + 1]? = some (.cells #[.int .i64 0, .int .i64 0, .slice none 0 0, .slice none 0 0, .int .i64 0, .int .i64 0, .int .i64 0, .int .u64 0, .slice none 0 0, .int .i64 0, .int .i64 0, .slice none 0 0, .slice none 0 0] 60 (0, 0))) := ⟨below_kept HBX.out.1 hb0, below_kept HBX.out.2.1 hb0, below_kept HBX.out.2.2 hb0⟩
  have x0 : v0.cell? ⟨w.heap.size + 1 + 1, 0, none⟩ = some (.int .i64 0) := (cell_of_row _ _ 0 _ 60 (0, 0) HBX0.out.2.2).trans rfl
  have y0 : v0.frozen? ⟨w.heap.size + 1 + 1, 0, none⟩ = false := frozen_of_row v0 _ 0 _ 60 HBX0.out.2.2
  have x1 : v0.cell? ⟨w.heap.size + 1 + 1, 1, none⟩ = some (.int .i64 0) := (cell_of_row _ _ 1 _ 60 (0, 0) HBX0.out.2.2).trans rfl
  have y1 : v0.frozen? ⟨w.heap.size + 1 + 1, 1, none⟩ = false := frozen_of_row v0 _ 1 _ 60 HBX0.out.2.2
  have x2 : v0.cell? ⟨w.heap.size + 1 + 1, 2, none⟩ = some (.slice none 0 0) := (cell_of_row _ _ 2 _ 60 (0, 0) HBX0.out.2.2).trans rfl
  have y2 : v0.frozen? ⟨w.heap.size + 1 + 1, 2, none⟩ = false := frozen_of_row v0 _ 2 _ 60 HBX0.out.2.2
  have x3 : v0.cell? ⟨w.heap.size + 1 + 1, 3, none⟩ = some (.slice none 0 0) := (cell_of_row _ _ 3 _ 60 (0, 0) HBX0.out.2.2).trans rfl
  have y3 : v0.frozen? ⟨w.heap.size + 1 + 1, 3, none⟩ = false := frozen_of_row v0 _ 3 _ 60 HBX0.out.2.2
  obtain ⟨z0, hz0⟩ : ∃ z, z = ((((v0.setCell ⟨w.heap.size + 1 + 1, 0, none⟩ (.int .i64 x.r.v)).setCell ⟨w.heap.size + 1 + 1, 1, none⟩ (.int .i64 x.r.e)).setCell ⟨w.heap.size + 1 + 1, 2, none⟩ (.slice p0 n0 n0)).setCell ⟨w.heap.size + 1 + 1, 3, none⟩ (.slice p1 n1 n1)) := ⟨_, rfl⟩
  have ht0 : Touch (w.heap.size + 1 + 1) (w.heap.size + 1 + 1 + 1) v0 z0 := by rw [hz0]; exact (((touch_set1 _ _ _ _).trans (touch_set1 _ _ _ _)).trans (touch_set1 _ _ _ _)).trans (touch_set1 _ _ _ _)
  have HBY0 : Hid (z0.heap[w.heap.size]? = some (.cells #[.int .i64 x.r.v, .int .i64 x.r.e, .slice a0 n0 c0, .slice a1 n1 c1, .int .i64 x.s.v, .int .i64 x.s.e, .int .i64 x.s.lv, .int .u64 x.s.lh, .slice a2 n2 c2, .int .i64 x.l.v, .int .i64 x.l.e, .slice a3 n3 c3, .slice a4 n4 c4] 56 (0, 0)) ∧ z0.heap[w.heap.size + 1]? = some (.cells #[.int .i64 0, .int .i64 0, .slice none 0 0, .slice none 0 0, .int .i64 0, .int .i64 0, .int .i64 0, .int .u64 0, .slice none 0 0, .int .i64 0, .int .i64 0, .slice none 0 0, .slice none 0 0] 60 (0, 0)) ∧ z0.heap[w.heap.size + 1 + 1]? = some (.cells #[.int .i64 x.r.v, .int .i64 x.r.e, .slice p0 n0 n0, .slice p1 n1 n1, .int .i64 0, .int .i64 0, .int .i64 0, .int .u64 0, .slice none 0 0, .int .i64 0, .int .i64 0, .slice none 0 0, .slice none 0 0] 60 (0, 0))) := ⟨touch_kept ht0 HBX0.out.1 (by omega), touch_kept ht0 HBX0.out.2.1 (by omega), by rw [hz0]; exact (heap_setCell_same _ _ 3 _ _ _ (heap_setCell_same _ _ 2 _ _ _ (heap_setCell_same _ _ 1 _ _ _ (heap_setCell_same _ _ 0 _ _ _ HBX0.out.2.2))))⟩
  have HK0 : Hid (KeepB (w.heap.size + 3) z0 (fun W => Ros KT W p0 n0 x.r.rs)) := HK0.out.touch ht0 (by omega)
  have HK1 : Hid (KeepB (w.heap.size + 3) z0 (fun W => Fss KT W p1 n1 x.r.ss)) := HK1.out.touch ht0 (by omega)
  have hy0 : Below w.heap.size w z0 := hw0.trans (ht0.below (by omega) (by omega))
  have hq0 : w.heap.size + 3 ≤ z0.heap.size := by have := ht0.size; omega
  have HZ0 : Hid (_ = _) := hz0
  clear hz0 k0 k1 hb0
  go_upto_region 3 with fail
  rw [← HZ0.out]
  clear HZ0 x0 y0 x1 y1 x2 y2 x3 y3
  have l4 : z0.cell? ⟨w.heap.size, 4, none⟩ = some (.int .i64 x.s.v) := (cell_of_row _ _ 4 _ 56 (0, 0) HBY0.out.1).trans rfl
  have l5 : z0.cell? ⟨w.heap.size, 5, none⟩ = some (.int .i64 x.s.e) := (cell_of_row _ _ 5 _ 56 (0, 0) HBY0.out.1).trans rfl
  have l6 : z0.cell? ⟨w.heap.size, 6, none⟩ = some (.int .i64 x.s.lv) := (cell_of_row _ _ 6 _ 56 (0, 0) HBY0.out.1).trans rfl
  have l7 : z0.cell? ⟨w.heap.size, 7, none⟩ = some (.int .u64 x.s.lh) := (cell_of_row _ _ 7 _ 56 (0, 0) HBY0.out.1).trans rfl
  have l8 : z0.cell? ⟨w.heap.size, 8, none⟩ = some (.slice a2 n2 c2) := (cell_of_row _ _ 8 _ 56 (0, 0) HBY0.out.1).trans rfl
  go_wp2_with fail
  refine (toStampFile_any x.s a2 n2 c2 _ (HR.out _ hy0).r2 (HR.out _ hy0).m2 HQ.out.q2).mono ?_
  rintro e v1 ⟨p2, rfl, k2, hb1⟩
  clear l4 l5 l6 l7 l8
  have HK2 : Hid (KeepB (w.heap.size + 3) v1 (fun W => Fss KT W p2 n2 x.s.ss)) := k2.mono (by omega)
  have HK0 : Hid (KeepB (w.heap.size + 3) v1 (fun W => Ros KT W p0 n0 x.r.rs)) := HK0.out.kept hb1
  have HK1 : Hid (KeepB (w.heap.size + 3) v1 (fun W => Fss KT W p1 n1 x.r.ss)) := HK1.out.kept hb1
  have hw1 : Below w.heap.size w v1 := hy0.trans (hb1.mono hy0.size)
  have hz1 : w.heap.size + 3 ≤ v1.heap.size := by have := hb1.size; omega
  have HBX1 : Hid (v1.heap[w.heap.size]? = some (.cells #[.int .i64 x.r.v, .int .i64 x.r.e, .slice a0 n0 c0, .slice a1 n1 c1, .int .i64 x.s.v, .int .i64 x.s.e, .int .i64 x.s.lv, .int .u64 x.s.lh, .slice a2 n2 c2, .int .i64 x.l.v, .int .i64 x.l.e, .slice a3 n3 c3, .slice a4 n4 c4] 56 (0, 0)) ∧ v1.heap[w.heap.size + 1]? = some (.cells #[.int .i64 0, .int .i64 0, .slice none 0 0, .slice none 0 0, .int .i64 0, .int .i64 0, .int .i64 0, .int .u64 0, .slice none 0 0, .int .i64 0, .int .i64 0, .slice none 0 0, .slice none 0 0] 60 (0, 0)) ∧ v1.heap[w.heap.size + 1 + 1]? = some (.cells #[.int .i64 x.r.v, .int .i64 x.r.e, .slice p0 n0 n0, .slice p1 n1 n1, .int .i64 0, .int .i64 0, .int .i64 0, .int .u64 0, .slice none 0 0, .int .i64 0, .int .i64 0, .slice none 0 0, .slice none 0 0] 60 (0, 0))) := ⟨below_kept HBY0.out.1 hb1, below_kept HBY0.out.2.1 hb1, below_kept HBY0.out.2.2 hb1⟩
  have x4 : v1.cell? ⟨w.heap.size + 1 + 1, 4, none⟩ = some (.int .i64 0) := (cell_of_row _ _ 4 _ 60 (0, 0) HBX1.out.2.2).trans rfl
  have y4 : v1.frozen? ⟨w.heap.size + 1 + 1, 4, none⟩ = false := frozen_of_row v1 _ 4 _ 60 HBX1.out.2.2
  have x5 : v1.cell? ⟨w.heap.size + 1 + 1, 5, none⟩ = some (.int .i64 0) := (cell_of_row _ _ 5 _ 60 (0, 0) HBX1.out.2.2).trans rfl
  have y5 : v1.frozen? ⟨w.heap.size + 1 + 1, 5, none⟩ = false := frozen_of_row v1 _ 5 _ 60 HBX1.out.2.2
  have x6 : v1.cell? ⟨w.heap.size + 1 + 1, 6, none⟩ = some (.int .i64 0) := (cell_of_row _ _ 6 _ 60 (0, 0) HBX1.out.2.2).trans rfl
  have y6 : v1.frozen? ⟨w.heap.size + 1 + 1, 6, none⟩ = false := frozen_of_row v1 _ 6 _ 60 HBX1.out.2.2
  have x7 : v1.cell? ⟨w.heap.size + 1 + 1, 7, none⟩ = some (.int .u64 0) := (cell_of_row _ _ 7 _ 60 (0, 0) HBX1.out.2.2).trans rfl
  have y7 : v1.frozen? ⟨w.heap.size + 1 + 1, 7, none⟩ = false := frozen_of_row v1 _ 7 _ 60 HBX1.out.2.2
  have x8 : v1.cell? ⟨w.heap.size + 1 + 1, 8, none⟩ = some (.slice none 0 0) := (cell_of_row _ _ 8 _ 60 (0, 0) HBX1.out.2.2).trans rfl
  have y8 : v1.frozen? ⟨w.heap.size + 1 + 1, 8, none⟩ = false := frozen_of_row v1 _ 8 _ 60 HBX1.out.2.2
  obtain ⟨z1, hz1⟩ : ∃ z, z = (((((v1.setCell ⟨w.heap.size + 1 + 1, 4, none⟩ (.int .i64 x.s.v)).setCell ⟨w.heap.size + 1 + 1, 5, none⟩ (.int .i64 x.s.e)).setCell ⟨w.heap.size + 1 + 1, 6, none⟩ (.int .i64 x.s.lv)).setCell ⟨w.heap.size + 1 + 1, 7, none⟩ (.int .u64 x.s.lh)).setCell ⟨w.heap.size + 1 + 1, 8, none⟩ (.slice p2 n2 n2)) := ⟨_, rfl⟩
  have ht1 : Touch (w.heap.size + 1 + 1) (w.heap.size + 1 + 1 + 1) v1 z1 := by rw [hz1]; exact ((((touch_set1 _ _ _ _).trans (touch_set1 _ _ _ _)).trans (touch_set1 _ _ _ _)).trans (touch_set1 _ _ _ _)).trans (touch_set1 _ _ _ _)
  have HBY1 : Hid (z1.heap[w.heap.size]? = some (.cells #[.int .i64 x.r.v, .int .i64 x.r.e, .slice a0 n0 c0, .slice a1 n1 c1, .int .i64 x.s.v, .int .i64 x.s.e, .int .i64 x.s.lv, .int .u64 x.s.lh, .slice a2 n2 c2, .int .i64 x.l.v, .int .i64 x.l.e, .slice a3 n3 c3, .slice a4 n4 c4] 56 (0, 0)) ∧ z1.heap[w.heap.size + 1]? = some (.cells #[.int .i64 0, .int .i64 0, .slice none 0 0, .slice none 0 0, .int .i64 0, .int .i64 0, .int .i64 0, .int .u64 0, .slice none 0 0, .int .i64 0, .int .i64 0, .slice none 0 0, .slice none 0 0] 60 (0, 0)) ∧ z1.heap[w.heap.size + 1 + 1]? = some (.cells #[.int .i64 x.r.v, .int .i64 x.r.e, .slice p0 n0 n0, .slice p1 n1 n1, .int .i64 x.s.v, .int .i64 x.s.e, .int .i64 x.s.lv, .int .u64 x.s.lh, .slice p2 n2 n2, .int .i64 0, .int .i64 0, .slice none 0 0, .slice none 0 0] 60 (0, 0))) := ⟨touch_kept ht1 HBX1.out.1 (by omega), touch_kept ht1 HBX1.out.2.1 (by omega), by rw [hz1]; exact (heap_setCell_same _ _ 8 _ _ _ (heap_setCell_same _ _ 7 _ _ _ (heap_setCell_same _ _ 6 _ _ _ (heap_setCell_same _ _ 5 _ _ _ (heap_setCell_same _ _ 4 _ _ _ HBX1.out.2.2)))))⟩
  have HK0 : Hid (KeepB (w.heap.size + 3) z1 (fun W => Ros KT W p0 n0 x.r.rs)) := HK0.out.touch ht1 (by omega)
  have HK1 : Hid (KeepB (w.heap.size + 3) z1 (fun W => Fss KT W p1 n1 x.r.ss)) := HK1.out.touch ht1 (by omega)
  have HK2 : Hid (KeepB (w.heap.size + 3) z1 (fun W => Fss KT W p2 n2 x.s.ss)) := HK2.out.touch ht1 (by omega)
  have hy1 : Below w.heap.size w z1 := hw1.trans (ht1.below (by omega) (by omega))
  have hq1 : w.heap.size + 3 ≤ z1.heap.size := by have := ht1.size; omega
  have HZ1 : Hid (_ = _) := hz1
  clear hz1 k2 hb1
  go_upto_region 4 with fail
  rw [← HZ1.out]
  clear HZ1 x4 y4 x5 y5 x6 y6 x7 y7 x8 y8
  have l9 : z1.cell? ⟨w.heap.size, 9, none⟩ = some (.int .i64 x.l.v) := (cell_of_row _ _ 9 _ 56 (0, 0) HBY1.out.1).trans rfl
  have l10 : z1.cell? ⟨w.heap.size, 10, none⟩ = some (.int .i64 x.l.e) := (cell_of_row _ _ 10 _ 56 (0, 0) HBY1.out.1).trans rfl
  have l11 : z1.cell? ⟨w.heap.size, 11, none⟩ = some (.slice a3 n3 c3) := (cell_of_row _ _ 11 _ 56 (0, 0) HBY1.out.1).trans rfl
  have l12 : z1.cell? ⟨w.heap.size, 12, none⟩ = some (.slice a4 n4 c4) := (cell_of_row _ _ 12 _ 56 (0, 0) HBY1.out.1).trans rfl
  go_wp2_with fail
  refine (toListFile_any x.l a3 n3 c3 a4 n4 c4 _ (HR.out _ hy1).r3 (HR.out _ hy1).m3 (HR.out _ hy1).r4 (HR.out _ hy1).m4 HQ.out.q3 HQ.out.q4).mono ?_
  rintro e v2 ⟨p3, p4, rfl, k3, k4, hb2⟩
  clear l9 l10 l11 l12
  have HK3 : Hid (KeepB (w.heap.size + 3) v2 (fun W => RowTe W p3 n3 x.l.es)) := k3.mono (by omega)
  have HK4 : Hid (KeepB (w.heap.size + 3) v2 (fun W => Fss KT W p4 n4 x.l.ss)) := k4.mono (by omega)
  have HK0 : Hid (KeepB (w.heap.size + 3) v2 (fun W => Ros KT W p0 n0 x.r.rs)) := HK0.out.kept hb2
  have HK1 : Hid (KeepB (w.heap.size + 3) v2 (fun W => Fss KT W p1 n1 x.r.ss)) := HK1.out.kept hb2
  have HK2 : Hid (KeepB (w.heap.size + 3) v2 (fun W => Fss KT W p2 n2 x.s.ss)) := HK2.out.kept hb2
  have hw2 : Below w.heap.size w v2 := hy1.trans (hb2.mono hy1.size)
  have hz2 : w.heap.size + 3 ≤ v2.heap.size := by have := hb2.size; omega
  have HBX2 : Hid (v2.heap[w.heap.size]? = some (.cells #[.int .i64 x.r.v, .int .i64 x.r.e, .slice a0 n0 c0, .slice a1 n1 c1, .int .i64 x.s.v, .int .i64 x.s.e, .int .i64 x.s.lv, .int .u64 x.s.lh, .slice a2 n2 c2, .int .i64 x.l.v, .int .i64 x.l.e, .slice a3 n3 c3, .slice a4 n4 c4] 56 (0, 0)) ∧ v2.heap[w.heap.size + 1]? = some (.cells #[.int .i64 0, .int .i64 0, .slice none 0 0, .slice none 0 0, .int .i64 0, .int .i64 0, .int .i64 0, .int .u64 0, .slice none 0 0, .int .i64 0, .int .i64 0, .slice none 0 0, .slice none 0 0] 60 (0, 0)) ∧ v2.heap[w.heap.size + 1 + 1]? = some (.cells #[.int .i64 x.r.v, .int .i64 x.r.e, .slice p0 n0 n0, .slice p1 n1 n1, .int .i64 x.s.v, .int .i64 x.s.e, .int .i64 x.s.lv, .int .u64 x.s.lh, .slice p2 n2 n2, .int .i64 0, .int .i64 0, .slice none 0 0, .slice none 0 0] 60 (0, 0))) := ⟨below_kept HBY1.out.1 hb2, below_kept HBY1.out.2.1 hb2, below_kept HBY1.out.2.2 hb2⟩
  have x9 : v2.cell? ⟨w.heap.size + 1 + 1, 9, none⟩ = some (.int .i64 0) := (cell_of_row _ _ 9 _ 60 (0, 0) HBX2.out.2.2).trans rfl
  have y9 : v2.frozen? ⟨w.heap.size + 1 + 1, 9, none⟩ = false := frozen_of_row v2 _ 9 _ 60 HBX2.out.2.2
  have x10 : v2.cell? ⟨w.heap.size + 1 + 1, 10, none⟩ = some (.int .i64 0) := (cell_of_row _ _ 10 _ 60 (0, 0) HBX2.out.2.2).trans rfl
  have y10 : v2.frozen? ⟨w.heap.size + 1 + 1, 10, none⟩ = false := frozen_of_row v2 _ 10 _ 60 HBX2.out.2.2
  have x11 : v2.cell? ⟨w.heap.size + 1 + 1, 11, none⟩ = some (.slice none 0 0) := (cell_of_row _ _ 11 _ 60 (0, 0) HBX2.out.2.2).trans rfl
  have y11 : v2.frozen? ⟨w.heap.size + 1 + 1, 11, none⟩ = false := frozen_of_row v2 _ 11 _ 60 HBX2.out.2.2
  have x12 : v2.cell? ⟨w.heap.size + 1 + 1, 12, none⟩ = some (.slice none 0 0) := (cell_of_row _ _ 12 _ 60 (0, 0) HBX2.out.2.2).trans rfl
  have y12 : v2.frozen? ⟨w.heap.size + 1 + 1, 12, none⟩ = false := frozen_of_row v2 _ 12 _ 60 HBX2.out.2.2
  obtain ⟨z2, hz2⟩ : ∃ z, z = ((((v2.setCell ⟨w.heap.size + 1 + 1, 9, none⟩ (.int .i64 x.l.v)).setCell ⟨w.heap.size + 1 + 1, 10, none⟩ (.int .i64 x.l.e)).setCell ⟨w.heap.size + 1 + 1, 11, none⟩ (.slice p3 n3 n3)).setCell ⟨w.heap.size + 1 + 1, 12, none⟩ (.slice p4 n4 n4)) := ⟨_, rfl⟩
  have ht2 : Touch (w.heap.size + 1 + 1) (w.heap.size + 1 + 1 + 1) v2 z2 := by rw [hz2]; exact (((touch_set1 _ _ _ _).trans (touch_set1 _ _ _ _)).trans (touch_set1 _ _ _ _)).trans (touch_set1 _ _ _ _)
  have HBY2 : Hid (z2.heap[w.heap.size]? = some (.cells #[.int .i64 x.r.v, .int .i64 x.r.e, .slice a0 n0 c0, .slice a1 n1 c1, .int .i64 x.s.v, .int .i64 x.s.e, .int .i64 x.s.lv, .int .u64 x.s.lh, .slice a2 n2 c2, .int .i64 x.l.v, .int .i64 x.l.e, .slice a3 n3 c3, .slice a4 n4 c4] 56 (0, 0)) ∧ z2.heap[w.heap.size + 1]? = some (.cells #[.int .i64 0, .int .i64 0, .slice none 0 0, .slice none 0 0, .int .i64 0, .int .i64 0, .int .i64 0, .int .u64 0, .slice none 0 0, .int .i64 0, .int .i64 0, .slice none 0 0, .slice none 0 0] 60 (0, 0)) ∧ z2.heap[w.heap.size + 1 + 1]? = some (.cells #[.int .i64 x.r.v, .int .i64 x.r.e, .slice p0 n0 n0, .slice p1 n1 n1, .int .i64 x.s.v, .int .i64 x.s.e, .int .i64 x.s.lv, .int .u64 x.s.lh, .slice p2 n2 n2, .int .i64 x.l.v, .int .i64 x.l.e, .slice p3 n3 n3, .slice p4 n4 n4] 60 (0, 0))) := ⟨touch_kept ht2 HBX2.out.1 (by omega), touch_kept ht2 HBX2.out.2.1 (by omega), by rw [hz2]; exact (heap_setCell_same _ _ 12 _ _ _ (heap_setCell_same _ _ 11 _ _ _ (heap_setCell_same _ _ 10 _ _ _ (heap_setCell_same _ _ 9 _ _ _ HBX2.out.2.2))))⟩
  have HK0 : Hid (KeepB (w.heap.size + 3) z2 (fun W => Ros KT W p0 n0 x.r.rs)) := HK0.out.touch ht2 (by omega)
  have HK1 : Hid (KeepB (w.heap.size + 3) z2 (fun W => Fss KT W p1 n1 x.r.ss)) := HK1.out.touch ht2 (by omega)
  have HK2 : Hid (KeepB (w.heap.size + 3) z2 (fun W => Fss KT W p2 n2 x.s.ss)) := HK2.out.touch ht2 (by omega)
  have HK3 : Hid (KeepB (w.heap.size + 3) z2 (fun W => RowTe W p3 n3 x.l.es)) := HK3.out.touch ht2 (by omega)
  have HK4 : Hid (KeepB (w.heap.size + 3) z2 (fun W => Fss KT W p4 n4 x.l.ss)) := HK4.out.touch ht2 (by omega)
  have hy2 : Below w.heap.size w z2 := hw2.trans (ht2.below (by omega) (by omega))
  have hq2 : w.heap.size + 3 ≤ z2.heap.size := by have := ht2.size; omega
  have HZ2 : Hid (_ = _) := hz2
  clear hz2 k3 k4 hb2
  go_upto_region 5 with fail
  rw [← HZ2.out]
  clear HZ2 x9 y9 x10 y10 x11 y11 x12 y12
  rename_i K0 hK0
  apply wp_region_lit
  refine wpList_load_row rfl 60 _ rfl (w.heap.size + 1 + 1) rfl 60 #[.int .i64 x.r.v, .int .i64 x.r.e, .slice p0 n0 n0, .slice p1 n1 n1, .int .i64 x.s.v, .int .i64 x.s.e, .int .i64 x.s.lv, .int .u64 x.s.lh, .slice p2 n2 n2, .int .i64 x.l.v, .int .i64 x.l.e, .slice p3 n3 n3, .slice p4 n4 n4] (0, 0) _ HBY2.out.2.2 Tryz.underlying60 rfl infoTs ?_
  refine wpList_store_rowTo rfl 60 _ _ rfl rfl (w.heap.size + 1) #[.int .i64 x.r.v, .int .i64 x.r.e, .slice p0 n0 n0, .slice p1 n1 n1, .int .i64 x.s.v, .int .i64 x.s.e, .int .i64 x.s.lv, .int .u64 x.s.lh, .slice p2 n2 n2, .int .i64 x.l.v, .int .i64 x.l.e, .slice p3 n3 n3, .slice p4 n4 n4] rfl rfl 60 #[.int .i64 0, .int .i64 0, .slice none 0 0, .slice none 0 0, .int .i64 0, .int .i64 0, .int .i64 0, .int .u64 0, .slice none 0 0, .int .i64 0, .int .i64 0, .slice none 0 0, .slice none 0 0] HBY2.out.2.1 infoTs rfl (by simp [Value.oneCell']) ?_
  apply wpList_nil
  refine hK0 _ _ ?_
  clear hK0 K0
  have T2 := setRow_touch z2 (w.heap.size + 1) #[.int .i64 x.r.v, .int .i64 x.r.e, .slice p0 n0 n0, .slice p1 n1 n1, .int .i64 x.s.v, .int .i64 x.s.e, .int .i64 x.s.lv, .int .u64 x.s.lh, .slice p2 n2 n2, .int .i64 x.l.v, .int .i64 x.l.e, .slice p3 n3 n3, .slice p4 n4 n4]
  have hrow : (z2.setRow (w.heap.size + 1) #[.int .i64 x.r.v, .int .i64 x.r.e, .slice p0 n0 n0, .slice p1 n1 n1, .int .i64 x.s.v, .int .i64 x.s.e, .int .i64 x.s.lv, .int .u64 x.s.lh, .slice p2 n2 n2, .int .i64 x.l.v, .int .i64 x.l.e, .slice p3 n3 n3, .slice p4 n4 n4]).heap[w.heap.size + 1]? = some (.cells #[.int .i64 x.r.v, .int .i64 x.r.e, .slice p0 n0 n0, .slice p1 n1 n1, .int .i64 x.s.v, .int .i64 x.s.e, .int .i64 x.s.lv, .int .u64 x.s.lh, .slice p2 n2 n2, .int .i64 x.l.v, .int .i64 x.l.e, .slice p3 n3 n3, .slice p4 n4 n4] 60 (0, 0)) := setRow_heap _ _ _ _ _ _ HBY2.out.2.1
  go_wp2
  try simp only [Exit.inBlock, Exit.then]
  exact bodyPost_ret (results_Ts rfl _ (w.heap.size + 1) rfl _ _ rfl hrow) rfl ⟨p0, p1, p2, p3, p4, rfl, ⟨(HK0.out.touch T2 (by omega)).now, (HK1.out.touch T2 (by omega)).now, (HK2.out.touch T2 (by omega)).now, (HK3.out.touch T2 (by omega)).now, (HK4.out.touch T2 (by omega)).now, (HR.out _ (Below.refl _ _)).m0, (HR.out _ (Below.refl _ _)).m1, (HR.out _ (Below.refl _ _)).m2, (HR.out _ (Below.refl _ _)).m3, (HR.out _ (Below.refl _ _)).m4⟩, hy2.trans (T2.below (by omega) (by omega))⟩

set_option maxRecDepth 10000 in
set_option maxHeartbeats 8000000 in
theorem eqTrustState_same (x : TsP) (a0 : Option Addr) (n0 c0 : Nat) (a1 : Option Addr) (n1 c1 : Nat) (a2 : Option Addr) (n2 c2 : Nat) (a3 : Option Addr) (n3 c3 : Nat) (a4 : Option Addr) (n4 c4 : Nat) (b0 : Option Addr) (d0 : Nat) (b1 : Option Addr) (d1 : Nat) (b2 : Option Addr) (d2 : Nat) (b3 : Option Addr) (d3 : Nat) (b4 : Option Addr) (d4 : Nat) (w : World) (h : TsR x a0 n0 a1 n1 a2 n2 a3 n3 a4 n4 w) (h2 : TsR x b0 n0 b1 n1 b2 n2 b3 n3 b4 n4 w) :
    Calls Tryz.prog 18 #[.agg #[.int .i64 x.r.v, .int .i64 x.r.e, .slice a0 n0 c0, .slice a1 n1 c1, .int .i64 x.s.v, .int .i64 x.s.e, .int .i64 x.s.lv, .int .u64 x.s.lh, .slice a2 n2 c2, .int .i64 x.l.v, .int .i64 x.l.e, .slice a3 n3 c3, .slice a4 n4 c4], .agg #[.int .i64 x.r.v, .int .i64 x.r.e, .slice b0 n0 d0, .slice b1 n1 d1, .int .i64 x.s.v, .int .i64 x.s.e, .int .i64 x.s.lv, .int .u64 x.s.lh, .slice b2 n2 d2, .int .i64 x.l.v, .int .i64 x.l.e, .slice b3 n3 d3, .slice b4 n4 d4]] w fun e w' => e = .returned (.bool true) ∧ Below w.heap.size w w' := by
  obtain ⟨w1, hw1⟩ : ∃ w1, w1 = (w.alloc (.cells #[.int .i64 x.r.v, .int .i64 x.r.e, .slice a0 n0 c0, .slice a1 n1 c1, .int .i64 x.s.v, .int .i64 x.s.e, .int .i64 x.s.lv, .int .u64 x.s.lh, .slice a2 n2 c2, .int .i64 x.l.v, .int .i64 x.l.e, .slice a3 n3 c3, .slice a4 n4 c4] 60)).alloc (.cells #[.int .i64 x.r.v, .int .i64 x.r.e, .slice b0 n0 d0, .slice b1 n1 d1, .int .i64 x.s.v, .int .i64 x.s.e, .int .i64 x.s.lv, .int .u64 x.s.lh, .slice b2 n2 d2, .int .i64 x.l.v, .int .i64 x.l.e, .slice b3 n3 d3, .slice b4 n4 d4] 60) := ⟨_, rfl⟩
  have hbb : Below w.heap.size w w1 := by rw [hw1]; exact ((Below.refl _ _).alloc (Nat.le_refl _) _).alloc (by simp) _
  have HBX : Hid (_ ∧ _) := two_blocks w (.cells #[.int .i64 x.r.v, .int .i64 x.r.e, .slice a0 n0 c0, .slice a1 n1 c1, .int .i64 x.s.v, .int .i64 x.s.e, .int .i64 x.s.lv, .int .u64 x.s.lh, .slice a2 n2 c2, .int .i64 x.l.v, .int .i64 x.l.e, .slice a3 n3 c3, .slice a4 n4 c4] 60) (.cells #[.int .i64 x.r.v, .int .i64 x.r.e, .slice b0 n0 d0, .slice b1 n1 d1, .int .i64 x.s.v, .int .i64 x.s.e, .int .i64 x.s.lv, .int .u64 x.s.lh, .slice b2 n2 d2, .int .i64 x.l.v, .int .i64 x.l.e, .slice b3 n3 d3, .slice b4 n4 d4] 60)
  rw [← hw1] at HBX
  have HW : Hid (_ = _) := hw1
  have HR : Hid (∀ W, Below w.heap.size w W → TsR x a0 n0 a1 n1 a2 n2 a3 n3 a4 n4 W ∧ TsR x b0 n0 b1 n1 b2 n2 b3 n3 b4 n4 W) := fun W hW => ⟨h.kept hW, h2.kept hW⟩
  clear hw1 h h2
  have x0 : w1.cell? ⟨w.heap.size, 0, none⟩ = some (.int .i64 x.r.v) := (cell_of_row _ _ 0 _ 60 (0, 0) HBX.out.1).trans rfl
  have y0 : w1.cell? ⟨w.heap.size + 1, 0, none⟩ = some (.int .i64 x.r.v) := (cell_of_row _ _ 0 _ 60 (0, 0) HBX.out.2).trans rfl
  have x1 : w1.cell? ⟨w.heap.size, 1, none⟩ = some (.int .i64 x.r.e) := (cell_of_row _ _ 1 _ 60 (0, 0) HBX.out.1).trans rfl
  have y1 : w1.cell? ⟨w.heap.size + 1, 1, none⟩ = some (.int .i64 x.r.e) := (cell_of_row _ _ 1 _ 60 (0, 0) HBX.out.2).trans rfl
  have x2 : w1.cell? ⟨w.heap.size, 2, none⟩ = some (.slice a0 n0 c0) := (cell_of_row _ _ 2 _ 60 (0, 0) HBX.out.1).trans rfl
  have y2 : w1.cell? ⟨w.heap.size + 1, 2, none⟩ = some (.slice b0 n0 d0) := (cell_of_row _ _ 2 _ 60 (0, 0) HBX.out.2).trans rfl
  have x3 : w1.cell? ⟨w.heap.size, 3, none⟩ = some (.slice a1 n1 c1) := (cell_of_row _ _ 3 _ 60 (0, 0) HBX.out.1).trans rfl
  have y3 : w1.cell? ⟨w.heap.size + 1, 3, none⟩ = some (.slice b1 n1 d1) := (cell_of_row _ _ 3 _ 60 (0, 0) HBX.out.2).trans rfl
  go_enter Tryz.func18, Tryz.ntmps18
  go_upto_region 1 with fail
  rw [← HW.out]
  clear HW
  go_wp2_with fail
  refine (eqRootFile_same x.r a0 n0 c0 a1 n1 c1 b0 d0 b1 d1 _ (HR.out _ hbb).1.r0 (HR.out _ hbb).2.r0 (HR.out _ hbb).1.m0 (HR.out _ hbb).1.r1 (HR.out _ hbb).2.r1 (HR.out _ hbb).1.m1).mono ?_
  rintro e v0 ⟨rfl, hb0⟩
  clear x0 y0 x1 y1 x2 y2 x3 y3
  have kb0 : Below w1.heap.size w1 v0 := hb0
  have hh0 : Below w.heap.size w v0 := keepT hbb kb0
  have x4 : v0.cell? ⟨w.heap.size, 4, none⟩ = some (.int .i64 x.s.v) := (cell_of_row _ _ 4 _ 60 (0, 0) (below_kept HBX.out.1 kb0)).trans rfl
  have y4 : v0.cell? ⟨w.heap.size + 1, 4, none⟩ = some (.int .i64 x.s.v) := (cell_of_row _ _ 4 _ 60 (0, 0) (below_kept HBX.out.2 kb0)).trans rfl
  have x5 : v0.cell? ⟨w.heap.size, 5, none⟩ = some (.int .i64 x.s.e) := (cell_of_row _ _ 5 _ 60 (0, 0) (below_kept HBX.out.1 kb0)).trans rfl
  have y5 : v0.cell? ⟨w.heap.size + 1, 5, none⟩ = some (.int .i64 x.s.e) := (cell_of_row _ _ 5 _ 60 (0, 0) (below_kept HBX.out.2 kb0)).trans rfl
  have x6 : v0.cell? ⟨w.heap.size, 6, none⟩ = some (.int .i64 x.s.lv) := (cell_of_row _ _ 6 _ 60 (0, 0) (below_kept HBX.out.1 kb0)).trans rfl
  have y6 : v0.cell? ⟨w.heap.size + 1, 6, none⟩ = some (.int .i64 x.s.lv) := (cell_of_row _ _ 6 _ 60 (0, 0) (below_kept HBX.out.2 kb0)).trans rfl
  have x7 : v0.cell? ⟨w.heap.size, 7, none⟩ = some (.int .u64 x.s.lh) := (cell_of_row _ _ 7 _ 60 (0, 0) (below_kept HBX.out.1 kb0)).trans rfl
  have y7 : v0.cell? ⟨w.heap.size + 1, 7, none⟩ = some (.int .u64 x.s.lh) := (cell_of_row _ _ 7 _ 60 (0, 0) (below_kept HBX.out.2 kb0)).trans rfl
  have x8 : v0.cell? ⟨w.heap.size, 8, none⟩ = some (.slice a2 n2 c2) := (cell_of_row _ _ 8 _ 60 (0, 0) (below_kept HBX.out.1 kb0)).trans rfl
  have y8 : v0.cell? ⟨w.heap.size + 1, 8, none⟩ = some (.slice b2 n2 d2) := (cell_of_row _ _ 8 _ 60 (0, 0) (below_kept HBX.out.2 kb0)).trans rfl
  go_wp2_with fail
  refine (eqStampFile_same x.s a2 n2 c2 b2 d2 _ (HR.out _ hh0).1.r2 (HR.out _ hh0).2.r2 (HR.out _ hh0).1.m2).mono ?_
  rintro e v1 ⟨rfl, hb1⟩
  clear x4 y4 x5 y5 x6 y6 x7 y7 x8 y8
  have kb1 : Below w1.heap.size w1 v1 := keepT kb0 hb1
  have hh1 : Below w.heap.size w v1 := keepT hbb kb1
  have x9 : v1.cell? ⟨w.heap.size, 9, none⟩ = some (.int .i64 x.l.v) := (cell_of_row _ _ 9 _ 60 (0, 0) (below_kept HBX.out.1 kb1)).trans rfl
  have y9 : v1.cell? ⟨w.heap.size + 1, 9, none⟩ = some (.int .i64 x.l.v) := (cell_of_row _ _ 9 _ 60 (0, 0) (below_kept HBX.out.2 kb1)).trans rfl
  have x10 : v1.cell? ⟨w.heap.size, 10, none⟩ = some (.int .i64 x.l.e) := (cell_of_row _ _ 10 _ 60 (0, 0) (below_kept HBX.out.1 kb1)).trans rfl
  have y10 : v1.cell? ⟨w.heap.size + 1, 10, none⟩ = some (.int .i64 x.l.e) := (cell_of_row _ _ 10 _ 60 (0, 0) (below_kept HBX.out.2 kb1)).trans rfl
  have x11 : v1.cell? ⟨w.heap.size, 11, none⟩ = some (.slice a3 n3 c3) := (cell_of_row _ _ 11 _ 60 (0, 0) (below_kept HBX.out.1 kb1)).trans rfl
  have y11 : v1.cell? ⟨w.heap.size + 1, 11, none⟩ = some (.slice b3 n3 d3) := (cell_of_row _ _ 11 _ 60 (0, 0) (below_kept HBX.out.2 kb1)).trans rfl
  have x12 : v1.cell? ⟨w.heap.size, 12, none⟩ = some (.slice a4 n4 c4) := (cell_of_row _ _ 12 _ 60 (0, 0) (below_kept HBX.out.1 kb1)).trans rfl
  have y12 : v1.cell? ⟨w.heap.size + 1, 12, none⟩ = some (.slice b4 n4 d4) := (cell_of_row _ _ 12 _ 60 (0, 0) (below_kept HBX.out.2 kb1)).trans rfl
  go_wp2_with fail
  refine (eqListFile_same x.l a3 n3 c3 a4 n4 c4 b3 d3 b4 d4 _ (HR.out _ hh1).1.r3 (HR.out _ hh1).2.r3 (HR.out _ hh1).1.m3 (HR.out _ hh1).1.r4 (HR.out _ hh1).2.r4 (HR.out _ hh1).1.m4).mono ?_
  rintro e v2 ⟨rfl, hb2⟩
  clear x9 y9 x10 y10 x11 y11 x12 y12
  have kb2 : Below w1.heap.size w1 v2 := keepT kb1 hb2
  have hh2 : Below w.heap.size w v2 := keepT hbb kb2
  go_wp2
  go_ret
  exact ⟨rfl, hh2⟩

end Go.Proofs.YtglpbgebcpijaaaGreat
