import Derived.Test.YtglpbgebcpijaaaGreatMTP
import Derived.Test.YtglpbgebcpijaaaGreatMTH
import Derived.Test.YtglpbgebcpijaaaGreatMTQ
import Derived.Test.YtglpbgebcpijaaaGreatQTF3
import Derived.Test.YtglpbgebcpijaaaGreatW2
import Derived.Test.YtglpbgebcpijaaaGreatWMark
set_option linter.unusedVariables false
namespace Go.Proofs.YtglpbgebcpijaaaGreat
open Go.RowKit Go.Sort

theorem info_rootPaper : (Tryz.prog.info? 95).map (·.size) = some 4 := by kernel_rfl
theorem results_rootPaper {fn : Func} {t : Tmp} (h : fn.results = #[.cell t 95]) (tmps : Array Value) (g : Nat) (ht : tmps.getD t undef = .pointer (some ⟨g, 0, none⟩)) (w : World) (cs : Array Value) (hs : cs.size = 4)
    (hb : w.heap[g]? = some (.cells cs 95 (0, 0))) : (results fn tmps).run Tryz.prog w = .ok (.agg cs) w := by
  have ht' : tmps[t]?.getD undef = .pointer (some ⟨g, 0, none⟩) := by rw [← ht]; simp
  have hi : (Tryz.prog.info? 95).map (·.size) = some cs.size := by rw [hs]; exact info_rootPaper
  simp [results, h, asAddr, ht', run_loadVar_row w g _ _ cs (0, 0) _ hb Tryz.underlying95 rfl hi]
theorem info_stampPaper : (Tryz.prog.info? 97).map (·.size) = some 5 := by kernel_rfl
theorem results_stampPaper {fn : Func} {t : Tmp} (h : fn.results = #[.cell t 97]) (tmps : Array Value) (g : Nat) (ht : tmps.getD t undef = .pointer (some ⟨g, 0, none⟩)) (w : World) (cs : Array Value) (hs : cs.size = 5)
    (hb : w.heap[g]? = some (.cells cs 97 (0, 0))) : (results fn tmps).run Tryz.prog w = .ok (.agg cs) w := by
  have ht' : tmps[t]?.getD undef = .pointer (some ⟨g, 0, none⟩) := by rw [← ht]; simp
  have hi : (Tryz.prog.info? 97).map (·.size) = some cs.size := by rw [hs]; exact info_stampPaper
  simp [results, h, asAddr, ht', run_loadVar_row w g _ _ cs (0, 0) _ hb Tryz.underlying97 rfl hi]
theorem info_listPaper : (Tryz.prog.info? 99).map (·.size) = some 4 := by kernel_rfl
theorem results_listPaper {fn : Func} {t : Tmp} (h : fn.results = #[.cell t 99]) (tmps : Array Value) (g : Nat) (ht : tmps.getD t undef = .pointer (some ⟨g, 0, none⟩)) (w : World) (cs : Array Value) (hs : cs.size = 4)
    (hb : w.heap[g]? = some (.cells cs 99 (0, 0))) : (results fn tmps).run Tryz.prog w = .ok (.agg cs) w := by
  have ht' : tmps[t]?.getD undef = .pointer (some ⟨g, 0, none⟩) := by rw [← ht]; simp
  have hi : (Tryz.prog.info? 99).map (·.size) = some cs.size := by rw [hs]; exact info_listPaper
  simp [results, h, asAddr, ht', run_loadVar_row w g _ _ cs (0, 0) _ hb Tryz.underlying99 rfl hi]

set_option maxRecDepth 10000 in
set_option maxHeartbeats 2000000 in
theorem rootPaper_any (v e : Int) (a0 : Option Addr) (n0 c0 : Nat) (a1 : Option Addr) (n1 c1 : Nat) (w : World) : Calls Tryz.prog 66 #[.agg #[.int .i64 v, .int .i64 e, .slice a0 n0 c0, .slice a1 n1 c1]] w fun r w' => r = .returned (.agg #[.int .i64 v, .int .i64 e, .slice a1 n1 c1, .slice a0 n0 c0]) ∧ Below w.heap.size w w' := by
  have hn := two_blocks w (.cells #[.int .i64 v, .int .i64 e, .slice a0 n0 c0, .slice a1 n1 c1] 41) (.cells #[.int .i64 v, .int .i64 e, .slice a1 n1 c1, .slice a0 n0 c0] 95)
  have hb := two_below w (.cells #[.int .i64 v, .int .i64 e, .slice a0 n0 c0, .slice a1 n1 c1] 41) (.cells #[.int .i64 v, .int .i64 e, .slice a1 n1 c1, .slice a0 n0 c0] 95)
  have HN : Hid (_ ∧ _) := hn
  have HB : Hid (Below _ _ _) := hb
  clear hn hb
  go_enter Tryz.func66, Tryz.ntmps66
  go_wp2_with fail
  try simp only [Exit.inBlock, Exit.then]
  exact bodyPost_ret (results_rootPaper rfl _ (w.heap.size + 1) rfl _ _ rfl HN.out.2) rfl ⟨rfl, HB.out⟩

set_option maxRecDepth 10000 in
set_option maxHeartbeats 2000000 in
theorem listPaper_any (v e : Int) (a0 : Option Addr) (n0 c0 : Nat) (a1 : Option Addr) (n1 c1 : Nat) (w : World) : Calls Tryz.prog 68 #[.agg #[.int .i64 v, .int .i64 e, .slice a0 n0 c0, .slice a1 n1 c1]] w fun r w' => r = .returned (.agg #[.int .i64 v, .int .i64 e, .slice a1 n1 c1, .slice a0 n0 c0]) ∧ Below w.heap.size w w' := by
  have hn := two_blocks w (.cells #[.int .i64 v, .int .i64 e, .slice a0 n0 c0, .slice a1 n1 c1] 46) (.cells #[.int .i64 v, .int .i64 e, .slice a1 n1 c1, .slice a0 n0 c0] 99)
  have hb := two_below w (.cells #[.int .i64 v, .int .i64 e, .slice a0 n0 c0, .slice a1 n1 c1] 46) (.cells #[.int .i64 v, .int .i64 e, .slice a1 n1 c1, .slice a0 n0 c0] 99)
  have HN : Hid (_ ∧ _) := hn
  have HB : Hid (Below _ _ _) := hb
  clear hn hb
  go_enter Tryz.func68, Tryz.ntmps68
  go_wp2_with fail
  try simp only [Exit.inBlock, Exit.then]
  exact bodyPost_ret (results_listPaper rfl _ (w.heap.size + 1) rfl _ _ rfl HN.out.2) rfl ⟨rfl, HB.out⟩

set_option maxRecDepth 10000 in
set_option maxHeartbeats 2000000 in
theorem stampPaper_any (v e lv lh : Int) (a1 : Option Addr) (n1 c1 : Nat) (w : World) : Calls Tryz.prog 67 #[.agg #[.int .i64 v, .int .i64 e, .int .i64 lv, .int .u64 lh, .slice a1 n1 c1]] w fun r w' => r = .returned (.agg #[.int .i64 v, .int .i64 e, .slice a1 n1 c1, .int .i64 lv, .int .u64 lh]) ∧ Below w.heap.size w w' := by
  have hn := two_blocks w (.cells #[.int .i64 v, .int .i64 e, .int .i64 lv, .int .u64 lh, .slice a1 n1 c1] 43) (.cells #[.int .i64 v, .int .i64 e, .slice a1 n1 c1, .int .i64 lv, .int .u64 lh] 97)
  have hb := two_below w (.cells #[.int .i64 v, .int .i64 e, .int .i64 lv, .int .u64 lh, .slice a1 n1 c1] 43) (.cells #[.int .i64 v, .int .i64 e, .slice a1 n1 c1, .int .i64 lv, .int .u64 lh] 97)
  have HN : Hid (_ ∧ _) := hn
  have HB : Hid (Below _ _ _) := hb
  clear hn hb
  go_enter Tryz.func67, Tryz.ntmps67
  go_wp2_with fail
  try simp only [Exit.inBlock, Exit.then]
  exact bodyPost_ret (results_stampPaper rfl _ (w.heap.size + 1) rfl _ _ rfl HN.out.2) rfl ⟨rfl, HB.out⟩

end Go.Proofs.YtglpbgebcpijaaaGreat

set_option linter.unusedVariables false
namespace Go.Proofs.YtglpbgebcpijaaaGreat
open Go.RowKit Go.Sort

set_option maxRecDepth 10000 in
set_option maxHeartbeats 4000000 in
theorem filePaper_1 (x : TfP) (a0 : Option Addr) (n0 c0 : Nat) (a1 : Option Addr) (n1 c1 : Nat) (a2 : Option Addr) (n2 c2 : Nat) (a3 : Option Addr) (n3 c3 : Nat) (a4 : Option Addr) (n4 c4 : Nat) (w : World) :
    Calls Tryz.prog 31 #[.agg #[.int .i64 1, .int .i64 x.r.v, .int .i64 x.r.e, .slice a0 n0 c0, .slice a1 n1 c1, .int .i64 x.s.v, .int .i64 x.s.e, .int .i64 x.s.lv, .int .u64 x.s.lh, .slice a2 n2 c2, .int .i64 x.l.v, .int .i64 x.l.e, .slice a3 n3 c3, .slice a4 n4 c4]] w fun r w' => r = .returned (.tuple #[.iface 95 (.agg #[.int .i64 x.r.v, .int .i64 x.r.e, .slice a1 n1 c1, .slice a0 n0 c0]), .bool true]) ∧ Below w.heap.size w w' := by
  obtain ⟨w1, hw1⟩ : ∃ w1, w1 = w.alloc (.cells #[.int .i64 1, .int .i64 x.r.v, .int .i64 x.r.e, .slice a0 n0 c0, .slice a1 n1 c1, .int .i64 x.s.v, .int .i64 x.s.e, .int .i64 x.s.lv, .int .u64 x.s.lh, .slice a2 n2 c2, .int .i64 x.l.v, .int .i64 x.l.e, .slice a3 n3 c3, .slice a4 n4 c4] 48) := ⟨_, rfl⟩
  have hbb : Below w.heap.size w w1 := by rw [hw1]; exact (Below.refl _ _).alloc (Nat.le_refl _) _
  have HB : Hid (w1.heap[w.heap.size]? = some (.cells #[.int .i64 1, .int .i64 x.r.v, .int .i64 x.r.e, .slice a0 n0 c0, .slice a1 n1 c1, .int .i64 x.s.v, .int .i64 x.s.e, .int .i64 x.s.lv, .int .u64 x.s.lh, .slice a2 n2 c2, .int .i64 x.l.v, .int .i64 x.l.e, .slice a3 n3 c3, .slice a4 n4 c4] 48 (0, 0))) := by show _ = _; rw [hw1]; exact heap_alloc_new w _
  have HW : Hid (_ = _) := hw1
  clear hw1
  have x0 : w1.cell? ⟨w.heap.size, 0, none⟩ = some (.int .i64 1) := (cell_of_row _ _ 0 _ _ (0, 0) HB.out).trans rfl
  have x1 : w1.cell? ⟨w.heap.size, 1, none⟩ = some (.int .i64 x.r.v) := (cell_of_row _ _ 1 _ _ (0, 0) HB.out).trans rfl
  have x2 : w1.cell? ⟨w.heap.size, 2, none⟩ = some (.int .i64 x.r.e) := (cell_of_row _ _ 2 _ _ (0, 0) HB.out).trans rfl
  have x3 : w1.cell? ⟨w.heap.size, 3, none⟩ = some (.slice a0 n0 c0) := (cell_of_row _ _ 3 _ _ (0, 0) HB.out).trans rfl
  have x4 : w1.cell? ⟨w.heap.size, 4, none⟩ = some (.slice a1 n1 c1) := (cell_of_row _ _ 4 _ _ (0, 0) HB.out).trans rfl
  go_enter Tryz.func31, Tryz.ntmps31
  go_upto_region 1 with fail
  rw [← HW.out]
  clear HW
  go_wp2_with fail
  refine (rootPaper_any x.r.v x.r.e a0 n0 c0 a1 n1 c1 _).mono ?_
  rintro r w2 ⟨rfl, hb2⟩
  have B2 : Below w.heap.size w w2 := keepT hbb hb2
  clear x0 x1 x2 x3 x4 hb2
  go_wp2
  go_ret2
  exact ⟨rfl, B2⟩

set_option maxRecDepth 10000 in
set_option maxHeartbeats 4000000 in
theorem filePaper_2 (x : TfP) (a0 : Option Addr) (n0 c0 : Nat) (a1 : Option Addr) (n1 c1 : Nat) (a2 : Option Addr) (n2 c2 : Nat) (a3 : Option Addr) (n3 c3 : Nat) (a4 : Option Addr) (n4 c4 : Nat) (w : World) :
    Calls Tryz.prog 31 #[.agg #[.int .i64 2, .int .i64 x.r.v, .int .i64 x.r.e, .slice a0 n0 c0, .slice a1 n1 c1, .int .i64 x.s.v, .int .i64 x.s.e, .int .i64 x.s.lv, .int .u64 x.s.lh, .slice a2 n2 c2, .int .i64 x.l.v, .int .i64 x.l.e, .slice a3 n3 c3, .slice a4 n4 c4]] w fun r w' => r = .returned (.tuple #[.iface 97 (.agg #[.int .i64 x.s.v, .int .i64 x.s.e, .slice a2 n2 c2, .int .i64 x.s.lv, .int .u64 x.s.lh]), .bool true]) ∧ Below w.heap.size w w' := by
  obtain ⟨w1, hw1⟩ : ∃ w1, w1 = w.alloc (.cells #[.int .i64 2, .int .i64 x.r.v, .int .i64 x.r.e, .slice a0 n0 c0, .slice a1 n1 c1, .int .i64 x.s.v, .int .i64 x.s.e, .int .i64 x.s.lv, .int .u64 x.s.lh, .slice a2 n2 c2, .int .i64 x.l.v, .int .i64 x.l.e, .slice a3 n3 c3, .slice a4 n4 c4] 48) := ⟨_, rfl⟩
  have hbb : Below w.heap.size w w1 := by rw [hw1]; exact (Below.refl _ _).alloc (Nat.le_refl _) _
  have HB : Hid (w1.heap[w.heap.size]? = some (.cells #[.int .i64 2, .int .i64 x.r.v, .int .i64 x.r.e, .slice a0 n0 c0, .slice a1 n1 c1, .int .i64 x.s.v, .int .i64 x.s.e, .int .i64 x.s.lv, .int .u64 x.s.lh, .slice a2 n2 c2, .int .i64 x.l.v, .int .i64 x.l.e, .slice a3 n3 c3, .slice a4 n4 c4] 48 (0, 0))) := by show _ = _; rw [hw1]; exact heap_alloc_new w _
  have HW : Hid (_ = _) := hw1
  clear hw1
  have x0 : w1.cell? ⟨w.heap.size, 0, none⟩ = some (.int .i64 2) := (cell_of_row _ _ 0 _ _ (0, 0) HB.out).trans rfl
  have x5 : w1.cell? ⟨w.heap.size, 5, none⟩ = some (.int .i64 x.s.v) := (cell_of_row _ _ 5 _ _ (0, 0) HB.out).trans rfl
  have x6 : w1.cell? ⟨w.heap.size, 6, none⟩ = some (.int .i64 x.s.e) := (cell_of_row _ _ 6 _ _ (0, 0) HB.out).trans rfl
  have x7 : w1.cell? ⟨w.heap.size, 7, none⟩ = some (.int .i64 x.s.lv) := (cell_of_row _ _ 7 _ _ (0, 0) HB.out).trans rfl
  have x8 : w1.cell? ⟨w.heap.size, 8, none⟩ = some (.int .u64 x.s.lh) := (cell_of_row _ _ 8 _ _ (0, 0) HB.out).trans rfl
  have x9 : w1.cell? ⟨w.heap.size, 9, none⟩ = some (.slice a2 n2 c2) := (cell_of_row _ _ 9 _ _ (0, 0) HB.out).trans rfl
  go_enter Tryz.func31, Tryz.ntmps31
  go_upto_region 1 with fail
  rw [← HW.out]
  clear HW
  go_wp2_with fail
  refine (stampPaper_any x.s.v x.s.e x.s.lv x.s.lh a2 n2 c2 _).mono ?_
  rintro r w2 ⟨rfl, hb2⟩
  have B2 : Below w.heap.size w w2 := keepT hbb hb2
  clear x0 x5 x6 x7 x8 x9 hb2
  go_wp2
  go_ret2
  exact ⟨rfl, B2⟩

set_option maxRecDepth 10000 in
set_option maxHeartbeats 4000000 in
theorem filePaper_3 (x : TfP) (a0 : Option Addr) (n0 c0 : Nat) (a1 : Option Addr) (n1 c1 : Nat) (a2 : Option Addr) (n2 c2 : Nat) (a3 : Option Addr) (n3 c3 : Nat) (a4 : Option Addr) (n4 c4 : Nat) (w : World) :
    Calls Tryz.prog 31 #[.agg #[.int .i64 3, .int .i64 x.r.v, .int .i64 x.r.e, .slice a0 n0 c0, .slice a1 n1 c1, .int .i64 x.s.v, .int .i64 x.s.e, .int .i64 x.s.lv, .int .u64 x.s.lh, .slice a2 n2 c2, .int .i64 x.l.v, .int .i64 x.l.e, .slice a3 n3 c3, .slice a4 n4 c4]] w fun r w' => r = .returned (.tuple #[.iface 99 (.agg #[.int .i64 x.l.v, .int .i64 x.l.e, .slice a4 n4 c4, .slice a3 n3 c3]), .bool true]) ∧ Below w.heap.size w w' := by
  obtain ⟨w1, hw1⟩ : ∃ w1, w1 = w.alloc (.cells #[.int .i64 3, .int .i64 x.r.v, .int .i64 x.r.e, .slice a0 n0 c0, .slice a1 n1 c1, .int .i64 x.s.v, .int .i64 x.s.e, .int .i64 x.s.lv, .int .u64 x.s.lh, .slice a2 n2 c2, .int .i64 x.l.v, .int .i64 x.l.e, .slice a3 n3 c3, .slice a4 n4 c4] 48) := ⟨_, rfl⟩
  have hbb : Below w.heap.size w w1 := by rw [hw1]; exact (Below.refl _ _).alloc (Nat.le_refl _) _
  have HB : Hid (w1.heap[w.heap.size]? = some (.cells #[.int .i64 3, .int .i64 x.r.v, .int .i64 x.r.e, .slice a0 n0 c0, .slice a1 n1 c1, .int .i64 x.s.v, .int .i64 x.s.e, .int .i64 x.s.lv, .int .u64 x.s.lh, .slice a2 n2 c2, .int .i64 x.l.v, .int .i64 x.l.e, .slice a3 n3 c3, .slice a4 n4 c4] 48 (0, 0))) := by show _ = _; rw [hw1]; exact heap_alloc_new w _
  have HW : Hid (_ = _) := hw1
  clear hw1
  have x0 : w1.cell? ⟨w.heap.size, 0, none⟩ = some (.int .i64 3) := (cell_of_row _ _ 0 _ _ (0, 0) HB.out).trans rfl
  have x10 : w1.cell? ⟨w.heap.size, 10, none⟩ = some (.int .i64 x.l.v) := (cell_of_row _ _ 10 _ _ (0, 0) HB.out).trans rfl
  have x11 : w1.cell? ⟨w.heap.size, 11, none⟩ = some (.int .i64 x.l.e) := (cell_of_row _ _ 11 _ _ (0, 0) HB.out).trans rfl
  have x12 : w1.cell? ⟨w.heap.size, 12, none⟩ = some (.slice a3 n3 c3) := (cell_of_row _ _ 12 _ _ (0, 0) HB.out).trans rfl
  have x13 : w1.cell? ⟨w.heap.size, 13, none⟩ = some (.slice a4 n4 c4) := (cell_of_row _ _ 13 _ _ (0, 0) HB.out).trans rfl
  go_enter Tryz.func31, Tryz.ntmps31
  go_upto_region 1 with fail
  rw [← HW.out]
  clear HW
  go_wp2_with fail
  refine (listPaper_any x.l.v x.l.e a3 n3 c3 a4 n4 c4 _).mono ?_
  rintro r w2 ⟨rfl, hb2⟩
  have B2 : Below w.heap.size w w2 := keepT hbb hb2
  clear x0 x10 x11 x12 x13 hb2
  go_wp2
  go_ret2
  exact ⟨rfl, B2⟩

set_option maxRecDepth 10000 in
set_option maxHeartbeats 4000000 in
theorem filePaper_0 (x : TfP) (a0 : Option Addr) (n0 c0 : Nat) (a1 : Option Addr) (n1 c1 : Nat) (a2 : Option Addr) (n2 c2 : Nat) (a3 : Option Addr) (n3 c3 : Nat) (a4 : Option Addr) (n4 c4 : Nat) (w : World) (h1 : x.k ≠ 1) (h2 : x.k ≠ 2) (h3 : x.k ≠ 3) :
    Calls Tryz.prog 31 #[.agg #[.int .i64 x.k, .int .i64 x.r.v, .int .i64 x.r.e, .slice a0 n0 c0, .slice a1 n1 c1, .int .i64 x.s.v, .int .i64 x.s.e, .int .i64 x.s.lv, .int .u64 x.s.lh, .slice a2 n2 c2, .int .i64 x.l.v, .int .i64 x.l.e, .slice a3 n3 c3, .slice a4 n4 c4]] w fun r w' => r = .returned (.tuple #[.nilIface, .bool false]) ∧ Below w.heap.size w w' := by
  obtain ⟨w1, hw1⟩ : ∃ w1, w1 = w.alloc (.cells #[.int .i64 x.k, .int .i64 x.r.v, .int .i64 x.r.e, .slice a0 n0 c0, .slice a1 n1 c1, .int .i64 x.s.v, .int .i64 x.s.e, .int .i64 x.s.lv, .int .u64 x.s.lh, .slice a2 n2 c2, .int .i64 x.l.v, .int .i64 x.l.e, .slice a3 n3 c3, .slice a4 n4 c4] 48) := ⟨_, rfl⟩
  have hbb : Below w.heap.size w w1 := by rw [hw1]; exact (Below.refl _ _).alloc (Nat.le_refl _) _
  have HB : Hid (w1.heap[w.heap.size]? = some (.cells #[.int .i64 x.k, .int .i64 x.r.v, .int .i64 x.r.e, .slice a0 n0 c0, .slice a1 n1 c1, .int .i64 x.s.v, .int .i64 x.s.e, .int .i64 x.s.lv, .int .u64 x.s.lh, .slice a2 n2 c2, .int .i64 x.l.v, .int .i64 x.l.e, .slice a3 n3 c3, .slice a4 n4 c4] 48 (0, 0))) := by show _ = _; rw [hw1]; exact heap_alloc_new w _
  have HW : Hid (_ = _) := hw1
  clear hw1
  have x0 : w1.cell? ⟨w.heap.size, 0, none⟩ = some (.int .i64 x.k) := (cell_of_row _ _ 0 _ _ (0, 0) HB.out).trans rfl
  have z1 : (x.k == 1) = false := beq_false_of_ne h1
  have z2 : (x.k == 2) = false := beq_false_of_ne h2
  have z3 : (x.k == 3) = false := beq_false_of_ne h3
  go_enter Tryz.func31, Tryz.ntmps31
  go_upto_region 1 with fail
  rw [← HW.out]
  clear HW
  go_wp2
  go_ret2
  exact ⟨rfl, hbb⟩

set_option maxRecDepth 10000 in
set_option maxHeartbeats 400000 in
theorem implFileBody_1 (x : TfP) (a0 : Option Addr) (n0 c0 : Nat) (a1 : Option Addr) (n1 c1 : Nat) (a2 : Option Addr) (n2 c2 : Nat) (a3 : Option Addr) (n3 c3 : Nat) (a4 : Option Addr) (n4 c4 : Nat) (b : Bool) (l : List Int) (w : World) (h : TfR x a0 n0 a1 n1 a2 n2 a3 n3 a4 n4 w) (hk : x.k = 1) (hf : FbR x b l) :
    Calls Tryz.prog 8 #[.agg #[.int .i64 x.k, .int .i64 x.r.v, .int .i64 x.r.e, .slice a0 n0 c0, .slice a1 n1 c1, .int .i64 x.s.v, .int .i64 x.s.e, .int .i64 x.s.lv, .int .u64 x.s.lh, .slice a2 n2 c2, .int .i64 x.l.v, .int .i64 x.l.e, .slice a3 n3 c3, .slice a4 n4 c4]] w fun r w' => ∃ a' c', r = .returned (.tuple #[.slice a' l.length c', .bool b]) ∧ Own w.heap.size w' a' l.length c' l ∧ Below w.heap.size w w' := by
  obtain ⟨w1, hw1⟩ : ∃ w1, w1 = w.alloc (.cells #[.int .i64 x.k, .int .i64 x.r.v, .int .i64 x.r.e, .slice a0 n0 c0, .slice a1 n1 c1, .int .i64 x.s.v, .int .i64 x.s.e, .int .i64 x.s.lv, .int .u64 x.s.lh, .slice a2 n2 c2, .int .i64 x.l.v, .int .i64 x.l.e, .slice a3 n3 c3, .slice a4 n4 c4] 48) := ⟨_, rfl⟩
  have hbb : Below w.heap.size w w1 := by rw [hw1]; exact (Below.refl _ _).alloc (Nat.le_refl _) _
  have HB : Hid (w1.heap[w.heap.size]? = some (.cells #[.int .i64 x.k, .int .i64 x.r.v, .int .i64 x.r.e, .slice a0 n0 c0, .slice a1 n1 c1, .int .i64 x.s.v, .int .i64 x.s.e, .int .i64 x.s.lv, .int .u64 x.s.lh, .slice a2 n2 c2, .int .i64 x.l.v, .int .i64 x.l.e, .slice a3 n3 c3, .slice a4 n4 c4] 48 (0, 0))) := by show _ = _; rw [hw1]; exact heap_alloc_new w _
  have HW : Hid (_ = _) := hw1
  clear hw1
  have HR : Hid (∀ W, Below w.heap.size w W → TfR x a0 n0 a1 n1 a2 n2 a3 n3 a4 n4 W) := fun W hW => h.kept hW
  have HK : Hid (x.k = 1) := hk
  clear h hk
  have hf := fbR_1 hf HK.out
  have x0 : w1.cell? ⟨w.heap.size, 0, none⟩ = some (.int .i64 x.k) := (cell_of_row _ _ 0 _ _ (0, 0) HB.out).trans rfl
  have x1 : w1.cell? ⟨w.heap.size, 1, none⟩ = some (.int .i64 x.r.v) := (cell_of_row _ _ 1 _ _ (0, 0) HB.out).trans rfl
  have x2 : w1.cell? ⟨w.heap.size, 2, none⟩ = some (.int .i64 x.r.e) := (cell_of_row _ _ 2 _ _ (0, 0) HB.out).trans rfl
  have x3 : w1.cell? ⟨w.heap.size, 3, none⟩ = some (.slice a0 n0 c0) := (cell_of_row _ _ 3 _ _ (0, 0) HB.out).trans rfl
  have x4 : w1.cell? ⟨w.heap.size, 4, none⟩ = some (.slice a1 n1 c1) := (cell_of_row _ _ 4 _ _ (0, 0) HB.out).trans rfl
  have x5 : w1.cell? ⟨w.heap.size, 5, none⟩ = some (.int .i64 x.s.v) := (cell_of_row _ _ 5 _ _ (0, 0) HB.out).trans rfl
  have x6 : w1.cell? ⟨w.heap.size, 6, none⟩ = some (.int .i64 x.s.e) := (cell_of_row _ _ 6 _ _ (0, 0) HB.out).trans rfl
  have x7 : w1.cell? ⟨w.heap.size, 7, none⟩ = some (.int .i64 x.s.lv) := (cell_of_row _ _ 7 _ _ (0, 0) HB.out).trans rfl
  have x8 : w1.cell? ⟨w.heap.size, 8, none⟩ = some (.int .u64 x.s.lh) := (cell_of_row _ _ 8 _ _ (0, 0) HB.out).trans rfl
  have x9 : w1.cell? ⟨w.heap.size, 9, none⟩ = some (.slice a2 n2 c2) := (cell_of_row _ _ 9 _ _ (0, 0) HB.out).trans rfl
  have x10 : w1.cell? ⟨w.heap.size, 10, none⟩ = some (.int .i64 x.l.v) := (cell_of_row _ _ 10 _ _ (0, 0) HB.out).trans rfl
  have x11 : w1.cell? ⟨w.heap.size, 11, none⟩ = some (.int .i64 x.l.e) := (cell_of_row _ _ 11 _ _ (0, 0) HB.out).trans rfl
  have x12 : w1.cell? ⟨w.heap.size, 12, none⟩ = some (.slice a3 n3 c3) := (cell_of_row _ _ 12 _ _ (0, 0) HB.out).trans rfl
  have x13 : w1.cell? ⟨w.heap.size, 13, none⟩ = some (.slice a4 n4 c4) := (cell_of_row _ _ 13 _ _ (0, 0) HB.out).trans rfl
  go_enter Tryz.func8, Tryz.ntmps8
  go_upto_region 1 with fail
  rw [← HW.out]
  clear HW
  rw [HK.out] at x0
  go_wp2_with fail
  refine (filePaper_1 x a0 n0 c0 a1 n1 c1 a2 n2 c2 a3 n3 c3 a4 n4 c4 _).mono ?_
  rintro r w2 ⟨rfl, hb2⟩
  have B2 : Below w.heap.size w w2 := keepT hbb hb2
  clear x0 x1 x2 x3 x4 x5 x6 x7 x8 x9 x10 x11 x12 x13 hb2
  go_wp2_with fail
  refine (rootOk_any x.r a0 n0 c0 a1 n1 c1 _ (HR.out _ B2).r0 (HR.out _ B2).r1).mono ?_
  rintro r w3 ⟨b3, rfl, hb3, hbel⟩
  have B3 : Below w.heap.size w w3 := keepT B2 hbel
  clear hbel
  rcases hf with ⟨rfl, hP, hE⟩ | ⟨rfl, rfl, hP⟩
  · obtain rfl : b3 = true := hb3.out.2 hP
    have HP : Hid (rootP x.r) := hP
    have HE : Hid (enc 12 (boxI 13 [numI x.r.v, numI x.r.e, lstI (x.r.rs.map roI)]) = some l) := hE
    have HN : Hid (n0 ≤ 1000) := by show _ ≤ _; have := (HR.out _ (Below.refl _ _)).r0.len; have := hP.2.2.2.1; omega
    clear hb3 hP hE
    go_wp2_with fail
    have q0 : enc 12 (boxI 13 [numI x.r.v, numI x.r.e, lstI (x.r.rs.map roI)]) = some l := HE.out
    have q2 := rootBody_any x.r (x.r.rs.map roI) rfl a0 n0 c0 a1 n1 c1 l w3 (HR.out _ B3).r0 (rootP_w HP.out).1 HN.out (rootP_w HP.out).2.1 (rootP_w HP.out).2.2
    have q1 := q2 q0
    clear q0 q2
    refine q1.mono ?_
    rintro r w4 ⟨a4', c4', rfl, ho, hb4⟩
    have B4 : Below w.heap.size w w4 := keepT B3 hb4
    have HO : Hid (Own w.heap.size w4 a4' l.length c4' l) := ho.mono B3.size
    clear ho hb4 q1
    go_wp2
    go_ret2
    exact ⟨a4', c4', rfl, HO.out, B4⟩
  · obtain rfl : b3 = false := by
      cases b3 with
      | false => rfl
      | true => exact absurd (hb3.out.1 rfl) hP
    clear hb3 hP
    go_wp2
    go_ret2
    exact ⟨none, 0, rfl, own_nilF _ _, B3⟩

set_option maxRecDepth 10000 in
set_option maxHeartbeats 400000 in
theorem implFileBody_2 (x : TfP) (a0 : Option Addr) (n0 c0 : Nat) (a1 : Option Addr) (n1 c1 : Nat) (a2 : Option Addr) (n2 c2 : Nat) (a3 : Option Addr) (n3 c3 : Nat) (a4 : Option Addr) (n4 c4 : Nat) (b : Bool) (l : List Int) (w : World) (h : TfR x a0 n0 a1 n1 a2 n2 a3 n3 a4 n4 w) (hk : x.k = 2) (hf : FbR x b l) :
    Calls Tryz.prog 8 #[.agg #[.int .i64 x.k, .int .i64 x.r.v, .int .i64 x.r.e, .slice a0 n0 c0, .slice a1 n1 c1, .int .i64 x.s.v, .int .i64 x.s.e, .int .i64 x.s.lv, .int .u64 x.s.lh, .slice a2 n2 c2, .int .i64 x.l.v, .int .i64 x.l.e, .slice a3 n3 c3, .slice a4 n4 c4]] w fun r w' => ∃ a' c', r = .returned (.tuple #[.slice a' l.length c', .bool b]) ∧ Own w.heap.size w' a' l.length c' l ∧ Below w.heap.size w w' := by
  obtain ⟨w1, hw1⟩ : ∃ w1, w1 = w.alloc (.cells #[.int .i64 x.k, .int .i64 x.r.v, .int .i64 x.r.e, .slice a0 n0 c0, .slice a1 n1 c1, .int .i64 x.s.v, .int .i64 x.s.e, .int .i64 x.s.lv, .int .u64 x.s.lh, .slice a2 n2 c2, .int .i64 x.l.v, .int .i64 x.l.e, .slice a3 n3 c3, .slice a4 n4 c4] 48) := ⟨_, rfl⟩
  have hbb : Below w.heap.size w w1 := by rw [hw1]; exact (Below.refl _ _).alloc (Nat.le_refl _) _
  have HB : Hid (w1.heap[w.heap.size]? = some (.cells #[.int .i64 x.k, .int .i64 x.r.v, .int .i64 x.r.e, .slice a0 n0 c0, .slice a1 n1 c1, .int .i64 x.s.v, .int .i64 x.s.e, .int .i64 x.s.lv, .int .u64 x.s.lh, .slice a2 n2 c2, .int .i64 x.l.v, .int .i64 x.l.e, .slice a3 n3 c3, .slice a4 n4 c4] 48 (0, 0))) := by show _ = _; rw [hw1]; exact heap_alloc_new w _
  have HW : Hid (_ = _) := hw1
  clear hw1
  have HR : Hid (∀ W, Below w.heap.size w W → TfR x a0 n0 a1 n1 a2 n2 a3 n3 a4 n4 W) := fun W hW => h.kept hW
  have HK : Hid (x.k = 2) := hk
  clear h hk
  have hf := fbR_2 hf HK.out
  have x0 : w1.cell? ⟨w.heap.size, 0, none⟩ = some (.int .i64 x.k) := (cell_of_row _ _ 0 _ _ (0, 0) HB.out).trans rfl
  have x1 : w1.cell? ⟨w.heap.size, 1, none⟩ = some (.int .i64 x.r.v) := (cell_of_row _ _ 1 _ _ (0, 0) HB.out).trans rfl
  have x2 : w1.cell? ⟨w.heap.size, 2, none⟩ = some (.int .i64 x.r.e) := (cell_of_row _ _ 2 _ _ (0, 0) HB.out).trans rfl
  have x3 : w1.cell? ⟨w.heap.size, 3, none⟩ = some (.slice a0 n0 c0) := (cell_of_row _ _ 3 _ _ (0, 0) HB.out).trans rfl
  have x4 : w1.cell? ⟨w.heap.size, 4, none⟩ = some (.slice a1 n1 c1) := (cell_of_row _ _ 4 _ _ (0, 0) HB.out).trans rfl
  have x5 : w1.cell? ⟨w.heap.size, 5, none⟩ = some (.int .i64 x.s.v) := (cell_of_row _ _ 5 _ _ (0, 0) HB.out).trans rfl
  have x6 : w1.cell? ⟨w.heap.size, 6, none⟩ = some (.int .i64 x.s.e) := (cell_of_row _ _ 6 _ _ (0, 0) HB.out).trans rfl
  have x7 : w1.cell? ⟨w.heap.size, 7, none⟩ = some (.int .i64 x.s.lv) := (cell_of_row _ _ 7 _ _ (0, 0) HB.out).trans rfl
  have x8 : w1.cell? ⟨w.heap.size, 8, none⟩ = some (.int .u64 x.s.lh) := (cell_of_row _ _ 8 _ _ (0, 0) HB.out).trans rfl
  have x9 : w1.cell? ⟨w.heap.size, 9, none⟩ = some (.slice a2 n2 c2) := (cell_of_row _ _ 9 _ _ (0, 0) HB.out).trans rfl
  have x10 : w1.cell? ⟨w.heap.size, 10, none⟩ = some (.int .i64 x.l.v) := (cell_of_row _ _ 10 _ _ (0, 0) HB.out).trans rfl
  have x11 : w1.cell? ⟨w.heap.size, 11, none⟩ = some (.int .i64 x.l.e) := (cell_of_row _ _ 11 _ _ (0, 0) HB.out).trans rfl
  have x12 : w1.cell? ⟨w.heap.size, 12, none⟩ = some (.slice a3 n3 c3) := (cell_of_row _ _ 12 _ _ (0, 0) HB.out).trans rfl
  have x13 : w1.cell? ⟨w.heap.size, 13, none⟩ = some (.slice a4 n4 c4) := (cell_of_row _ _ 13 _ _ (0, 0) HB.out).trans rfl
  go_enter Tryz.func8, Tryz.ntmps8
  go_upto_region 1 with fail
  rw [← HW.out]
  clear HW
  rw [HK.out] at x0
  go_wp2_with fail
  refine (filePaper_2 x a0 n0 c0 a1 n1 c1 a2 n2 c2 a3 n3 c3 a4 n4 c4 _).mono ?_
  rintro r w2 ⟨rfl, hb2⟩
  have B2 : Below w.heap.size w w2 := keepT hbb hb2
  clear x0 x1 x2 x3 x4 x5 x6 x7 x8 x9 x10 x11 x12 x13 hb2
  go_wp2_with fail
  refine (stampOk_any x.s a2 n2 c2 _ (HR.out _ B2).r2).mono ?_
  rintro r w3 ⟨b3, rfl, hb3, hbel⟩
  have B3 : Below w.heap.size w w3 := keepT B2 hbel
  clear hbel
  rcases hf with ⟨rfl, hP, hE⟩ | ⟨rfl, rfl, hP⟩
  · obtain rfl : b3 = true := hb3.out.2 hP
    have HP : Hid (stampP x.s) := hP
    have HE : Hid (enc 12 (boxI 14 [numI x.s.v, numI x.s.e, numI x.s.lv, bytI (eightI x.s.lh)]) = some l) := hE
    clear hb3 hP hE
    go_wp2_with fail
    have q0 : enc 12 (boxI 14 [numI x.s.v, numI x.s.e, numI x.s.lv, bytI (eightI x.s.lh)]) = some l := HE.out
    have q2 := stampBody_any x.s a2 n2 c2 l w3 (stampP_w HP.out).1 (stampP_w HP.out).2.1 (stampP_w HP.out).2.2 (HR.out _ B3).lh
    have q1 := q2 q0
    clear q0 q2
    refine q1.mono ?_
    rintro r w4 ⟨a4', c4', rfl, ho, hb4⟩
    have B4 : Below w.heap.size w w4 := keepT B3 hb4
    have HO : Hid (Own w.heap.size w4 a4' l.length c4' l) := ho.mono B3.size
    clear ho hb4 q1
    go_wp2
    go_ret2
    exact ⟨a4', c4', rfl, HO.out, B4⟩
  · obtain rfl : b3 = false := by
      cases b3 with
      | false => rfl
      | true => exact absurd (hb3.out.1 rfl) hP
    clear hb3 hP
    go_wp2
    go_ret2
    exact ⟨none, 0, rfl, own_nilF _ _, B3⟩

set_option maxRecDepth 10000 in
set_option maxHeartbeats 400000 in
theorem implFileBody_3 (x : TfP) (a0 : Option Addr) (n0 c0 : Nat) (a1 : Option Addr) (n1 c1 : Nat) (a2 : Option Addr) (n2 c2 : Nat) (a3 : Option Addr) (n3 c3 : Nat) (a4 : Option Addr) (n4 c4 : Nat) (b : Bool) (l : List Int) (w : World) (h : TfR x a0 n0 a1 n1 a2 n2 a3 n3 a4 n4 w) (hk : x.k = 3) (hf : FbR x b l) :
    Calls Tryz.prog 8 #[.agg #[.int .i64 x.k, .int .i64 x.r.v, .int .i64 x.r.e, .slice a0 n0 c0, .slice a1 n1 c1, .int .i64 x.s.v, .int .i64 x.s.e, .int .i64 x.s.lv, .int .u64 x.s.lh, .slice a2 n2 c2, .int .i64 x.l.v, .int .i64 x.l.e, .slice a3 n3 c3, .slice a4 n4 c4]] w fun r w' => ∃ a' c', r = .returned (.tuple #[.slice a' l.length c', .bool b]) ∧ Own w.heap.size w' a' l.length c' l ∧ Below w.heap.size w w' := by
  obtain ⟨w1, hw1⟩ : ∃ w1, w1 = w.alloc (.cells #[.int .i64 x.k, .int .i64 x.r.v, .int .i64 x.r.e, .slice a0 n0 c0, .slice a1 n1 c1, .int .i64 x.s.v, .int .i64 x.s.e, .int .i64 x.s.lv, .int .u64 x.s.lh, .slice a2 n2 c2, .int .i64 x.l.v, .int .i64 x.l.e, .slice a3 n3 c3, .slice a4 n4 c4] 48) := ⟨_, rfl⟩
  have hbb : Below w.heap.size w w1 := by rw [hw1]; exact (Below.refl _ _).alloc (Nat.le_refl _) _
  have HB : Hid (w1.heap[w.heap.size]? = some (.cells #[.int .i64 x.k, .int .i64 x.r.v, .int .i64 x.r.e, .slice a0 n0 c0, .slice a1 n1 c1, .int .i64 x.s.v, .int .i64 x.s.e, .int .i64 x.s.lv, .int .u64 x.s.lh, .slice a2 n2 c2, .int .i64 x.l.v, .int .i64 x.l.e, .slice a3 n3 c3, .slice a4 n4 c4] 48 (0, 0))) := by show _ = _; rw [hw1]; exact heap_alloc_new w _
  have HW : Hid (_ = _) := hw1
  clear hw1
  have HR : Hid (∀ W, Below w.heap.size w W → TfR x a0 n0 a1 n1 a2 n2 a3 n3 a4 n4 W) := fun W hW => h.kept hW
  have HK : Hid (x.k = 3) := hk
  clear h hk
  have hf := fbR_3 hf HK.out
  have x0 : w1.cell? ⟨w.heap.size, 0, none⟩ = some (.int .i64 x.k) := (cell_of_row _ _ 0 _ _ (0, 0) HB.out).trans rfl
  have x1 : w1.cell? ⟨w.heap.size, 1, none⟩ = some (.int .i64 x.r.v) := (cell_of_row _ _ 1 _ _ (0, 0) HB.out).trans rfl
  have x2 : w1.cell? ⟨w.heap.size, 2, none⟩ = some (.int .i64 x.r.e) := (cell_of_row _ _ 2 _ _ (0, 0) HB.out).trans rfl
  have x3 : w1.cell? ⟨w.heap.size, 3, none⟩ = some (.slice a0 n0 c0) := (cell_of_row _ _ 3 _ _ (0, 0) HB.out).trans rfl
  have x4 : w1.cell? ⟨w.heap.size, 4, none⟩ = some (.slice a1 n1 c1) := (cell_of_row _ _ 4 _ _ (0, 0) HB.out).trans rfl
  have x5 : w1.cell? ⟨w.heap.size, 5, none⟩ = some (.int .i64 x.s.v) := (cell_of_row _ _ 5 _ _ (0, 0) HB.out).trans rfl
  have x6 : w1.cell? ⟨w.heap.size, 6, none⟩ = some (.int .i64 x.s.e) := (cell_of_row _ _ 6 _ _ (0, 0) HB.out).trans rfl
  have x7 : w1.cell? ⟨w.heap.size, 7, none⟩ = some (.int .i64 x.s.lv) := (cell_of_row _ _ 7 _ _ (0, 0) HB.out).trans rfl
  have x8 : w1.cell? ⟨w.heap.size, 8, none⟩ = some (.int .u64 x.s.lh) := (cell_of_row _ _ 8 _ _ (0, 0) HB.out).trans rfl
  have x9 : w1.cell? ⟨w.heap.size, 9, none⟩ = some (.slice a2 n2 c2) := (cell_of_row _ _ 9 _ _ (0, 0) HB.out).trans rfl
  have x10 : w1.cell? ⟨w.heap.size, 10, none⟩ = some (.int .i64 x.l.v) := (cell_of_row _ _ 10 _ _ (0, 0) HB.out).trans rfl
  have x11 : w1.cell? ⟨w.heap.size, 11, none⟩ = some (.int .i64 x.l.e) := (cell_of_row _ _ 11 _ _ (0, 0) HB.out).trans rfl
  have x12 : w1.cell? ⟨w.heap.size, 12, none⟩ = some (.slice a3 n3 c3) := (cell_of_row _ _ 12 _ _ (0, 0) HB.out).trans rfl
  have x13 : w1.cell? ⟨w.heap.size, 13, none⟩ = some (.slice a4 n4 c4) := (cell_of_row _ _ 13 _ _ (0, 0) HB.out).trans rfl
  go_enter Tryz.func8, Tryz.ntmps8
  go_upto_region 1 with fail
  rw [← HW.out]
  clear HW
  rw [HK.out] at x0
  go_wp2_with fail
  refine (filePaper_3 x a0 n0 c0 a1 n1 c1 a2 n2 c2 a3 n3 c3 a4 n4 c4 _).mono ?_
  rintro r w2 ⟨rfl, hb2⟩
  have B2 : Below w.heap.size w w2 := keepT hbb hb2
  clear x0 x1 x2 x3 x4 x5 x6 x7 x8 x9 x10 x11 x12 x13 hb2
  go_wp2_with fail
  refine (listOk_any x.l a3 n3 c3 a4 n4 c4 _ (HR.out _ B2).r3 (HR.out _ B2).m3 (HR.out _ B2).r4).mono ?_
  rintro r w3 ⟨b3, rfl, hb3, hbel⟩
  have B3 : Below w.heap.size w w3 := keepT B2 hbel
  clear hbel
  rcases hf with ⟨rfl, hP, hE⟩ | ⟨rfl, rfl, hP⟩
  · obtain rfl : b3 = true := hb3.out.2 hP
    have HP : Hid (listP x.l) := hP
    have HE : Hid (enc 12 (boxI 15 [numI x.l.v, numI x.l.e, lstI (x.l.es.map (fun p => enI p.1 p.2))]) = some l) := hE
    have HN : Hid (n3 ≤ 1000) := by show _ ≤ _; have := (HR.out _ (Below.refl _ _)).r3.len; have := hP.2.2.2.1; omega
    clear hb3 hP hE
    go_wp2_with fail
    have q0 : enc 12 (boxI 15 [numI x.l.v, numI x.l.e, lstI (x.l.es.map (fun p => enI p.1 p.2))]) = some l := HE.out
    have q2 := listBody_any x.l (x.l.es.map (fun p => enI p.1 p.2)) rfl a3 n3 c3 a4 n4 c4 l w3 (HR.out _ B3).r3 (listP_w HP.out).1 HN.out (listP_w HP.out).2.1 (listP_w HP.out).2.2
    have q1 := q2 q0
    clear q0 q2
    refine q1.mono ?_
    rintro r w4 ⟨a4', c4', rfl, ho, hb4⟩
    have B4 : Below w.heap.size w w4 := keepT B3 hb4
    have HO : Hid (Own w.heap.size w4 a4' l.length c4' l) := ho.mono B3.size
    clear ho hb4 q1
    go_wp2
    go_ret2
    exact ⟨a4', c4', rfl, HO.out, B4⟩
  · obtain rfl : b3 = false := by
      cases b3 with
      | false => rfl
      | true => exact absurd (hb3.out.1 rfl) hP
    clear hb3 hP
    go_wp2
    go_ret2
    exact ⟨none, 0, rfl, own_nilF _ _, B3⟩

set_option maxRecDepth 10000 in
set_option maxHeartbeats 400000 in
theorem implFileBody_0 (x : TfP) (a0 : Option Addr) (n0 c0 : Nat) (a1 : Option Addr) (n1 c1 : Nat) (a2 : Option Addr) (n2 c2 : Nat) (a3 : Option Addr) (n3 c3 : Nat) (a4 : Option Addr) (n4 c4 : Nat) (w : World) (h1 : x.k ≠ 1) (h2 : x.k ≠ 2) (h3 : x.k ≠ 3) :
    Calls Tryz.prog 8 #[.agg #[.int .i64 x.k, .int .i64 x.r.v, .int .i64 x.r.e, .slice a0 n0 c0, .slice a1 n1 c1, .int .i64 x.s.v, .int .i64 x.s.e, .int .i64 x.s.lv, .int .u64 x.s.lh, .slice a2 n2 c2, .int .i64 x.l.v, .int .i64 x.l.e, .slice a3 n3 c3, .slice a4 n4 c4]] w fun r w' => ∃ a' c', r = .returned (.tuple #[.slice a' 0 c', .bool false]) ∧ Own w.heap.size w' a' 0 c' [] ∧ Below w.heap.size w w' := by
  obtain ⟨w1, hw1⟩ : ∃ w1, w1 = w.alloc (.cells #[.int .i64 x.k, .int .i64 x.r.v, .int .i64 x.r.e, .slice a0 n0 c0, .slice a1 n1 c1, .int .i64 x.s.v, .int .i64 x.s.e, .int .i64 x.s.lv, .int .u64 x.s.lh, .slice a2 n2 c2, .int .i64 x.l.v, .int .i64 x.l.e, .slice a3 n3 c3, .slice a4 n4 c4] 48) := ⟨_, rfl⟩
  have hbb : Below w.heap.size w w1 := by rw [hw1]; exact (Below.refl _ _).alloc (Nat.le_refl _) _
  have HB : Hid (w1.heap[w.heap.size]? = some (.cells #[.int .i64 x.k, .int .i64 x.r.v, .int .i64 x.r.e, .slice a0 n0 c0, .slice a1 n1 c1, .int .i64 x.s.v, .int .i64 x.s.e, .int .i64 x.s.lv, .int .u64 x.s.lh, .slice a2 n2 c2, .int .i64 x.l.v, .int .i64 x.l.e, .slice a3 n3 c3, .slice a4 n4 c4] 48 (0, 0))) := by show _ = _; rw [hw1]; exact heap_alloc_new w _
  have HW : Hid (_ = _) := hw1
  clear hw1
  have H1 : Hid (x.k ≠ 1 ∧ x.k ≠ 2 ∧ x.k ≠ 3) := ⟨h1, h2, h3⟩
  clear h1 h2 h3
  have x0 : w1.cell? ⟨w.heap.size, 0, none⟩ = some (.int .i64 x.k) := (cell_of_row _ _ 0 _ _ (0, 0) HB.out).trans rfl
  have x1 : w1.cell? ⟨w.heap.size, 1, none⟩ = some (.int .i64 x.r.v) := (cell_of_row _ _ 1 _ _ (0, 0) HB.out).trans rfl
  have x2 : w1.cell? ⟨w.heap.size, 2, none⟩ = some (.int .i64 x.r.e) := (cell_of_row _ _ 2 _ _ (0, 0) HB.out).trans rfl
  have x3 : w1.cell? ⟨w.heap.size, 3, none⟩ = some (.slice a0 n0 c0) := (cell_of_row _ _ 3 _ _ (0, 0) HB.out).trans rfl
  have x4 : w1.cell? ⟨w.heap.size, 4, none⟩ = some (.slice a1 n1 c1) := (cell_of_row _ _ 4 _ _ (0, 0) HB.out).trans rfl
  have x5 : w1.cell? ⟨w.heap.size, 5, none⟩ = some (.int .i64 x.s.v) := (cell_of_row _ _ 5 _ _ (0, 0) HB.out).trans rfl
  have x6 : w1.cell? ⟨w.heap.size, 6, none⟩ = some (.int .i64 x.s.e) := (cell_of_row _ _ 6 _ _ (0, 0) HB.out).trans rfl
  have x7 : w1.cell? ⟨w.heap.size, 7, none⟩ = some (.int .i64 x.s.lv) := (cell_of_row _ _ 7 _ _ (0, 0) HB.out).trans rfl
  have x8 : w1.cell? ⟨w.heap.size, 8, none⟩ = some (.int .u64 x.s.lh) := (cell_of_row _ _ 8 _ _ (0, 0) HB.out).trans rfl
  have x9 : w1.cell? ⟨w.heap.size, 9, none⟩ = some (.slice a2 n2 c2) := (cell_of_row _ _ 9 _ _ (0, 0) HB.out).trans rfl
  have x10 : w1.cell? ⟨w.heap.size, 10, none⟩ = some (.int .i64 x.l.v) := (cell_of_row _ _ 10 _ _ (0, 0) HB.out).trans rfl
  have x11 : w1.cell? ⟨w.heap.size, 11, none⟩ = some (.int .i64 x.l.e) := (cell_of_row _ _ 11 _ _ (0, 0) HB.out).trans rfl
  have x12 : w1.cell? ⟨w.heap.size, 12, none⟩ = some (.slice a3 n3 c3) := (cell_of_row _ _ 12 _ _ (0, 0) HB.out).trans rfl
  have x13 : w1.cell? ⟨w.heap.size, 13, none⟩ = some (.slice a4 n4 c4) := (cell_of_row _ _ 13 _ _ (0, 0) HB.out).trans rfl
  go_enter Tryz.func8, Tryz.ntmps8
  go_upto_region 1 with fail
  rw [← HW.out]
  clear HW
  go_wp2_with fail
  refine (filePaper_0 x a0 n0 c0 a1 n1 c1 a2 n2 c2 a3 n3 c3 a4 n4 c4 _ H1.out.1 H1.out.2.1 H1.out.2.2).mono ?_
  rintro r w2 ⟨rfl, hb2⟩
  have B2 : Below w.heap.size w w2 := keepT hbb hb2
  clear x0 x1 x2 x3 x4 x5 x6 x7 x8 x9 x10 x11 x12 x13 hb2
  go_wp2
  go_ret2
  exact ⟨none, 0, rfl, own_nilF _ _, B2⟩

theorem implFileBody_any (x : TfP) (a0 : Option Addr) (n0 c0 : Nat) (a1 : Option Addr) (n1 c1 : Nat) (a2 : Option Addr) (n2 c2 : Nat) (a3 : Option Addr) (n3 c3 : Nat) (a4 : Option Addr) (n4 c4 : Nat) (b : Bool) (l : List Int) (w : World) (h : TfR x a0 n0 a1 n1 a2 n2 a3 n3 a4 n4 w) (hf : FbR x b l) :
    Calls Tryz.prog 8 #[.agg (tfv x a0 n0 c0 a1 n1 c1 a2 n2 c2 a3 n3 c3 a4 n4 c4)] w fun r w' => ∃ a' c', r = .returned (.tuple #[.slice a' l.length c', .bool b]) ∧ Own w.heap.size w' a' l.length c' l ∧ Below w.heap.size w w' := by
  by_cases h1 : x.k = 1
  · exact implFileBody_1 x a0 n0 c0 a1 n1 c1 a2 n2 c2 a3 n3 c3 a4 n4 c4 b l w h h1 hf
  by_cases h2 : x.k = 2
  · exact implFileBody_2 x a0 n0 c0 a1 n1 c1 a2 n2 c2 a3 n3 c3 a4 n4 c4 b l w h h2 hf
  by_cases h3 : x.k = 3
  · exact implFileBody_3 x a0 n0 c0 a1 n1 c1 a2 n2 c2 a3 n3 c3 a4 n4 c4 b l w h h3 hf
  · obtain ⟨rfl, rfl⟩ := fbR_0 hf h1 h2 h3
    exact implFileBody_0 x a0 n0 c0 a1 n1 c1 a2 n2 c2 a3 n3 c3 a4 n4 c4 w h1 h2 h3

end Go.Proofs.YtglpbgebcpijaaaGreat

set_option linter.unusedVariables false
namespace Go.Proofs.YtglpbgebcpijaaaGreat
open Go.RowKit Go.Sort

theorem own_emptyF (B : Nat) (w : World) (hB : B ≤ w.heap.size) : Own B (w.alloc (.cells #[] 5)) (some ⟨w.heap.size, 0, none⟩) 0 0 [] := ⟨⟨rfl, .inr ⟨w.heap.size, 0, #[], rfl, hB, heap_alloc_new w _, Nat.le_refl _, by decide, rfl, rfl⟩⟩, by simp⟩

set_option maxRecDepth 10000 in
set_option maxHeartbeats 400000 in
theorem specFileBody_1 (x : TfP) (a0 : Option Addr) (n0 c0 : Nat) (a1 : Option Addr) (n1 c1 : Nat) (a2 : Option Addr) (n2 c2 : Nat) (a3 : Option Addr) (n3 c3 : Nat) (a4 : Option Addr) (n4 c4 : Nat) (b : Bool) (l : List Int) (w : World) (h : TfR x a0 n0 a1 n1 a2 n2 a3 n3 a4 n4 w) (hk : x.k = 1) (hf : FbR x b l) :
    Calls Tryz.prog 6 #[.agg #[.int .i64 x.k, .int .i64 x.r.v, .int .i64 x.r.e, .slice a0 n0 c0, .slice a1 n1 c1, .int .i64 x.s.v, .int .i64 x.s.e, .int .i64 x.s.lv, .int .u64 x.s.lh, .slice a2 n2 c2, .int .i64 x.l.v, .int .i64 x.l.e, .slice a3 n3 c3, .slice a4 n4 c4]] w fun r w' => ∃ a' c', r = .returned (.tuple #[.slice a' l.length c', .bool b]) ∧ Own w.heap.size w' a' l.length c' l ∧ Below w.heap.size w w' := by
  obtain ⟨w1, hw1⟩ : ∃ w1, w1 = w.alloc (.cells #[.int .i64 x.k, .int .i64 x.r.v, .int .i64 x.r.e, .slice a0 n0 c0, .slice a1 n1 c1, .int .i64 x.s.v, .int .i64 x.s.e, .int .i64 x.s.lv, .int .u64 x.s.lh, .slice a2 n2 c2, .int .i64 x.l.v, .int .i64 x.l.e, .slice a3 n3 c3, .slice a4 n4 c4] 48) := ⟨_, rfl⟩
  have hbb : Below w.heap.size w w1 := by rw [hw1]; exact (Below.refl _ _).alloc (Nat.le_refl _) _
  have HB : Hid (w1.heap[w.heap.size]? = some (.cells #[.int .i64 x.k, .int .i64 x.r.v, .int .i64 x.r.e, .slice a0 n0 c0, .slice a1 n1 c1, .int .i64 x.s.v, .int .i64 x.s.e, .int .i64 x.s.lv, .int .u64 x.s.lh, .slice a2 n2 c2, .int .i64 x.l.v, .int .i64 x.l.e, .slice a3 n3 c3, .slice a4 n4 c4] 48 (0, 0))) := by show _ = _; rw [hw1]; exact heap_alloc_new w _
  have HW : Hid (_ = _) := hw1
  clear hw1
  have HR : Hid (∀ W, Below w.heap.size w W → TfR x a0 n0 a1 n1 a2 n2 a3 n3 a4 n4 W) := fun W hW => h.kept hW
  have HK : Hid (x.k = 1) := hk
  clear h hk
  have hf := fbR_1 hf HK.out
  have x0 : w1.cell? ⟨w.heap.size, 0, none⟩ = some (.int .i64 x.k) := (cell_of_row _ _ 0 _ _ (0, 0) HB.out).trans rfl
  have x1 : w1.cell? ⟨w.heap.size, 1, none⟩ = some (.int .i64 x.r.v) := (cell_of_row _ _ 1 _ _ (0, 0) HB.out).trans rfl
  have x2 : w1.cell? ⟨w.heap.size, 2, none⟩ = some (.int .i64 x.r.e) := (cell_of_row _ _ 2 _ _ (0, 0) HB.out).trans rfl
  have x3 : w1.cell? ⟨w.heap.size, 3, none⟩ = some (.slice a0 n0 c0) := (cell_of_row _ _ 3 _ _ (0, 0) HB.out).trans rfl
  have x4 : w1.cell? ⟨w.heap.size, 4, none⟩ = some (.slice a1 n1 c1) := (cell_of_row _ _ 4 _ _ (0, 0) HB.out).trans rfl
  go_enter Tryz.func6, Tryz.ntmps6
  go_upto_region 1 with fail
  rw [← HW.out]
  clear HW
  rw [HK.out] at x0
  go_wp2_with fail
  refine (l22RootOk_any x.r a0 n0 c0 a1 n1 c1 _ (HR.out _ hbb).r0 (HR.out _ hbb).r1).mono ?_
  rintro r w2 ⟨b2, rfl, hb2, hbel⟩
  have HB2 : Hid (w2.heap[w.heap.size]? = some (.cells #[.int .i64 x.k, .int .i64 x.r.v, .int .i64 x.r.e, .slice a0 n0 c0, .slice a1 n1 c1, .int .i64 x.s.v, .int .i64 x.s.e, .int .i64 x.s.lv, .int .u64 x.s.lh, .slice a2 n2 c2, .int .i64 x.l.v, .int .i64 x.l.e, .slice a3 n3 c3, .slice a4 n4 c4] 48 (0, 0))) := below_kept HB.out hbel
  have B2 : Below w.heap.size w w2 := keepT hbb hbel
  clear hbel x0 x1 x2 x3 x4
  rcases hf with ⟨rfl, hP, hE⟩ | ⟨rfl, rfl, hP⟩
  · obtain rfl : b2 = true := hb2.out.2 hP
    have HP : Hid (rootP x.r) := hP
    have HE : Hid (enc 12 (boxI 13 [numI x.r.v, numI x.r.e, lstI (x.r.rs.map roI)]) = some l) := hE
    have HN : Hid (n0 ≤ 1000) := by show _ ≤ _; have := (HR.out _ (Below.refl _ _)).r0.len; have := hP.2.2.2.1; omega
    clear hb2 hP hE
    have x1 : w2.cell? ⟨w.heap.size, 1, none⟩ = some (.int .i64 x.r.v) := (cell_of_row _ _ 1 _ _ (0, 0) HB2.out).trans rfl
    have x2 : w2.cell? ⟨w.heap.size, 2, none⟩ = some (.int .i64 x.r.e) := (cell_of_row _ _ 2 _ _ (0, 0) HB2.out).trans rfl
    have x3 : w2.cell? ⟨w.heap.size, 3, none⟩ = some (.slice a0 n0 c0) := (cell_of_row _ _ 3 _ _ (0, 0) HB2.out).trans rfl
    have x4 : w2.cell? ⟨w.heap.size, 4, none⟩ = some (.slice a1 n1 c1) := (cell_of_row _ _ 4 _ _ (0, 0) HB2.out).trans rfl
    go_wp2_with fail
    have q0 : enc 12 (boxI 13 [numI x.r.v, numI x.r.e, lstI (x.r.rs.map roI)]) = some l := HE.out
    have q2 := l22RootBody_any x.r (x.r.rs.map roI) rfl a0 n0 c0 a1 n1 c1 l w2 (HR.out _ B2).r0 (rootP_w HP.out).1 HN.out
    have q1 := q2 q0
    clear q0 q2
    refine q1.mono ?_
    rintro r w4 ⟨a4', c4', rfl, ho, hb4⟩
    have B4 : Below w.heap.size w w4 := keepT B2 hb4
    have HO : Hid (Own w.heap.size w4 a4' l.length c4' l) := ho.mono B2.size
    clear ho hb4 q1
    go_wp2
    go_ret2
    exact ⟨a4', c4', rfl, HO.out, B4⟩
  · obtain rfl : b2 = false := by
      cases b2 with
      | false => rfl
      | true => exact absurd (hb2.out.1 rfl) hP
    clear hb2 hP
    go_wp2
    go_ret2
    exact ⟨_, _, rfl, own_emptyF _ _ B2.size, B2.trans ((Below.refl _ _).alloc B2.size _)⟩

set_option maxRecDepth 10000 in
set_option maxHeartbeats 400000 in
theorem specFileBody_2 (x : TfP) (a0 : Option Addr) (n0 c0 : Nat) (a1 : Option Addr) (n1 c1 : Nat) (a2 : Option Addr) (n2 c2 : Nat) (a3 : Option Addr) (n3 c3 : Nat) (a4 : Option Addr) (n4 c4 : Nat) (b : Bool) (l : List Int) (w : World) (h : TfR x a0 n0 a1 n1 a2 n2 a3 n3 a4 n4 w) (hk : x.k = 2) (hf : FbR x b l) :
    Calls Tryz.prog 6 #[.agg #[.int .i64 x.k, .int .i64 x.r.v, .int .i64 x.r.e, .slice a0 n0 c0, .slice a1 n1 c1, .int .i64 x.s.v, .int .i64 x.s.e, .int .i64 x.s.lv, .int .u64 x.s.lh, .slice a2 n2 c2, .int .i64 x.l.v, .int .i64 x.l.e, .slice a3 n3 c3, .slice a4 n4 c4]] w fun r w' => ∃ a' c', r = .returned (.tuple #[.slice a' l.length c', .bool b]) ∧ Own w.heap.size w' a' l.length c' l ∧ Below w.heap.size w w' := by
  obtain ⟨w1, hw1⟩ : ∃ w1, w1 = w.alloc (.cells #[.int .i64 x.k, .int .i64 x.r.v, .int .i64 x.r.e, .slice a0 n0 c0, .slice a1 n1 c1, .int .i64 x.s.v, .int .i64 x.s.e, .int .i64 x.s.lv, .int .u64 x.s.lh, .slice a2 n2 c2, .int .i64 x.l.v, .int .i64 x.l.e, .slice a3 n3 c3, .slice a4 n4 c4] 48) := ⟨_, rfl⟩
  have hbb : Below w.heap.size w w1 := by rw [hw1]; exact (Below.refl _ _).alloc (Nat.le_refl _) _
  have HB : Hid (w1.heap[w.heap.size]? = some (.cells #[.int .i64 x.k, .int .i64 x.r.v, .int .i64 x.r.e, .slice a0 n0 c0, .slice a1 n1 c1, .int .i64 x.s.v, .int .i64 x.s.e, .int .i64 x.s.lv, .int .u64 x.s.lh, .slice a2 n2 c2, .int .i64 x.l.v, .int .i64 x.l.e, .slice a3 n3 c3, .slice a4 n4 c4] 48 (0, 0))) := by show _ = _; rw [hw1]; exact heap_alloc_new w _
  have HW : Hid (_ = _) := hw1
  clear hw1
  have HR : Hid (∀ W, Below w.heap.size w W → TfR x a0 n0 a1 n1 a2 n2 a3 n3 a4 n4 W) := fun W hW => h.kept hW
  have HK : Hid (x.k = 2) := hk
  clear h hk
  have hf := fbR_2 hf HK.out
  have x0 : w1.cell? ⟨w.heap.size, 0, none⟩ = some (.int .i64 x.k) := (cell_of_row _ _ 0 _ _ (0, 0) HB.out).trans rfl
  have x5 : w1.cell? ⟨w.heap.size, 5, none⟩ = some (.int .i64 x.s.v) := (cell_of_row _ _ 5 _ _ (0, 0) HB.out).trans rfl
  have x6 : w1.cell? ⟨w.heap.size, 6, none⟩ = some (.int .i64 x.s.e) := (cell_of_row _ _ 6 _ _ (0, 0) HB.out).trans rfl
  have x7 : w1.cell? ⟨w.heap.size, 7, none⟩ = some (.int .i64 x.s.lv) := (cell_of_row _ _ 7 _ _ (0, 0) HB.out).trans rfl
  have x8 : w1.cell? ⟨w.heap.size, 8, none⟩ = some (.int .u64 x.s.lh) := (cell_of_row _ _ 8 _ _ (0, 0) HB.out).trans rfl
  have x9 : w1.cell? ⟨w.heap.size, 9, none⟩ = some (.slice a2 n2 c2) := (cell_of_row _ _ 9 _ _ (0, 0) HB.out).trans rfl
  go_enter Tryz.func6, Tryz.ntmps6
  go_upto_region 1 with fail
  rw [← HW.out]
  clear HW
  rw [HK.out] at x0
  go_wp2_with fail
  refine (l22StampOk_any x.s a2 n2 c2 _ (HR.out _ hbb).r2).mono ?_
  rintro r w2 ⟨b2, rfl, hb2, hbel⟩
  have HB2 : Hid (w2.heap[w.heap.size]? = some (.cells #[.int .i64 x.k, .int .i64 x.r.v, .int .i64 x.r.e, .slice a0 n0 c0, .slice a1 n1 c1, .int .i64 x.s.v, .int .i64 x.s.e, .int .i64 x.s.lv, .int .u64 x.s.lh, .slice a2 n2 c2, .int .i64 x.l.v, .int .i64 x.l.e, .slice a3 n3 c3, .slice a4 n4 c4] 48 (0, 0))) := below_kept HB.out hbel
  have B2 : Below w.heap.size w w2 := keepT hbb hbel
  clear hbel x0 x5 x6 x7 x8 x9
  rcases hf with ⟨rfl, hP, hE⟩ | ⟨rfl, rfl, hP⟩
  · obtain rfl : b2 = true := hb2.out.2 hP
    have HP : Hid (stampP x.s) := hP
    have HE : Hid (enc 12 (boxI 14 [numI x.s.v, numI x.s.e, numI x.s.lv, bytI (eightI x.s.lh)]) = some l) := hE
    clear hb2 hP hE
    have x5 : w2.cell? ⟨w.heap.size, 5, none⟩ = some (.int .i64 x.s.v) := (cell_of_row _ _ 5 _ _ (0, 0) HB2.out).trans rfl
    have x6 : w2.cell? ⟨w.heap.size, 6, none⟩ = some (.int .i64 x.s.e) := (cell_of_row _ _ 6 _ _ (0, 0) HB2.out).trans rfl
    have x7 : w2.cell? ⟨w.heap.size, 7, none⟩ = some (.int .i64 x.s.lv) := (cell_of_row _ _ 7 _ _ (0, 0) HB2.out).trans rfl
    have x8 : w2.cell? ⟨w.heap.size, 8, none⟩ = some (.int .u64 x.s.lh) := (cell_of_row _ _ 8 _ _ (0, 0) HB2.out).trans rfl
    have x9 : w2.cell? ⟨w.heap.size, 9, none⟩ = some (.slice a2 n2 c2) := (cell_of_row _ _ 9 _ _ (0, 0) HB2.out).trans rfl
    go_wp2_with fail
    have q0 : enc 12 (boxI 14 [numI x.s.v, numI x.s.e, numI x.s.lv, bytI (eightI x.s.lh)]) = some l := HE.out
    have q2 := l22StampBody_any x.s a2 n2 c2 l w2 (HR.out _ B2).lh
    have q1 := q2 q0
    clear q0 q2
    refine q1.mono ?_
    rintro r w4 ⟨a4', c4', rfl, ho, hb4⟩
    have B4 : Below w.heap.size w w4 := keepT B2 hb4
    have HO : Hid (Own w.heap.size w4 a4' l.length c4' l) := ho.mono B2.size
    clear ho hb4 q1
    go_wp2
    go_ret2
    exact ⟨a4', c4', rfl, HO.out, B4⟩
  · obtain rfl : b2 = false := by
      cases b2 with
      | false => rfl
      | true => exact absurd (hb2.out.1 rfl) hP
    clear hb2 hP
    go_wp2
    go_ret2
    exact ⟨_, _, rfl, own_emptyF _ _ B2.size, B2.trans ((Below.refl _ _).alloc B2.size _)⟩

set_option maxRecDepth 10000 in
set_option maxHeartbeats 400000 in
theorem specFileBody_3 (x : TfP) (a0 : Option Addr) (n0 c0 : Nat) (a1 : Option Addr) (n1 c1 : Nat) (a2 : Option Addr) (n2 c2 : Nat) (a3 : Option Addr) (n3 c3 : Nat) (a4 : Option Addr) (n4 c4 : Nat) (b : Bool) (l : List Int) (w : World) (h : TfR x a0 n0 a1 n1 a2 n2 a3 n3 a4 n4 w) (hk : x.k = 3) (hf : FbR x b l) :
    Calls Tryz.prog 6 #[.agg #[.int .i64 x.k, .int .i64 x.r.v, .int .i64 x.r.e, .slice a0 n0 c0, .slice a1 n1 c1, .int .i64 x.s.v, .int .i64 x.s.e, .int .i64 x.s.lv, .int .u64 x.s.lh, .slice a2 n2 c2, .int .i64 x.l.v, .int .i64 x.l.e, .slice a3 n3 c3, .slice a4 n4 c4]] w fun r w' => ∃ a' c', r = .returned (.tuple #[.slice a' l.length c', .bool b]) ∧ Own w.heap.size w' a' l.length c' l ∧ Below w.heap.size w w' := by
  obtain ⟨w1, hw1⟩ : ∃ w1, w1 = w.alloc (.cells #[.int .i64 x.k, .int .i64 x.r.v, .int .i64 x.r.e, .slice a0 n0 c0, .slice a1 n1 c1, .int .i64 x.s.v, .int .i64 x.s.e, .int .i64 x.s.lv, .int .u64 x.s.lh, .slice a2 n2 c2, .int .i64 x.l.v, .int .i64 x.l.e, .slice a3 n3 c3, .slice a4 n4 c4] 48) := ⟨_, rfl⟩
  have hbb : Below w.heap.size w w1 := by rw [hw1]; exact (Below.refl _ _).alloc (Nat.le_refl _) _
  have HB : Hid (w1.heap[w.heap.size]? = some (.cells #[.int .i64 x.k, .int .i64 x.r.v, .int .i64 x.r.e, .slice a0 n0 c0, .slice a1 n1 c1, .int .i64 x.s.v, .int .i64 x.s.e, .int .i64 x.s.lv, .int .u64 x.s.lh, .slice a2 n2 c2, .int .i64 x.l.v, .int .i64 x.l.e, .slice a3 n3 c3, .slice a4 n4 c4] 48 (0, 0))) := by show _ = _; rw [hw1]; exact heap_alloc_new w _
  have HW : Hid (_ = _) := hw1
  clear hw1
  have HR : Hid (∀ W, Below w.heap.size w W → TfR x a0 n0 a1 n1 a2 n2 a3 n3 a4 n4 W) := fun W hW => h.kept hW
  have HK : Hid (x.k = 3) := hk
  clear h hk
  have hf := fbR_3 hf HK.out
  have x0 : w1.cell? ⟨w.heap.size, 0, none⟩ = some (.int .i64 x.k) := (cell_of_row _ _ 0 _ _ (0, 0) HB.out).trans rfl
  have x10 : w1.cell? ⟨w.heap.size, 10, none⟩ = some (.int .i64 x.l.v) := (cell_of_row _ _ 10 _ _ (0, 0) HB.out).trans rfl
  have x11 : w1.cell? ⟨w.heap.size, 11, none⟩ = some (.int .i64 x.l.e) := (cell_of_row _ _ 11 _ _ (0, 0) HB.out).trans rfl
  have x12 : w1.cell? ⟨w.heap.size, 12, none⟩ = some (.slice a3 n3 c3) := (cell_of_row _ _ 12 _ _ (0, 0) HB.out).trans rfl
  have x13 : w1.cell? ⟨w.heap.size, 13, none⟩ = some (.slice a4 n4 c4) := (cell_of_row _ _ 13 _ _ (0, 0) HB.out).trans rfl
  go_enter Tryz.func6, Tryz.ntmps6
  go_upto_region 1 with fail
  rw [← HW.out]
  clear HW
  rw [HK.out] at x0
  go_wp2_with fail
  refine (l22ListOk_any x.l a3 n3 c3 a4 n4 c4 _ (HR.out _ hbb).r3 (HR.out _ hbb).m3 (HR.out _ hbb).r4).mono ?_
  rintro r w2 ⟨b2, rfl, hb2, hbel⟩
  have HB2 : Hid (w2.heap[w.heap.size]? = some (.cells #[.int .i64 x.k, .int .i64 x.r.v, .int .i64 x.r.e, .slice a0 n0 c0, .slice a1 n1 c1, .int .i64 x.s.v, .int .i64 x.s.e, .int .i64 x.s.lv, .int .u64 x.s.lh, .slice a2 n2 c2, .int .i64 x.l.v, .int .i64 x.l.e, .slice a3 n3 c3, .slice a4 n4 c4] 48 (0, 0))) := below_kept HB.out hbel
  have B2 : Below w.heap.size w w2 := keepT hbb hbel
  clear hbel x0 x10 x11 x12 x13
  rcases hf with ⟨rfl, hP, hE⟩ | ⟨rfl, rfl, hP⟩
  · obtain rfl : b2 = true := hb2.out.2 hP
    have HP : Hid (listP x.l) := hP
    have HE : Hid (enc 12 (boxI 15 [numI x.l.v, numI x.l.e, lstI (x.l.es.map (fun p => enI p.1 p.2))]) = some l) := hE
    have HN : Hid (n3 ≤ 1000) := by show _ ≤ _; have := (HR.out _ (Below.refl _ _)).r3.len; have := hP.2.2.2.1; omega
    clear hb2 hP hE
    have x10 : w2.cell? ⟨w.heap.size, 10, none⟩ = some (.int .i64 x.l.v) := (cell_of_row _ _ 10 _ _ (0, 0) HB2.out).trans rfl
    have x11 : w2.cell? ⟨w.heap.size, 11, none⟩ = some (.int .i64 x.l.e) := (cell_of_row _ _ 11 _ _ (0, 0) HB2.out).trans rfl
    have x12 : w2.cell? ⟨w.heap.size, 12, none⟩ = some (.slice a3 n3 c3) := (cell_of_row _ _ 12 _ _ (0, 0) HB2.out).trans rfl
    have x13 : w2.cell? ⟨w.heap.size, 13, none⟩ = some (.slice a4 n4 c4) := (cell_of_row _ _ 13 _ _ (0, 0) HB2.out).trans rfl
    go_wp2_with fail
    have q0 : enc 12 (boxI 15 [numI x.l.v, numI x.l.e, lstI (x.l.es.map (fun p => enI p.1 p.2))]) = some l := HE.out
    have q2 := l22ListBody_any x.l (x.l.es.map (fun p => enI p.1 p.2)) rfl a3 n3 c3 a4 n4 c4 l w2 (HR.out _ B2).r3 HN.out
    have q1 := q2 q0
    clear q0 q2
    refine q1.mono ?_
    rintro r w4 ⟨a4', c4', rfl, ho, hb4⟩
    have B4 : Below w.heap.size w w4 := keepT B2 hb4
    have HO : Hid (Own w.heap.size w4 a4' l.length c4' l) := ho.mono B2.size
    clear ho hb4 q1
    go_wp2
    go_ret2
    exact ⟨a4', c4', rfl, HO.out, B4⟩
  · obtain rfl : b2 = false := by
      cases b2 with
      | false => rfl
      | true => exact absurd (hb2.out.1 rfl) hP
    clear hb2 hP
    go_wp2
    go_ret2
    exact ⟨_, _, rfl, own_emptyF _ _ B2.size, B2.trans ((Below.refl _ _).alloc B2.size _)⟩

set_option maxRecDepth 10000 in
set_option maxHeartbeats 400000 in
theorem specFileBody_0 (x : TfP) (a0 : Option Addr) (n0 c0 : Nat) (a1 : Option Addr) (n1 c1 : Nat) (a2 : Option Addr) (n2 c2 : Nat) (a3 : Option Addr) (n3 c3 : Nat) (a4 : Option Addr) (n4 c4 : Nat) (w : World) (h1 : x.k ≠ 1) (h2 : x.k ≠ 2) (h3 : x.k ≠ 3) :
    Calls Tryz.prog 6 #[.agg #[.int .i64 x.k, .int .i64 x.r.v, .int .i64 x.r.e, .slice a0 n0 c0, .slice a1 n1 c1, .int .i64 x.s.v, .int .i64 x.s.e, .int .i64 x.s.lv, .int .u64 x.s.lh, .slice a2 n2 c2, .int .i64 x.l.v, .int .i64 x.l.e, .slice a3 n3 c3, .slice a4 n4 c4]] w fun r w' => ∃ a' c', r = .returned (.tuple #[.slice a' 0 c', .bool false]) ∧ Own w.heap.size w' a' 0 c' [] ∧ Below w.heap.size w w' := by
  obtain ⟨w1, hw1⟩ : ∃ w1, w1 = w.alloc (.cells #[.int .i64 x.k, .int .i64 x.r.v, .int .i64 x.r.e, .slice a0 n0 c0, .slice a1 n1 c1, .int .i64 x.s.v, .int .i64 x.s.e, .int .i64 x.s.lv, .int .u64 x.s.lh, .slice a2 n2 c2, .int .i64 x.l.v, .int .i64 x.l.e, .slice a3 n3 c3, .slice a4 n4 c4] 48) := ⟨_, rfl⟩
  have hbb : Below w.heap.size w w1 := by rw [hw1]; exact (Below.refl _ _).alloc (Nat.le_refl _) _
  have HB : Hid (w1.heap[w.heap.size]? = some (.cells #[.int .i64 x.k, .int .i64 x.r.v, .int .i64 x.r.e, .slice a0 n0 c0, .slice a1 n1 c1, .int .i64 x.s.v, .int .i64 x.s.e, .int .i64 x.s.lv, .int .u64 x.s.lh, .slice a2 n2 c2, .int .i64 x.l.v, .int .i64 x.l.e, .slice a3 n3 c3, .slice a4 n4 c4] 48 (0, 0))) := by show _ = _; rw [hw1]; exact heap_alloc_new w _
  have HW : Hid (_ = _) := hw1
  clear hw1
  have x0 : w1.cell? ⟨w.heap.size, 0, none⟩ = some (.int .i64 x.k) := (cell_of_row _ _ 0 _ _ (0, 0) HB.out).trans rfl
  have z1 : (x.k == 1) = false := beq_false_of_ne h1
  have z2 : (x.k == 2) = false := beq_false_of_ne h2
  have z3 : (x.k == 3) = false := beq_false_of_ne h3
  go_enter Tryz.func6, Tryz.ntmps6
  go_upto_region 1 with fail
  rw [← HW.out]
  clear HW
  go_wp2
  go_ret2
  exact ⟨_, _, rfl, own_emptyF _ _ hbb.size, hbb.trans ((Below.refl _ _).alloc hbb.size _)⟩

theorem specFileBody_any (x : TfP) (a0 : Option Addr) (n0 c0 : Nat) (a1 : Option Addr) (n1 c1 : Nat) (a2 : Option Addr) (n2 c2 : Nat) (a3 : Option Addr) (n3 c3 : Nat) (a4 : Option Addr) (n4 c4 : Nat) (b : Bool) (l : List Int) (w : World) (h : TfR x a0 n0 a1 n1 a2 n2 a3 n3 a4 n4 w) (hf : FbR x b l) :
    Calls Tryz.prog 6 #[.agg (tfv x a0 n0 c0 a1 n1 c1 a2 n2 c2 a3 n3 c3 a4 n4 c4)] w fun r w' => ∃ a' c', r = .returned (.tuple #[.slice a' l.length c', .bool b]) ∧ Own w.heap.size w' a' l.length c' l ∧ Below w.heap.size w w' := by
  by_cases h1 : x.k = 1
  · exact specFileBody_1 x a0 n0 c0 a1 n1 c1 a2 n2 c2 a3 n3 c3 a4 n4 c4 b l w h h1 hf
  by_cases h2 : x.k = 2
  · exact specFileBody_2 x a0 n0 c0 a1 n1 c1 a2 n2 c2 a3 n3 c3 a4 n4 c4 b l w h h2 hf
  by_cases h3 : x.k = 3
  · exact specFileBody_3 x a0 n0 c0 a1 n1 c1 a2 n2 c2 a3 n3 c3 a4 n4 c4 b l w h h3 hf
  · obtain ⟨rfl, rfl⟩ := fbR_0 hf h1 h2 h3
    exact specFileBody_0 x a0 n0 c0 a1 n1 c1 a2 n2 c2 a3 n3 c3 a4 n4 c4 w h1 h2 h3

end Go.Proofs.YtglpbgebcpijaaaGreat

set_option linter.unusedVariables false
namespace Go.Proofs.YtglpbgebcpijaaaGreat
open Go.RowKit Go.Sort

theorem opw_not {P : Program} {Q : Exit → Act → World → Prop} {o : Oper} {a : Act} {w : World} {K : Act → World → Prop} (t x : Nat) (ho : o.op = .unOp .not t (.tmp x)) (p : Bool) (hx : aT a x = .bool p) (h : K (a.put o.dst (.bool (!p))) w) : o.wp P a w K Q := by
  refine opw_value (.bool (!p)) ?_ h
  have hx' : a.eval (.tmp x) = .bool p := hx
  unfold execOp
  simp only [ho, hx']
  simp [go_sem]
/-- What is known of a region (RJ). -/
def tl20 (x : TfP) (s0 : Option Addr) (n0 c0 : Nat) (s1 : Option Addr) (n1 c1 : Nat) (s2 : Option Addr) (n2 c2 : Nat) (s3 : Option Addr) (n3 c3 : Nat) (s4 : Option Addr) (n4 c4 : Nat) (p0 p1 p2 p3 p4 : Option Addr) (G G2 B : Nat) : RSpec where
  m := 5
  n := 7
  slots := [41, 42, 43, 44, 45, 100005, 100006]
  kills := [[], [], [], [], [], [], []]
  pres := [[], [], [], [], [], [], []]
  fact := fun k v w => match k with
    | 0 => v = .agg #[.int .i64 x.k, .int .i64 x.r.v, .int .i64 x.r.e, .slice p0 n0 n0, .slice p1 n1 n1, .int .i64 x.s.v, .int .i64 x.s.e, .int .i64 x.s.lv, .int .u64 x.s.lh, .slice p2 n2 n2, .int .i64 x.l.v, .int .i64 x.l.e, .slice p3 n3 n3, .slice p4 n4 n4]
    | 1 => v = .agg #[.int .i64 x.k, .int .i64 x.r.v, .int .i64 x.r.e, .slice s0 n0 c0, .slice s1 n1 c1, .int .i64 x.s.v, .int .i64 x.s.e, .int .i64 x.s.lv, .int .u64 x.s.lh, .slice s2 n2 c2, .int .i64 x.l.v, .int .i64 x.l.e, .slice s3 n3 c3, .slice s4 n4 c4]
    | 2 => ∃ q0 q1 q2 q3 q4, v = .agg #[.int .i64 x.k, .int .i64 x.r.v, .int .i64 x.r.e, .slice q0 n0 n0, .slice q1 n1 n1, .int .i64 x.s.v, .int .i64 x.s.e, .int .i64 x.s.lv, .int .u64 x.s.lh, .slice q2 n2 n2, .int .i64 x.l.v, .int .i64 x.l.e, .slice q3 n3 n3, .slice q4 n4 n4] ∧ TfR x q0 n0 q1 n1 q2 n2 q3 n3 q4 n4 w
    | 3 => v = .bool true
    | 4 => v = .bool false
    | 5 => w.heap[G]? = some (.cells #[.int .i64 x.k, .int .i64 x.r.v, .int .i64 x.r.e, .slice s0 n0 c0, .slice s1 n1 c1, .int .i64 x.s.v, .int .i64 x.s.e, .int .i64 x.s.lv, .int .u64 x.s.lh, .slice s2 n2 c2, .int .i64 x.l.v, .int .i64 x.l.e, .slice s3 n3 c3, .slice s4 n4 c4] 33 (0, 0))
    | _ => w.heap[G2]? = some (.cells #[.int .i64 x.k, .int .i64 x.r.v, .int .i64 x.r.e, .slice p0 n0 n0, .slice p1 n1 n1, .int .i64 x.s.v, .int .i64 x.s.e, .int .i64 x.s.lv, .int .u64 x.s.lh, .slice p2 n2 n2, .int .i64 x.l.v, .int .i64 x.l.e, .slice p3 n3 n3, .slice p4 n4 n4] 48 (0, 0))
set_option linter.unusedVariables false in
theorem tl20_stb (x : TfP) (s0 : Option Addr) (n0 c0 : Nat) (s1 : Option Addr) (n1 c1 : Nat) (s2 : Option Addr) (n2 c2 : Nat) (s3 : Option Addr) (n3 c3 : Nat) (s4 : Option Addr) (n4 c4 : Nat) (p0 p1 p2 p3 p4 : Option Addr) (G G2 B : Nat) (k : Nat) (hk : k < 7) : StB ((tl20 x s0 n0 c0 s1 n1 c1 s2 n2 c2 s3 n3 c3 s4 n4 c4 p0 p1 p2 p3 p4 G G2 (B)).fact k) := by
  match k, hk with
  | 0, _ => exact fun _ _ _ h _ => h
  | 1, _ => exact fun _ _ _ h _ => h
  | 2, _ => exact fun _ _ _ ⟨q0, q1, q2, q3, q4, hv, q_0⟩ hb => ⟨q0, q1, q2, q3, q4, hv, q_0.kept hb⟩
  | 3, _ => exact fun _ _ _ h _ => h
  | 4, _ => exact fun _ _ _ h _ => h
  | 5, _ => exact fun _ _ _ q_0 hb => below_kept q_0 hb
  | 6, _ => exact fun _ _ _ q_0 hb => below_kept q_0 hb
  | k + 7, hk => omega

set_option maxRecDepth 10000 in
set_option maxHeartbeats 8000000 in
theorem lawFileBody_walk (x : TfP) (s0 : Option Addr) (n0 c0 : Nat) (s1 : Option Addr) (n1 c1 : Nat) (s2 : Option Addr) (n2 c2 : Nat) (s3 : Option Addr) (n3 c3 : Nat) (s4 : Option Addr) (n4 c4 : Nat) (w : World) (h : TfR x s0 n0 s1 n1 s2 n2 s3 n3 s4 n4 w) :
    Calls Tryz.prog 3 #[.agg #[.int .i64 x.k, .int .i64 x.r.v, .int .i64 x.r.e, .slice s0 n0 c0, .slice s1 n1 c1, .int .i64 x.s.v, .int .i64 x.s.e, .int .i64 x.s.lv, .int .u64 x.s.lh, .slice s2 n2 c2, .int .i64 x.l.v, .int .i64 x.l.e, .slice s3 n3 c3, .slice s4 n4 c4]] w fun e w' => e = .returned (.bool true) ∧ Below w.heap.size w w' := by
  obtain ⟨b, l, hf, hl⟩ := fbR_any x
  have hlm : l.length ≤ maxLen := by unfold maxLen; omega
  have HF : Hid (FbR x b l) := hf
  obtain ⟨w1, hw1⟩ : ∃ w1, w1 = w.alloc (.cells #[.int .i64 x.k, .int .i64 x.r.v, .int .i64 x.r.e, .slice s0 n0 c0, .slice s1 n1 c1, .int .i64 x.s.v, .int .i64 x.s.e, .int .i64 x.s.lv, .int .u64 x.s.lh, .slice s2 n2 c2, .int .i64 x.l.v, .int .i64 x.l.e, .slice s3 n3 c3, .slice s4 n4 c4] 33) := ⟨_, rfl⟩
  have hb0 : Below w.heap.size w w1 := by rw [hw1]; exact (Below.refl _ _).alloc (Nat.le_refl _) _
  have hsz1 : w1.heap.size = w.heap.size + 1 := by rw [hw1]; simp
  have HB1 : Hid (w1.heap[w.heap.size]? = some (.cells #[.int .i64 x.k, .int .i64 x.r.v, .int .i64 x.r.e, .slice s0 n0 c0, .slice s1 n1 c1, .int .i64 x.s.v, .int .i64 x.s.e, .int .i64 x.s.lv, .int .u64 x.s.lh, .slice s2 n2 c2, .int .i64 x.l.v, .int .i64 x.l.e, .slice s3 n3 c3, .slice s4 n4 c4] 33 (0, 0))) := by show _ = _; rw [hw1]; exact heap_alloc_new w _
  have HR : Hid (∀ W, Below w.heap.size w W → TfR x s0 n0 s1 n1 s2 n2 s3 n3 s4 n4 W) := fun W hW => h.kept hW
  have HW : Hid (_ = _) := hw1
  clear hw1 h hf
  have x0 : w1.cell? ⟨w.heap.size, 0, none⟩ = some (.int .i64 x.k) := (cell_of_row _ _ 0 _ _ (0, 0) HB1.out).trans rfl
  have x1 : w1.cell? ⟨w.heap.size, 1, none⟩ = some (.int .i64 x.r.v) := (cell_of_row _ _ 1 _ _ (0, 0) HB1.out).trans rfl
  have x2 : w1.cell? ⟨w.heap.size, 2, none⟩ = some (.int .i64 x.r.e) := (cell_of_row _ _ 2 _ _ (0, 0) HB1.out).trans rfl
  have x3 : w1.cell? ⟨w.heap.size, 3, none⟩ = some (.slice s0 n0 c0) := (cell_of_row _ _ 3 _ _ (0, 0) HB1.out).trans rfl
  have x4 : w1.cell? ⟨w.heap.size, 4, none⟩ = some (.slice s1 n1 c1) := (cell_of_row _ _ 4 _ _ (0, 0) HB1.out).trans rfl
  have x5 : w1.cell? ⟨w.heap.size, 5, none⟩ = some (.int .i64 x.s.v) := (cell_of_row _ _ 5 _ _ (0, 0) HB1.out).trans rfl
  have x6 : w1.cell? ⟨w.heap.size, 6, none⟩ = some (.int .i64 x.s.e) := (cell_of_row _ _ 6 _ _ (0, 0) HB1.out).trans rfl
  have x7 : w1.cell? ⟨w.heap.size, 7, none⟩ = some (.int .i64 x.s.lv) := (cell_of_row _ _ 7 _ _ (0, 0) HB1.out).trans rfl
  have x8 : w1.cell? ⟨w.heap.size, 8, none⟩ = some (.int .u64 x.s.lh) := (cell_of_row _ _ 8 _ _ (0, 0) HB1.out).trans rfl
  have x9 : w1.cell? ⟨w.heap.size, 9, none⟩ = some (.slice s2 n2 c2) := (cell_of_row _ _ 9 _ _ (0, 0) HB1.out).trans rfl
  have x10 : w1.cell? ⟨w.heap.size, 10, none⟩ = some (.int .i64 x.l.v) := (cell_of_row _ _ 10 _ _ (0, 0) HB1.out).trans rfl
  have x11 : w1.cell? ⟨w.heap.size, 11, none⟩ = some (.int .i64 x.l.e) := (cell_of_row _ _ 11 _ _ (0, 0) HB1.out).trans rfl
  have x12 : w1.cell? ⟨w.heap.size, 12, none⟩ = some (.slice s3 n3 c3) := (cell_of_row _ _ 12 _ _ (0, 0) HB1.out).trans rfl
  have x13 : w1.cell? ⟨w.heap.size, 13, none⟩ = some (.slice s4 n4 c4) := (cell_of_row _ _ 13 _ _ (0, 0) HB1.out).trans rfl
  go_enter Tryz.func3, Tryz.ntmps3
  go_upto_region 2 with fail
  rw [← HW.out]
  clear HW
  go_wp2_with fail
  refine (szTrustFile_any x s0 n0 c0 s1 n1 c1 s2 n2 c2 s3 n3 c3 s4 n4 c4 _ _ (HR.out _ hb0) (by decide) (by decide)).mono ?_
  rintro e w2 ⟨r, rfl, hrr, hb2⟩
  have cw2 : Below w1.heap.size w1 w2 := hb2
  have m2 : Below w.heap.size w w2 := keepT hb0 cw2
  clear x0 x1 x2 x3 x4 x5 x6 x7 x8 x9 x10 x11 x12 x13
  by_cases hneg : r < 0
  · go_wp2
    go_ret
    exact ⟨rfl, m2⟩
  obtain ⟨hr0, hr1, hts⟩ := hrr.resolve_left hneg
  have HTS : Hid (TfS x n0 n1 n2 n3 n4) := hts
  clear hrr hts
  have x0 : w2.cell? ⟨w.heap.size, 0, none⟩ = some (.int .i64 x.k) := (cell_of_row _ _ 0 _ _ (0, 0) (below_kept HB1.out cw2)).trans rfl
  have x1 : w2.cell? ⟨w.heap.size, 1, none⟩ = some (.int .i64 x.r.v) := (cell_of_row _ _ 1 _ _ (0, 0) (below_kept HB1.out cw2)).trans rfl
  have x2 : w2.cell? ⟨w.heap.size, 2, none⟩ = some (.int .i64 x.r.e) := (cell_of_row _ _ 2 _ _ (0, 0) (below_kept HB1.out cw2)).trans rfl
  have x3 : w2.cell? ⟨w.heap.size, 3, none⟩ = some (.slice s0 n0 c0) := (cell_of_row _ _ 3 _ _ (0, 0) (below_kept HB1.out cw2)).trans rfl
  have x4 : w2.cell? ⟨w.heap.size, 4, none⟩ = some (.slice s1 n1 c1) := (cell_of_row _ _ 4 _ _ (0, 0) (below_kept HB1.out cw2)).trans rfl
  have x5 : w2.cell? ⟨w.heap.size, 5, none⟩ = some (.int .i64 x.s.v) := (cell_of_row _ _ 5 _ _ (0, 0) (below_kept HB1.out cw2)).trans rfl
  have x6 : w2.cell? ⟨w.heap.size, 6, none⟩ = some (.int .i64 x.s.e) := (cell_of_row _ _ 6 _ _ (0, 0) (below_kept HB1.out cw2)).trans rfl
  have x7 : w2.cell? ⟨w.heap.size, 7, none⟩ = some (.int .i64 x.s.lv) := (cell_of_row _ _ 7 _ _ (0, 0) (below_kept HB1.out cw2)).trans rfl
  have x8 : w2.cell? ⟨w.heap.size, 8, none⟩ = some (.int .u64 x.s.lh) := (cell_of_row _ _ 8 _ _ (0, 0) (below_kept HB1.out cw2)).trans rfl
  have x9 : w2.cell? ⟨w.heap.size, 9, none⟩ = some (.slice s2 n2 c2) := (cell_of_row _ _ 9 _ _ (0, 0) (below_kept HB1.out cw2)).trans rfl
  have x10 : w2.cell? ⟨w.heap.size, 10, none⟩ = some (.int .i64 x.l.v) := (cell_of_row _ _ 10 _ _ (0, 0) (below_kept HB1.out cw2)).trans rfl
  have x11 : w2.cell? ⟨w.heap.size, 11, none⟩ = some (.int .i64 x.l.e) := (cell_of_row _ _ 11 _ _ (0, 0) (below_kept HB1.out cw2)).trans rfl
  have x12 : w2.cell? ⟨w.heap.size, 12, none⟩ = some (.slice s3 n3 c3) := (cell_of_row _ _ 12 _ _ (0, 0) (below_kept HB1.out cw2)).trans rfl
  have x13 : w2.cell? ⟨w.heap.size, 13, none⟩ = some (.slice s4 n4 c4) := (cell_of_row _ _ 13 _ _ (0, 0) (below_kept HB1.out cw2)).trans rfl
  go_wp2_with fail
  refine (toTrustFile_any x s0 n0 c0 s1 n1 c1 s2 n2 c2 s3 n3 c3 s4 n4 c4 _ (HR.out _ m2) HTS.out).mono ?_
  rintro e wa ⟨q0, q1, q2, q3, q4, rfl, hoa, _, hba⟩
  clear x0 x1 x2 x3 x4 x5 x6 x7 x8 x9 x10 x11 x12 x13
  go_wp2_with fail
  refine (specFileBody_any x q0 n0 n0 q1 n1 n1 q2 n2 n2 q3 n3 n3 q4 n4 n4 b l _ hoa HF.out).mono ?_
  rintro e wA ⟨aw, cw, rfl, howA, hbA⟩
  have H0A : Hid (Row wA aw l.length l) := howA.toRow
  have HI0 : Hid (In aw l.length 0 wA.heap.size) := howA.toRow.in_
  have cA : Below w1.heap.size w1 wA := keepT cw2 (keepT hba hbA)
  have mA : Below w.heap.size w wA := keepT hb0 cA
  have sA := cA.size
  clear hoa hba hbA howA
  have x0 : wA.cell? ⟨w.heap.size, 0, none⟩ = some (.int .i64 x.k) := (cell_of_row _ _ 0 _ _ (0, 0) (below_kept HB1.out cA)).trans rfl
  have x1 : wA.cell? ⟨w.heap.size, 1, none⟩ = some (.int .i64 x.r.v) := (cell_of_row _ _ 1 _ _ (0, 0) (below_kept HB1.out cA)).trans rfl
  have x2 : wA.cell? ⟨w.heap.size, 2, none⟩ = some (.int .i64 x.r.e) := (cell_of_row _ _ 2 _ _ (0, 0) (below_kept HB1.out cA)).trans rfl
  have x3 : wA.cell? ⟨w.heap.size, 3, none⟩ = some (.slice s0 n0 c0) := (cell_of_row _ _ 3 _ _ (0, 0) (below_kept HB1.out cA)).trans rfl
  have x4 : wA.cell? ⟨w.heap.size, 4, none⟩ = some (.slice s1 n1 c1) := (cell_of_row _ _ 4 _ _ (0, 0) (below_kept HB1.out cA)).trans rfl
  have x5 : wA.cell? ⟨w.heap.size, 5, none⟩ = some (.int .i64 x.s.v) := (cell_of_row _ _ 5 _ _ (0, 0) (below_kept HB1.out cA)).trans rfl
  have x6 : wA.cell? ⟨w.heap.size, 6, none⟩ = some (.int .i64 x.s.e) := (cell_of_row _ _ 6 _ _ (0, 0) (below_kept HB1.out cA)).trans rfl
  have x7 : wA.cell? ⟨w.heap.size, 7, none⟩ = some (.int .i64 x.s.lv) := (cell_of_row _ _ 7 _ _ (0, 0) (below_kept HB1.out cA)).trans rfl
  have x8 : wA.cell? ⟨w.heap.size, 8, none⟩ = some (.int .u64 x.s.lh) := (cell_of_row _ _ 8 _ _ (0, 0) (below_kept HB1.out cA)).trans rfl
  have x9 : wA.cell? ⟨w.heap.size, 9, none⟩ = some (.slice s2 n2 c2) := (cell_of_row _ _ 9 _ _ (0, 0) (below_kept HB1.out cA)).trans rfl
  have x10 : wA.cell? ⟨w.heap.size, 10, none⟩ = some (.int .i64 x.l.v) := (cell_of_row _ _ 10 _ _ (0, 0) (below_kept HB1.out cA)).trans rfl
  have x11 : wA.cell? ⟨w.heap.size, 11, none⟩ = some (.int .i64 x.l.e) := (cell_of_row _ _ 11 _ _ (0, 0) (below_kept HB1.out cA)).trans rfl
  have x12 : wA.cell? ⟨w.heap.size, 12, none⟩ = some (.slice s3 n3 c3) := (cell_of_row _ _ 12 _ _ (0, 0) (below_kept HB1.out cA)).trans rfl
  have x13 : wA.cell? ⟨w.heap.size, 13, none⟩ = some (.slice s4 n4 c4) := (cell_of_row _ _ 13 _ _ (0, 0) (below_kept HB1.out cA)).trans rfl
  go_wp2_with fail
  refine (toTrustFile_any x s0 n0 c0 s1 n1 c1 s2 n2 c2 s3 n3 c3 s4 n4 c4 _ (HR.out _ mA) HTS.out).mono ?_
  rintro e w3 ⟨p0, p1, p2, p3, p4, rfl, ho3, hO3, hb3⟩
  clear x0 x1 x2 x3 x4 x5 x6 x7 x8 x9 x10 x11 x12 x13
  have HO3 : Hid (TfO wA.heap.size w3.heap.size p0 n0 p1 n1 p2 n2 p3 n3 p4 n4 w3) := hO3
  obtain ⟨w4, hw4⟩ : ∃ w4, w4 = w3.alloc (.cells #[.int .i64 x.k, .int .i64 x.r.v, .int .i64 x.r.e, .slice p0 n0 n0, .slice p1 n1 n1, .int .i64 x.s.v, .int .i64 x.s.e, .int .i64 x.s.lv, .int .u64 x.s.lh, .slice p2 n2 n2, .int .i64 x.l.v, .int .i64 x.l.e, .slice p3 n3 n3, .slice p4 n4 n4] 48) := ⟨_, rfl⟩
  have hb4 : Below w3.heap.size w3 w4 := by rw [hw4]; exact (Below.refl _ _).alloc (Nat.le_refl _) _
  have HBX4 : Hid (w4.heap[w3.heap.size]? = some (.cells #[.int .i64 x.k, .int .i64 x.r.v, .int .i64 x.r.e, .slice p0 n0 n0, .slice p1 n1 n1, .int .i64 x.s.v, .int .i64 x.s.e, .int .i64 x.s.lv, .int .u64 x.s.lh, .slice p2 n2 n2, .int .i64 x.l.v, .int .i64 x.l.e, .slice p3 n3 n3, .slice p4 n4 n4] 48 (0, 0))) := by show _ = _; rw [hw4]; exact heap_alloc_new w3 _
  have cw4 : Below w1.heap.size w1 w4 := keepT cA (keepT hb3 hb4)
  have m4 : Below w.heap.size w w4 := keepT hb0 cw4
  have HX4 : Hid (TfR x p0 n0 p1 n1 p2 n2 p3 n3 p4 n4 w4) := ho3.kept hb4
  have H04 : Hid (Row w4 aw l.length l) := H0A.out.kept (keepT hb3 hb4)
  have zz3 := hb3.size
  have zz4 := hb4.size
  have k34 := hb4
  have HW : Hid (_ = _) := hw4
  clear hw4 ho3 hO3 hb3 hb4 H0A
  go_upto_region 7 with fail
  rw [← HW.out]
  clear HW
  have x0 : w4.cell? ⟨w3.heap.size, 0, none⟩ = some (.int .i64 x.k) := (cell_of_row _ _ 0 _ _ (0, 0) HBX4.out).trans rfl
  have x1 : w4.cell? ⟨w3.heap.size, 1, none⟩ = some (.int .i64 x.r.v) := (cell_of_row _ _ 1 _ _ (0, 0) HBX4.out).trans rfl
  have x2 : w4.cell? ⟨w3.heap.size, 2, none⟩ = some (.int .i64 x.r.e) := (cell_of_row _ _ 2 _ _ (0, 0) HBX4.out).trans rfl
  have x3 : w4.cell? ⟨w3.heap.size, 3, none⟩ = some (.slice p0 n0 n0) := (cell_of_row _ _ 3 _ _ (0, 0) HBX4.out).trans rfl
  have x4 : w4.cell? ⟨w3.heap.size, 4, none⟩ = some (.slice p1 n1 n1) := (cell_of_row _ _ 4 _ _ (0, 0) HBX4.out).trans rfl
  have x5 : w4.cell? ⟨w3.heap.size, 5, none⟩ = some (.int .i64 x.s.v) := (cell_of_row _ _ 5 _ _ (0, 0) HBX4.out).trans rfl
  have x6 : w4.cell? ⟨w3.heap.size, 6, none⟩ = some (.int .i64 x.s.e) := (cell_of_row _ _ 6 _ _ (0, 0) HBX4.out).trans rfl
  have x7 : w4.cell? ⟨w3.heap.size, 7, none⟩ = some (.int .i64 x.s.lv) := (cell_of_row _ _ 7 _ _ (0, 0) HBX4.out).trans rfl
  have x8 : w4.cell? ⟨w3.heap.size, 8, none⟩ = some (.int .u64 x.s.lh) := (cell_of_row _ _ 8 _ _ (0, 0) HBX4.out).trans rfl
  have x9 : w4.cell? ⟨w3.heap.size, 9, none⟩ = some (.slice p2 n2 n2) := (cell_of_row _ _ 9 _ _ (0, 0) HBX4.out).trans rfl
  have x10 : w4.cell? ⟨w3.heap.size, 10, none⟩ = some (.int .i64 x.l.v) := (cell_of_row _ _ 10 _ _ (0, 0) HBX4.out).trans rfl
  have x11 : w4.cell? ⟨w3.heap.size, 11, none⟩ = some (.int .i64 x.l.e) := (cell_of_row _ _ 11 _ _ (0, 0) HBX4.out).trans rfl
  have x12 : w4.cell? ⟨w3.heap.size, 12, none⟩ = some (.slice p3 n3 n3) := (cell_of_row _ _ 12 _ _ (0, 0) HBX4.out).trans rfl
  have x13 : w4.cell? ⟨w3.heap.size, 13, none⟩ = some (.slice p4 n4 n4) := (cell_of_row _ _ 13 _ _ (0, 0) HBX4.out).trans rfl
  go_wp2_with fail
  refine (implFileBody_any x p0 n0 n0 p1 n1 n1 p2 n2 n2 p3 n3 n3 p4 n4 n4 b l _ HX4.out HF.out).mono ?_
  rintro e w7 ⟨ag, cg, rfl, ho7, hb7⟩
  clear x0 x1 x2 x3 x4 x5 x6 x7 x8 x9 x10 x11 x12 x13
  have HG7 : Hid (Own w4.heap.size w7 ag l.length cg l) := ho7
  have HIG : Hid (In ag l.length w4.heap.size w7.heap.size) := ho7.in_
  have H07 : Hid (Row w7 aw l.length l) := H04.out.kept hb7
  have t0 : (b != b) = false := by simp
  clear ho7 H04
  go_wp2_with fail
  refine (eqByteS_any ag aw l.length l.length cg cw l l _ HG7.out.toRow H07.out hlm hlm).mono ?_
  rintro e w8 ⟨rfl, hb8⟩
  rw [decide_eq_true (rfl : l = l)]
  have k48 := keepT hb7 hb8
  have k38 : Below w3.heap.size w3 w8 := keepT k34 k48
  have c8 : Below w1.heap.size w1 w8 := keepT cw4 k48
  have m8 : Below w.heap.size w w8 := keepT hb0 c8
  have HG8 : Hid (Own w4.heap.size w8 ag l.length cg l) := HG7.out.kept hb8
  have H08 : Hid (Row w8 aw l.length l) := H07.out.kept hb8
  have HX8 : Hid (TfR x p0 n0 p1 n1 p2 n2 p3 n3 p4 n4 w8) := HX4.out.kept k48
  have HBX8 : Hid (w8.heap[w3.heap.size]? = some (.cells #[.int .i64 x.k, .int .i64 x.r.v, .int .i64 x.r.e, .slice p0 n0 n0, .slice p1 n1 n1, .int .i64 x.s.v, .int .i64 x.s.e, .int .i64 x.s.lv, .int .u64 x.s.lh, .slice p2 n2 n2, .int .i64 x.l.v, .int .i64 x.l.e, .slice p3 n3 n3, .slice p4 n4 n4] 48 (0, 0))) := below_kept HBX4.out k48
  have HBG8 : Hid (w8.heap[w.heap.size]? = some (.cells #[.int .i64 x.k, .int .i64 x.r.v, .int .i64 x.r.e, .slice s0 n0 c0, .slice s1 n1 c1, .int .i64 x.s.v, .int .i64 x.s.e, .int .i64 x.s.lv, .int .u64 x.s.lh, .slice s2 n2 c2, .int .i64 x.l.v, .int .i64 x.l.e, .slice s3 n3 c3, .slice s4 n4 c4] 33 (0, 0))) := below_kept HB1.out c8
  have HBB : w8.heap.size ≤ w8.heap.size := Nat.le_refl _
  have zz8 := k48.size
  clear hb7 hb8 HX4 HBX4 HG7 H07 k48
  go_upto_region 10 with fail
  refine wp_region_ri (tl20 x s0 n0 c0 s1 n1 c1 s2 n2 c2 s3 n3 c3 s4 n4 c4 p0 p1 p2 p3 p4 w.heap.size w3.heap.size (w8.heap.size)) [41, 42, 43, 44, 45] (w8.heap.size) (fun a0 => a0.tmps.size = 96 ∧ aT a0 1 = .pointer (some ⟨w.heap.size, 0, none⟩) ∧ aT a0 6 = .pointer (some ⟨w3.heap.size, 0, none⟩)) (by kernel_rfl) rfl (by kernel_rfl) rfl ⟨rfl, rfl, rfl⟩ (tl20_stb x s0 n0 c0 s1 n1 c1 s2 n2 c2 s3 n3 c3 s4 n4 c4 p0 p1 p2 p3 p4 w.heap.size w3.heap.size (w8.heap.size)) ?_ ?_ ?_
  · intro k hk hk2
    match k, hk, hk2 with
    | 5, _, _ => exact HBG8.out
    | 6, _, _ => exact HBX8.out
    | 0, hk, _ => exact absurd hk (by show ¬ (5 ≤ 0); omega)
    | 1, hk, _ => exact absurd hk (by show ¬ (5 ≤ 1); omega)
    | 2, hk, _ => exact absurd hk (by show ¬ (5 ≤ 2); omega)
    | 3, hk, _ => exact absurd hk (by show ¬ (5 ≤ 3); omega)
    | 4, hk, _ => exact absurd hk (by show ¬ (5 ≤ 4); omega)
    | k + 7, _, hk2 => exact absurd hk2 (by show ¬ (k + 7 < 7); omega)
  · rintro a0 ⟨hz, g1, g6⟩
    refine StepsRI.cons ?_ (StepsRI.cons ?_ (StepsRI.cons ?_ (StepsRI.cons ?_ (StepsRI.cons ?_ (StepsRI.nil)))))
    · intro lQ b W hI hUN hED KQ hKQ
      have hg := (hI.vot 6 (of_decide_eq_true rfl) (of_decide_eq_true rfl) rfl)
      refine wp_load_row 48 _ rfl (w3.heap.size) ((hI.fr.same 6 (by decide)).trans g6) 48 #[.int .i64 x.k, .int .i64 x.r.v, .int .i64 x.r.e, .slice p0 n0 n0, .slice p1 n1 n1, .int .i64 x.s.v, .int .i64 x.s.e, .int .i64 x.s.lv, .int .u64 x.s.lh, .slice p2 n2 n2, .int .i64 x.l.v, .int .i64 x.l.e, .slice p3 n3 n3, .slice p4 n4 n4] (0, 0) _ hg Tryz.underlying48 rfl (by kernel_rfl) ?_
      exact hKQ.out _ _ (hI.put 0 41 rfl rfl (by rw [hz]; decide) rfl hUN rfl HBB (tl20_stb x s0 n0 c0 s1 n1 c1 s2 n2 c2 s3 n3 c3 s4 n4 c4 p0 p1 p2 p3 p4 w.heap.size w3.heap.size (w8.heap.size)) (Below.refl _ _) rfl)
    · intro lQ b W hI hUN hED KQ hKQ
      have hg := (hI.vot 5 (of_decide_eq_true rfl) (of_decide_eq_true rfl) rfl)
      refine wp_load_row 33 _ rfl (w.heap.size) ((hI.fr.same 1 (by decide)).trans g1) 33 #[.int .i64 x.k, .int .i64 x.r.v, .int .i64 x.r.e, .slice s0 n0 c0, .slice s1 n1 c1, .int .i64 x.s.v, .int .i64 x.s.e, .int .i64 x.s.lv, .int .u64 x.s.lh, .slice s2 n2 c2, .int .i64 x.l.v, .int .i64 x.l.e, .slice s3 n3 c3, .slice s4 n4 c4] (0, 0) _ hg Tryz.underlying33 rfl (by kernel_rfl) ?_
      exact hKQ.out _ _ (hI.put 1 42 rfl rfl (by rw [hz]; decide) rfl hUN rfl HBB (tl20_stb x s0 n0 c0 s1 n1 c1 s2 n2 c2 s3 n3 c3 s4 n4 c4 p0 p1 p2 p3 p4 w.heap.size w3.heap.size (w8.heap.size)) (Below.refl _ _) rfl)
    · intro lQ b W hI hUN hED KQ hKQ
      have f0 := hI.got 1 (of_decide_eq_true rfl) (edge hED 1 (by kernel_rfl)) rfl
      replace f0 : aT b 42 = .agg #[.int .i64 x.k, .int .i64 x.r.v, .int .i64 x.r.e, .slice s0 n0 c0, .slice s1 n1 c1, .int .i64 x.s.v, .int .i64 x.s.e, .int .i64 x.s.lv, .int .u64 x.s.lh, .slice s2 n2 c2, .int .i64 x.l.v, .int .i64 x.l.e, .slice s3 n3 c3, .slice s4 n4 c4] := f0
      refine opw_call 7 #[.tmp 42] _ _ _ rfl Tryz.func7 (by kernel_rfl) rfl #[.agg #[.int .i64 x.k, .int .i64 x.r.v, .int .i64 x.r.e, .slice s0 n0 c0, .slice s1 n1 c1, .int .i64 x.s.v, .int .i64 x.s.e, .int .i64 x.s.lv, .int .u64 x.s.lh, .slice s2 n2 c2, .int .i64 x.l.v, .int .i64 x.l.e, .slice s3 n3 c3, .slice s4 n4 c4]] (by simp [ev, f0]) ?_
      refine (toTrustFile_any x s0 n0 c0 s1 n1 c1 s2 n2 c2 s3 n3 c3 s4 n4 c4 W (HR.out _ (keepT m8 hI.bel)) HTS.out).mono ?_
      rintro e W2 ⟨q0, q1, q2, q3, q4, rfl, ho, _, hb⟩
      exact ⟨_, rfl, hKQ.out _ _ (hI.put 2 43 rfl rfl (by rw [hz]; decide) rfl hUN rfl HBB (tl20_stb x s0 n0 c0 s1 n1 c1 s2 n2 c2 s3 n3 c3 s4 n4 c4 p0 p1 p2 p3 p4 w.heap.size w3.heap.size (w8.heap.size)) hb ⟨q0, q1, q2, q3, q4, rfl, ho⟩)⟩
    · intro lQ b W hI hUN hED KQ hKQ
      have f0 := hI.got 0 (of_decide_eq_true rfl) (edge hED 0 (by kernel_rfl)) rfl
      replace f0 : aT b 41 = .agg #[.int .i64 x.k, .int .i64 x.r.v, .int .i64 x.r.e, .slice p0 n0 n0, .slice p1 n1 n1, .int .i64 x.s.v, .int .i64 x.s.e, .int .i64 x.s.lv, .int .u64 x.s.lh, .slice p2 n2 n2, .int .i64 x.l.v, .int .i64 x.l.e, .slice p3 n3 n3, .slice p4 n4 n4] := f0
      have f1 := hI.got 2 (of_decide_eq_true rfl) (edge hED 2 (by kernel_rfl)) rfl
      obtain ⟨q0, q1, q2, q3, q4, f1, o1_0⟩ := f1
      replace f1 : aT b 43 = .agg #[.int .i64 x.k, .int .i64 x.r.v, .int .i64 x.r.e, .slice q0 n0 n0, .slice q1 n1 n1, .int .i64 x.s.v, .int .i64 x.s.e, .int .i64 x.s.lv, .int .u64 x.s.lh, .slice q2 n2 n2, .int .i64 x.l.v, .int .i64 x.l.e, .slice q3 n3 n3, .slice q4 n4 n4] := f1
      refine opw_call 10 #[.tmp 41, .tmp 43] _ _ _ rfl Tryz.func10 (by kernel_rfl) rfl #[.agg #[.int .i64 x.k, .int .i64 x.r.v, .int .i64 x.r.e, .slice p0 n0 n0, .slice p1 n1 n1, .int .i64 x.s.v, .int .i64 x.s.e, .int .i64 x.s.lv, .int .u64 x.s.lh, .slice p2 n2 n2, .int .i64 x.l.v, .int .i64 x.l.e, .slice p3 n3 n3, .slice p4 n4 n4], .agg #[.int .i64 x.k, .int .i64 x.r.v, .int .i64 x.r.e, .slice q0 n0 n0, .slice q1 n1 n1, .int .i64 x.s.v, .int .i64 x.s.e, .int .i64 x.s.lv, .int .u64 x.s.lh, .slice q2 n2 n2, .int .i64 x.l.v, .int .i64 x.l.e, .slice q3 n3 n3, .slice q4 n4 n4]] (by simp [ev, f0, f1]) ?_
      refine (eqTrustFile_same x p0 n0 n0 p1 n1 n1 p2 n2 n2 p3 n3 n3 p4 n4 n4 q0 n0 q1 n1 q2 n2 q3 n3 q4 n4 W (HX8.out.kept hI.bel) o1_0).mono ?_
      rintro e W2 ⟨rfl, hb⟩
      exact ⟨_, rfl, hKQ.out _ _ (hI.put 3 44 rfl rfl (by rw [hz]; decide) rfl hUN rfl HBB (tl20_stb x s0 n0 c0 s1 n1 c1 s2 n2 c2 s3 n3 c3 s4 n4 c4 p0 p1 p2 p3 p4 w.heap.size w3.heap.size (w8.heap.size)) hb rfl)⟩
    · intro lQ b W hI hUN hED KQ hKQ
      have f : aT b 44 = .bool true := hI.got 3 (of_decide_eq_true rfl) (edge hED 3 (by kernel_rfl)) rfl
      exact opw_not _ 44 rfl true f (hKQ.out _ _ (hI.put 4 45 rfl rfl (by rw [hz]; decide) rfl hUN rfl HBB (tl20_stb x s0 n0 c0 s1 n1 c1 s2 n2 c2 s3 n3 c3 s4 n4 c4 p0 p1 p2 p3 p4 w.heap.size w3.heap.size (w8.heap.size)) (Below.refl _ _) rfl))
  · intro b W hf hb F
    have e45 : aT b 45 = .bool false := F 4 (of_decide_eq_true rfl) rfl
    rw [hf.eq]
    simp only [puts, Act.put, List.setIfInBounds_toArray, List.set_cons_zero, List.set_cons_succ, e45]
    clear hf F e45
    generalize aT b = AT
    clear b
    have cW : Below w1.heap.size w1 W := keepT c8 hb
    have mW : Below w.heap.size w W := keepT hb0 cW
    have k3W : Below w3.heap.size w3 W := keepT k38 hb
    have HGW : Hid (Own w4.heap.size W ag l.length cg l) := HG8.out.kept hb
    have H0W : Hid (Row W aw l.length l) := H08.out.kept hb
    have HOW : Hid (TfO wA.heap.size w3.heap.size p0 n0 p1 n1 p2 n2 p3 n3 p4 n4 W) := HO3.out.sh (Sh.below k3W)
    have HBGW : Hid (W.heap[w.heap.size]? = some (.cells #[.int .i64 x.k, .int .i64 x.r.v, .int .i64 x.r.e, .slice s0 n0 c0, .slice s1 n1 c1, .int .i64 x.s.v, .int .i64 x.s.e, .int .i64 x.s.lv, .int .u64 x.s.lh, .slice s2 n2 c2, .int .i64 x.l.v, .int .i64 x.l.e, .slice s3 n3 c3, .slice s4 n4 c4] 33 (0, 0))) := below_kept HB1.out cW
    have zzW := hb.size
    have x0 : W.cell? ⟨w3.heap.size, 0, none⟩ = some (.int .i64 x.k) := (cell_of_row _ _ 0 _ _ (0, 0) (below_kept HBX8.out hb)).trans rfl
    have x1 : W.cell? ⟨w3.heap.size, 1, none⟩ = some (.int .i64 x.r.v) := (cell_of_row _ _ 1 _ _ (0, 0) (below_kept HBX8.out hb)).trans rfl
    have x2 : W.cell? ⟨w3.heap.size, 2, none⟩ = some (.int .i64 x.r.e) := (cell_of_row _ _ 2 _ _ (0, 0) (below_kept HBX8.out hb)).trans rfl
    have x3 : W.cell? ⟨w3.heap.size, 3, none⟩ = some (.slice p0 n0 n0) := (cell_of_row _ _ 3 _ _ (0, 0) (below_kept HBX8.out hb)).trans rfl
    have x4 : W.cell? ⟨w3.heap.size, 4, none⟩ = some (.slice p1 n1 n1) := (cell_of_row _ _ 4 _ _ (0, 0) (below_kept HBX8.out hb)).trans rfl
    have x5 : W.cell? ⟨w3.heap.size, 5, none⟩ = some (.int .i64 x.s.v) := (cell_of_row _ _ 5 _ _ (0, 0) (below_kept HBX8.out hb)).trans rfl
    have x6 : W.cell? ⟨w3.heap.size, 6, none⟩ = some (.int .i64 x.s.e) := (cell_of_row _ _ 6 _ _ (0, 0) (below_kept HBX8.out hb)).trans rfl
    have x7 : W.cell? ⟨w3.heap.size, 7, none⟩ = some (.int .i64 x.s.lv) := (cell_of_row _ _ 7 _ _ (0, 0) (below_kept HBX8.out hb)).trans rfl
    have x8 : W.cell? ⟨w3.heap.size, 8, none⟩ = some (.int .u64 x.s.lh) := (cell_of_row _ _ 8 _ _ (0, 0) (below_kept HBX8.out hb)).trans rfl
    have x9 : W.cell? ⟨w3.heap.size, 9, none⟩ = some (.slice p2 n2 n2) := (cell_of_row _ _ 9 _ _ (0, 0) (below_kept HBX8.out hb)).trans rfl
    have x10 : W.cell? ⟨w3.heap.size, 10, none⟩ = some (.int .i64 x.l.v) := (cell_of_row _ _ 10 _ _ (0, 0) (below_kept HBX8.out hb)).trans rfl
    have x11 : W.cell? ⟨w3.heap.size, 11, none⟩ = some (.int .i64 x.l.e) := (cell_of_row _ _ 11 _ _ (0, 0) (below_kept HBX8.out hb)).trans rfl
    have x12 : W.cell? ⟨w3.heap.size, 12, none⟩ = some (.slice p3 n3 n3) := (cell_of_row _ _ 12 _ _ (0, 0) (below_kept HBX8.out hb)).trans rfl
    have x13 : W.cell? ⟨w3.heap.size, 13, none⟩ = some (.slice p4 n4 n4) := (cell_of_row _ _ 13 _ _ (0, 0) (below_kept HBX8.out hb)).trans rfl
    clear HG8 H08 HX8 HBX8 HBG8 hb
    go_wp2_with fail
    refine (markTrustFile_any wA.heap.size w3.heap.size x p0 n0 n0 p1 n1 n1 p2 n2 n2 p3 n3 n3 p4 n4 n4 1 _ HOW.out HTS.out (by omega) (by decide)).mono ?_
    rintro e w9 ⟨K, hK, rfl, T9, _⟩
    clear x0 x1 x2 x3 x4 x5 x6 x7 x8 x9 x10 x11 x12 x13
    have m9 : Below w.heap.size w w9 := mW.trans (T9.below (by omega) mW.size)
    have HG9 : Hid (Own w4.heap.size w9 ag l.length cg l) := HGW.out.touch5 T9 (by omega)
    have H09 : Hid (Row w9 aw l.length l) := H0W.out.touch HI0.out (.inl (Nat.le_refl _)) T9
    have HBG9 : Hid (w9.heap[w.heap.size]? = some (.cells #[.int .i64 x.k, .int .i64 x.r.v, .int .i64 x.r.e, .slice s0 n0 c0, .slice s1 n1 c1, .int .i64 x.s.v, .int .i64 x.s.e, .int .i64 x.s.lv, .int .u64 x.s.lh, .slice s2 n2 c2, .int .i64 x.l.v, .int .i64 x.l.e, .slice s3 n3 c3, .slice s4 n4 c4] 33 (0, 0))) := touch_kept T9 HBGW.out (.inl (by omega))
    have zz9 := T9.size
    have hK0 : ¬ ((K : Int) < 0) := by omega
    clear T9 HGW H0W HOW HBGW
    go_wp2_with fail
    refine (eqByteS_any ag aw l.length l.length cg cw l l _ HG9.out.toRow H09.out hlm hlm).mono ?_
    rintro e w10 ⟨rfl, hb10⟩
    rw [decide_eq_true (rfl : l = l)]
    have m10 : Below w.heap.size w w10 := keepT m9 hb10
    have HG10 : Hid (Own w4.heap.size w10 ag l.length cg l) := HG9.out.kept hb10
    have H010 : Hid (Row w10 aw l.length l) := H09.out.kept hb10
    have HBG10 : Hid (w10.heap[w.heap.size]? = some (.cells #[.int .i64 x.k, .int .i64 x.r.v, .int .i64 x.r.e, .slice s0 n0 c0, .slice s1 n1 c1, .int .i64 x.s.v, .int .i64 x.s.e, .int .i64 x.s.lv, .int .u64 x.s.lh, .slice s2 n2 c2, .int .i64 x.l.v, .int .i64 x.l.e, .slice s3 n3 c3, .slice s4 n4 c4] 33 (0, 0))) := below_kept HBG9.out hb10
    have zz10 := hb10.size
    clear HG9 H09 HBG9 hb10
    go_wp2_with fail
    refine (markByteS_t w4.heap.size ag l.length cg 1 l _ (fun _ => HG10.out) (by omega) (by decide) (by decide)).mono ?_
    rintro e w11 ⟨rfl, _, hr11, ht11⟩
    have T11 := ht11 _ _ HIG.out
    have m11 : Below w.heap.size w w11 := m10.trans (T11.below (by omega) m10.size)
    have H011 : Hid (Row w11 aw l.length l) := H010.out.touch HI0.out (.inl (by omega)) T11
    have HBG11 : Hid (w11.heap[w.heap.size]? = some (.cells #[.int .i64 x.k, .int .i64 x.r.v, .int .i64 x.r.e, .slice s0 n0 c0, .slice s1 n1 c1, .int .i64 x.s.v, .int .i64 x.s.e, .int .i64 x.s.lv, .int .u64 x.s.lh, .slice s2 n2 c2, .int .i64 x.l.v, .int .i64 x.l.e, .slice s3 n3 c3, .slice s4 n4 c4] 33 (0, 0))) := touch_kept T11 HBG10.out (.inl (by omega))
    have HR11 : Hid (Row w11 ag l.length (marks (1 : Int).toNat l.length)) := hr11
    clear hr11 ht11 T11 HG10 H010 HBG10
    go_wp2_with fail
    refine (heldByteS_int ag l.length cg 1 _ HR11.out (by omega) (by decide) (by decide)).mono ?_
    rintro e w12 ⟨rfl, hw⟩
    have hw2 := hw.symm
    subst hw2
    have z3 : ¬ ((1 : Int) + l.length < 0) := by omega
    have z4 : ((1 : Int) + l.length != 1 + l.length) = false := by simp
    have x0 : w11.cell? ⟨w.heap.size, 0, none⟩ = some (.int .i64 x.k) := (cell_of_row _ _ 0 _ _ (0, 0) HBG11.out).trans rfl
    have x1 : w11.cell? ⟨w.heap.size, 1, none⟩ = some (.int .i64 x.r.v) := (cell_of_row _ _ 1 _ _ (0, 0) HBG11.out).trans rfl
    have x2 : w11.cell? ⟨w.heap.size, 2, none⟩ = some (.int .i64 x.r.e) := (cell_of_row _ _ 2 _ _ (0, 0) HBG11.out).trans rfl
    have x3 : w11.cell? ⟨w.heap.size, 3, none⟩ = some (.slice s0 n0 c0) := (cell_of_row _ _ 3 _ _ (0, 0) HBG11.out).trans rfl
    have x4 : w11.cell? ⟨w.heap.size, 4, none⟩ = some (.slice s1 n1 c1) := (cell_of_row _ _ 4 _ _ (0, 0) HBG11.out).trans rfl
    have x5 : w11.cell? ⟨w.heap.size, 5, none⟩ = some (.int .i64 x.s.v) := (cell_of_row _ _ 5 _ _ (0, 0) HBG11.out).trans rfl
    have x6 : w11.cell? ⟨w.heap.size, 6, none⟩ = some (.int .i64 x.s.e) := (cell_of_row _ _ 6 _ _ (0, 0) HBG11.out).trans rfl
    have x7 : w11.cell? ⟨w.heap.size, 7, none⟩ = some (.int .i64 x.s.lv) := (cell_of_row _ _ 7 _ _ (0, 0) HBG11.out).trans rfl
    have x8 : w11.cell? ⟨w.heap.size, 8, none⟩ = some (.int .u64 x.s.lh) := (cell_of_row _ _ 8 _ _ (0, 0) HBG11.out).trans rfl
    have x9 : w11.cell? ⟨w.heap.size, 9, none⟩ = some (.slice s2 n2 c2) := (cell_of_row _ _ 9 _ _ (0, 0) HBG11.out).trans rfl
    have x10 : w11.cell? ⟨w.heap.size, 10, none⟩ = some (.int .i64 x.l.v) := (cell_of_row _ _ 10 _ _ (0, 0) HBG11.out).trans rfl
    have x11 : w11.cell? ⟨w.heap.size, 11, none⟩ = some (.int .i64 x.l.e) := (cell_of_row _ _ 11 _ _ (0, 0) HBG11.out).trans rfl
    have x12 : w11.cell? ⟨w.heap.size, 12, none⟩ = some (.slice s3 n3 c3) := (cell_of_row _ _ 12 _ _ (0, 0) HBG11.out).trans rfl
    have x13 : w11.cell? ⟨w.heap.size, 13, none⟩ = some (.slice s4 n4 c4) := (cell_of_row _ _ 13 _ _ (0, 0) HBG11.out).trans rfl
    go_wp2_with fail
    refine (toTrustFile_any x s0 n0 c0 s1 n1 c1 s2 n2 c2 s3 n3 c3 s4 n4 c4 _ (HR.out _ m11) HTS.out).mono ?_
    rintro e w13 ⟨q0, q1, q2, q3, q4, rfl, ho13, _, hb13⟩
    clear x0 x1 x2 x3 x4 x5 x6 x7 x8 x9 x10 x11 x12 x13
    go_wp2_with fail
    refine (implFileBody_any x q0 n0 n0 q1 n1 n1 q2 n2 n2 q3 n3 n3 q4 n4 n4 b l _ ho13 HF.out).mono ?_
    rintro e w14 ⟨a14, c14, rfl, ho14, hb14⟩
    have k14 := keepT hb13 hb14
    have m14 : Below w.heap.size w w14 := keepT m11 k14
    clear hb13 hb14 ho13
    go_wp2_with fail
    refine (eqByteS_any a14 aw l.length l.length c14 cw l l _ ho14.toRow (H011.out.kept k14) hlm hlm).mono ?_
    rintro e w15 ⟨rfl, hb15⟩
    rw [decide_eq_true (rfl : l = l)]
    have k15 := keepT k14 hb15
    have m15 : Below w.heap.size w w15 := keepT m14 hb15
    clear ho14 hb15
    go_wp2_with fail
    refine (heldByteS_int ag l.length cg 1 _ (HR11.out.kept k15) (by omega) (by decide) (by decide)).mono ?_
    rintro e w16 ⟨rfl, hw⟩
    have hw2 := hw.symm
    subst hw2
    go_wp2_with fail
    go_ret
    exact ⟨rfl, m15⟩

end Go.Proofs.YtglpbgebcpijaaaGreat

