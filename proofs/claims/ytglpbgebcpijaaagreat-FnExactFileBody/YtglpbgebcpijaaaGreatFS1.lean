import Derived.Test.YtglpbgebcpijaaaGreatSR0t
import Derived.Deep.MidRow
namespace Go.Proofs.YtglpbgebcpijaaaGreat
open Go.RowKit

structure FsP where
  key : Int
  sg : List Int
  deriving Inhabited

set_option maxRecDepth 10000 in
set_option maxHeartbeats 1000000 in
theorem szFileSig_gen (x : FsP) (a : Option Addr) (n cap : Nat) (l : Int) (w : World) (hn : n ≤ 9223372036854775807) (h0 : 0 ≤ l) (h1 : l ≤ 1048576) :
    Calls Tryz.prog 86 #[.agg #[.int .u64 x.key, .slice a n cap], .int .i64 l] w fun e w' => ∃ r, e = .returned (.int .i64 r) ∧ (r < 0 ∨ (0 ≤ r ∧ r ≤ 1048576 ∧ n ≤ 1048576)) ∧ Below w.heap.size w w' := by
  have hbb : Below w.heap.size w (w.alloc (.cells #[.int .u64 x.key, .slice a n cap] 149)) := (Below.refl _ _).alloc (Nat.le_refl _) _
  go_enter Tryz.func86, Tryz.ntmps86
  go_wp2_with fail
  refine (szByteS_gen a n cap l _ hn h0 h1).mono ?_
  rintro e w1 ⟨r, rfl, hr, hw⟩
  subst hw
  by_cases hneg : r < 0
  · clear hr
    go_wp2
    go_ret
    exact ⟨_, rfl, .inl (by decide), hbb⟩
  · have HR : Hid (0 ≤ r ∧ r ≤ 1048576 ∧ n ≤ 1048576) := by show _ ∧ _; omega
    clear hr
    go_wp2
    go_ret
    exact ⟨_, rfl, .inr HR.out, hbb⟩

theorem results_Fs {fn : Func} {t : Tmp} (h : fn.results = #[.cell t 155]) (tmps : Array Value) (g : Nat) (ht : tmps.getD t undef = .pointer (some ⟨g, 0, none⟩)) (w : World) (c0 c1 : Value)
    (hb : w.heap[g]? = some (.cells #[c0, c1] 155 (0, 0))) : (results fn tmps).run Tryz.prog w = .ok (.agg #[c0, c1]) w := by
  have d0 : w.cell? ⟨g, 0, none⟩ = some c0 := (cell_of_row _ g 0 _ 155 (0, 0) hb).trans rfl
  have d1 : w.cell? ⟨g, 1, none⟩ = some c1 := (cell_of_row _ g 1 _ 155 (0, 0) hb).trans rfl
  clear hb
  have ht' : tmps[t]?.getD undef = .pointer (some ⟨g, 0, none⟩) := by rw [← ht]; simp
  simp [results, h, go_sem, ht', d0, d1]
def putFs (w : World) (g o : Nat) (u0 u1 : Value) : World := (w.setCell ⟨g, o, none⟩ u0).setCell ⟨g, o + 1, none⟩ u1
theorem putFs_touch (w : World) (g o : Nat) (u0 u1 : Value) : Touch g (g + 1) w (putFs w g o u0 u1) := by
  unfold putFs
  refine (touch_set1 w g _ u0).trans (touch_set1 _ g _ u1)
theorem putFs_heap {w : World} {g t : Nat} {c0 c1 : Value} (h : w.heap[g]? = some (.cells #[c0, c1] t (0, 0))) (u0 u1 : Value) : (putFs w g 0 u0 u1).heap[g]? = some (.cells #[u0, u1] t (0, 0)) :=
  heap_setCell_same _ _ 1 _ t _ (heap_setCell_same _ _ 0 _ t _ h)

set_option maxRecDepth 10000 in
set_option maxHeartbeats 4000000 in
theorem toFileSig_any (x : FsP) (a : Option Addr) (n c : Nat) (w : World) (h : Row w a n x.sg) (hn : n ≤ 1048576) :
    Calls Tryz.prog 95 #[.agg #[.int .u64 x.key, .slice a n c]] w fun e w' => ∃ a1, e = .returned (.agg #[.int .u64 x.key, .slice a1 n n]) ∧ Own w.heap.size w' a1 n n x.sg ∧ Below w.heap.size w w' := by
  obtain ⟨w1, hw1⟩ : ∃ w1, w1 = ((w.alloc (.cells #[.int .u64 x.key, .slice a n c] 149)).alloc (.cells #[.int .u64 0, .slice none 0 0] 155)).alloc (.cells #[.int .u64 x.key, .slice none 0 0] 155) := ⟨_, rfl⟩
  have hbb : Below w.heap.size w w1 := by rw [hw1]; exact (((Below.refl _ _).alloc (Nat.le_refl _) _).alloc (by simp) _).alloc (by simp; omega) _
  have hsz : w1.heap.size = w.heap.size + 3 := by rw [hw1]; simp
  obtain ⟨B0, B1, B2⟩ := heap_alloc2_newH w (.cells #[.int .u64 x.key, .slice a n c] 149) (.cells #[.int .u64 0, .slice none 0 0] 155) (.cells #[.int .u64 x.key, .slice none 0 0] 155)
  rw [← hw1] at B0 B1 B2
  have HW : Hid (_ = _) := hw1
  have HE : Hid (Row w a n x.sg) := h
  clear hw1 h
  have l0 : w1.cell? ⟨w.heap.size, 1, none⟩ = some (.slice a n c) := (cell_of_row _ _ 1 _ 149 (0, 0) B0).trans rfl
  go_enter Tryz.func95, Tryz.ntmps95
  go_upto_region 3 with fail
  rw [← HW.out]
  clear HW
  go_wp2_with fail
  refine (toByteS_any a n c x.sg _ (HE.out.kept hbb) (by omega)).mono ?_
  rintro e w2 ⟨a1, rfl, hr1, hb2⟩
  clear l0
  have B12 := (hb2.block _ (by omega)).trans B1
  have B22 := (hb2.block _ (by omega)).trans B2
  have x0 : w2.cell? ⟨w.heap.size + 1 + 1, 0, none⟩ = some (.int .u64 x.key) := (cell_of_row _ _ 0 _ 155 (0, 0) B22).trans rfl
  have x1 : w2.cell? ⟨w.heap.size + 1 + 1, 1, none⟩ = some (.slice none 0 0) := (cell_of_row _ _ 1 _ 155 (0, 0) B22).trans rfl
  have y1 : w2.frozen? ⟨w.heap.size + 1 + 1, 1, none⟩ = false := frozen_of_row w2 _ 1 _ 155 B22
  have r0 : w2.cell? ⟨w.heap.size + 1, 0, none⟩ = some (.int .u64 0) := (cell_of_row _ _ 0 _ 155 (0, 0) B12).trans rfl
  have f0 : w2.frozen? ⟨w.heap.size + 1, 0, none⟩ = false := frozen_of_row w2 _ 0 _ 155 B12
  have r1 : w2.cell? ⟨w.heap.size + 1, 1, none⟩ = some (.slice none 0 0) := (cell_of_row _ _ 1 _ 155 (0, 0) B12).trans rfl
  have f1 : w2.frozen? ⟨w.heap.size + 1, 1, none⟩ = false := frozen_of_row w2 _ 1 _ 155 B12
  have HD1 : Hid (_ = _) := B12
  have HR2 : Hid (Own w1.heap.size w2 a1 n n x.sg) := hr1
  have HB2 : Hid (Below w.heap.size w w2) := keepT hbb hb2
  have hs2 := hb2.size
  clear hr1 hb2 B12 B22 B0 B1 B2
  go_wp2_with fail
  try simp only [Exit.inBlock, Exit.then]
  have T1 : Touch (w.heap.size + 1) (w.heap.size + 3) w2 (w2.setCell ⟨w.heap.size + 1 + 1, 1, none⟩ (.slice a1 n n)) := (touch_set1 w2 (w.heap.size + 1 + 1) 1 _).mono (by omega) (by omega)
  have T2 : Touch (w.heap.size + 1) (w.heap.size + 3) w2 (putFs (w2.setCell ⟨w.heap.size + 1 + 1, 1, none⟩ (.slice a1 n n)) (w.heap.size + 1) 0 (.int .u64 x.key) (.slice a1 n n)) := T1.trans ((putFs_touch _ (w.heap.size + 1) 0 _ _).mono (by omega) (by omega))
  refine bodyPost_ret (results_Fs rfl _ (w.heap.size + 1) rfl _ _ _ (putFs_heap ((Below.heap_setCell _ _ _ _ (by simp)).trans HD1.out) _ _)) rfl ⟨_, rfl, ?_, ?_⟩
  · exact (HR2.out.touch5 T2 (by omega)).mono (by omega)
  · exact HB2.out.trans (T2.below (by omega) (by omega))

set_option maxRecDepth 10000 in
set_option maxHeartbeats 2000000 in
theorem eqFileSig_same (x : FsP) (a b : Option Addr) (n ca cb : Nat) (w : World) (h : Row w a n x.sg) (h2 : Row w b n x.sg) (hn : n ≤ maxLen) :
    Calls Tryz.prog 98 #[.agg #[.int .u64 x.key, .slice a n ca], .agg #[.int .u64 x.key, .slice b n cb]] w fun e w' => e = .returned (.bool true) ∧ Below w.heap.size w w' := by
  obtain ⟨w1, hw1⟩ : ∃ w1, w1 = (w.alloc (.cells #[.int .u64 x.key, .slice a n ca] 155)).alloc (.cells #[.int .u64 x.key, .slice b n cb] 155) := ⟨_, rfl⟩
  have hbb : Below w.heap.size w w1 := by rw [hw1]; exact ((Below.refl _ _).alloc (Nat.le_refl _) _).alloc (by simp) _
  have HA : Hid (Row w1 a n x.sg) := h.kept hbb
  have HB : Hid (Row w1 b n x.sg) := h2.kept hbb
  have s1 : (w.alloc (.cells #[.int .u64 x.key, .slice a n ca] 155)).heap.size = w.heap.size + 1 := by simp
  have B0 : w1.heap[w.heap.size]? = some (.cells #[.int .u64 x.key, .slice a n ca] 155 (0, 0)) := by rw [hw1]; exact (alloc_oldT _ _ _ (by simp)).trans (heap_alloc_new w _)
  have B1 : w1.heap[w.heap.size + 1]? = some (.cells #[.int .u64 x.key, .slice b n cb] 155 (0, 0)) := by rw [hw1, ← s1]; exact heap_alloc_new _ _
  have x0 : w1.cell? ⟨w.heap.size, 0, none⟩ = some (.int .u64 x.key) := (cell_of_row _ _ 0 _ 155 (0, 0) B0).trans rfl
  have y0 : w1.cell? ⟨w.heap.size + 1, 0, none⟩ = some (.int .u64 x.key) := (cell_of_row _ _ 0 _ 155 (0, 0) B1).trans rfl
  have x1 : w1.cell? ⟨w.heap.size, 1, none⟩ = some (.slice a n ca) := (cell_of_row _ _ 1 _ 155 (0, 0) B0).trans rfl
  have y1 : w1.cell? ⟨w.heap.size + 1, 1, none⟩ = some (.slice b n cb) := (cell_of_row _ _ 1 _ 155 (0, 0) B1).trans rfl
  have z0 : (x.key != x.key) = false := by simp
  have HW : Hid (_ = _) := hw1
  clear hw1 s1 B0 B1 h h2
  go_enter Tryz.func98, Tryz.ntmps98
  go_upto_region 1 with fail
  rw [← HW.out]
  clear HW
  go_wp2_with fail
  refine (eqByteS_any a b n n ca cb x.sg x.sg _ HA.out HB.out hn hn).mono ?_
  rintro e w2 ⟨rfl, hb2⟩
  rw [decide_eq_true (rfl : x.sg = x.sg)]
  go_wp2
  go_ret
  exact ⟨rfl, keepT hbb hb2⟩

end Go.Proofs.YtglpbgebcpijaaaGreat
