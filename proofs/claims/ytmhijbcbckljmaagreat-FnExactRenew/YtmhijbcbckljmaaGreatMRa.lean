import Derived.Test.YtmhijbcbckljmaaGreatMHs
import Derived.Deep.MidRow
import Derived.Test.YtmhijbcbckljmaaGreatMRs
import Derived.Test.YtmhijbcbckljmaaGreatSA1
import Derived.Test.YtmhijbcbckljmaaGreatW2
import Derived.Test.YtmhijbcbckljmaaGreatWApp
import Derived.Test.YtmhijbcbckljmaaGreatTT4
namespace Go.Proofs.YtmhijbcbckljmaaGreat
open Go.RowKit Go.Sort

theorem heap_alloc2_newH (w : World) (o0 o1 o2 : Obj) : (((w.alloc o0).alloc o1).alloc o2).heap[w.heap.size]? = some o0 ∧ (((w.alloc o0).alloc o1).alloc o2).heap[w.heap.size + 1]? = some o1 ∧ (((w.alloc o0).alloc o1).alloc o2).heap[w.heap.size + 1 + 1]? = some o2 := by
  have s1 : (w.alloc o0).heap.size = w.heap.size + 1 := by simp
  have s2 : ((w.alloc o0).alloc o1).heap.size = w.heap.size + 1 + 1 := by simp
  refine ⟨(alloc_oldT _ _ _ (by simp; omega)).trans ((alloc_oldT _ _ _ (by simp)).trans (heap_alloc_new w o0)), (alloc_oldT _ _ _ (by simp)).trans (by rw [← s1]; exact heap_alloc_new _ o1), by rw [← s2]; exact heap_alloc_new _ o2⟩

set_option maxRecDepth 10000 in
set_option maxHeartbeats 400000 in
theorem szByteS_gen (a : Option Addr) (n cap : Nat) (l : Int) (w : World) (hn : n ≤ 9223372036854775807) (h0 : 0 ≤ l) (h1 : l ≤ 1048576) :
    Calls Tryz.prog 32 #[.slice a n cap, .int .i64 l] w fun e w' => ∃ r, e = .returned (.int .i64 r) ∧ (r < 0 ∨ (0 ≤ r ∧ r ≤ 1048576 ∧ n ≤ 1048576)) ∧ w = w' := by
  by_cases hlt : (n : Int) ≤ l
  · have h1 : ¬ l - (n : Int) < 0 := by omega
    go_enter Tryz.func32, Tryz.ntmps32
    go_wp2
    go_ret
    exact ⟨_, rfl, .inr (by omega), rfl⟩
  · have h1 : l - (n : Int) < 0 := by omega
    go_enter Tryz.func32, Tryz.ntmps32
    go_wp2
    go_ret
    exact ⟨_, rfl, .inl (by decide), rfl⟩

end Go.Proofs.YtmhijbcbckljmaaGreat

namespace Go.Proofs.YtmhijbcbckljmaaGreat
open Go.RowKit

structure StP where
  alg : Int
  dg : Int
  at2 : Int
  ky : Int
  sg : List Int
  deriving Inhabited

set_option maxRecDepth 10000 in
set_option maxHeartbeats 1000000 in
theorem szStamp_gen (x : StP) (a : Option Addr) (n cap : Nat) (l : Int) (w : World) (hn : n ≤ 9223372036854775807) (h0 : 0 ≤ l) (h1 : l ≤ 1048576) :
    Calls Tryz.prog 16 #[.agg #[.int .i64 x.alg, .int .u64 x.dg, .int .i64 x.at2, .int .u64 x.ky, .slice a n cap], .int .i64 l] w fun e w' => ∃ r, e = .returned (.int .i64 r) ∧ (r < 0 ∨ (0 ≤ r ∧ r ≤ 1048576 ∧ n ≤ 1048576)) ∧ Below w.heap.size w w' := by
  have hbb : Below w.heap.size w (w.alloc (.cells #[.int .i64 x.alg, .int .u64 x.dg, .int .i64 x.at2, .int .u64 x.ky, .slice a n cap] 43)) := (Below.refl _ _).alloc (Nat.le_refl _) _
  go_enter Tryz.func16, Tryz.ntmps16
  go_wp2_with fail
  refine (szByteS_gen a n cap l _ hn h0 h1).mono ?_
  rintro e w1 ⟨r, rfl, hr, hw⟩
  subst hw
  by_cases hneg : r < 0
  · clear hr
    go_wp2
    go_ret
    exact ⟨_, rfl, .inl (by decide), hbb⟩
  · have HR : Hid (0 ≤ r ∧ r ≤ 1048576 ∧ n ≤ 1048576) := by show _ ∧ _; omega
    clear hr
    go_wp2
    go_ret
    exact ⟨_, rfl, .inr HR.out, hbb⟩

theorem results_St {fn : Func} {t : Tmp} (h : fn.results = #[.cell t 45]) (tmps : Array Value) (g : Nat) (ht : tmps.getD t undef = .pointer (some ⟨g, 0, none⟩)) (w : World) (c0 c1 c2 c3 c4 : Value)
    (hb : w.heap[g]? = some (.cells #[c0, c1, c2, c3, c4] 45 (0, 0))) : (results fn tmps).run Tryz.prog w = .ok (.agg #[c0, c1, c2, c3, c4]) w := by
  have d0 : w.cell? ⟨g, 0, none⟩ = some c0 := (cell_of_row _ g 0 _ 45 (0, 0) hb).trans rfl
  have d1 : w.cell? ⟨g, 1, none⟩ = some c1 := (cell_of_row _ g 1 _ 45 (0, 0) hb).trans rfl
  have d2 : w.cell? ⟨g, 2, none⟩ = some c2 := (cell_of_row _ g 2 _ 45 (0, 0) hb).trans rfl
  have d3 : w.cell? ⟨g, 3, none⟩ = some c3 := (cell_of_row _ g 3 _ 45 (0, 0) hb).trans rfl
  have d4 : w.cell? ⟨g, 4, none⟩ = some c4 := (cell_of_row _ g 4 _ 45 (0, 0) hb).trans rfl
  clear hb
  have ht' : tmps[t]?.getD undef = .pointer (some ⟨g, 0, none⟩) := by rw [← ht]; simp
  simp [results, h, go_sem, ht', d0, d1, d2, d3, d4]
def putSt (w : World) (g o : Nat) (u0 u1 u2 u3 u4 : Value) : World := ((((w.setCell ⟨g, o, none⟩ u0).setCell ⟨g, o + 1, none⟩ u1).setCell ⟨g, o + 2, none⟩ u2).setCell ⟨g, o + 3, none⟩ u3).setCell ⟨g, o + 4, none⟩ u4
theorem putSt_touch (w : World) (g o : Nat) (u0 u1 u2 u3 u4 : Value) : Touch g (g + 1) w (putSt w g o u0 u1 u2 u3 u4) := by
  unfold putSt
  refine ((((touch_set1 w g _ u0).trans (touch_set1 _ g _ u1)).trans (touch_set1 _ g _ u2)).trans (touch_set1 _ g _ u3)).trans (touch_set1 _ g _ u4)
theorem putSt_heap {w : World} {g t : Nat} {c0 c1 c2 c3 c4 : Value} (h : w.heap[g]? = some (.cells #[c0, c1, c2, c3, c4] t (0, 0))) (u0 u1 u2 u3 u4 : Value) : (putSt w g 0 u0 u1 u2 u3 u4).heap[g]? = some (.cells #[u0, u1, u2, u3, u4] t (0, 0)) :=
  heap_setCell_same _ _ 4 _ t _ (heap_setCell_same _ _ 3 _ t _ (heap_setCell_same _ _ 2 _ t _ (heap_setCell_same _ _ 1 _ t _ (heap_setCell_same _ _ 0 _ t _ h))))

set_option maxRecDepth 10000 in
set_option maxHeartbeats 4000000 in
theorem toStamp_any (x : StP) (a : Option Addr) (n c : Nat) (w : World) (h : Row w a n x.sg) (hn : n ≤ 1048576) :
    Calls Tryz.prog 22 #[.agg #[.int .i64 x.alg, .int .u64 x.dg, .int .i64 x.at2, .int .u64 x.ky, .slice a n c]] w fun e w' => ∃ a1, e = .returned (.agg #[.int .i64 x.alg, .int .u64 x.dg, .int .i64 x.at2, .int .u64 x.ky, .slice a1 n n]) ∧ Own w.heap.size w' a1 n n x.sg ∧ Below w.heap.size w w' := by
  obtain ⟨w1, hw1⟩ : ∃ w1, w1 = ((w.alloc (.cells #[.int .i64 x.alg, .int .u64 x.dg, .int .i64 x.at2, .int .u64 x.ky, .slice a n c] 43)).alloc (.cells #[.int .i64 0, .int .u64 0, .int .i64 0, .int .u64 0, .slice none 0 0] 45)).alloc (.cells #[.int .i64 x.alg, .int .u64 x.dg, .int .i64 x.at2, .int .u64 x.ky, .slice none 0 0] 45) := ⟨_, rfl⟩
  have hbb : Below w.heap.size w w1 := by rw [hw1]; exact (((Below.refl _ _).alloc (Nat.le_refl _) _).alloc (by simp) _).alloc (by simp; omega) _
  have hsz : w1.heap.size = w.heap.size + 3 := by rw [hw1]; simp
  obtain ⟨B0, B1, B2⟩ := heap_alloc2_newH w (.cells #[.int .i64 x.alg, .int .u64 x.dg, .int .i64 x.at2, .int .u64 x.ky, .slice a n c] 43) (.cells #[.int .i64 0, .int .u64 0, .int .i64 0, .int .u64 0, .slice none 0 0] 45) (.cells #[.int .i64 x.alg, .int .u64 x.dg, .int .i64 x.at2, .int .u64 x.ky, .slice none 0 0] 45)
  rw [← hw1] at B0 B1 B2
  have HW : Hid (_ = _) := hw1
  have HE : Hid (Row w a n x.sg) := h
  clear hw1 h
  have l0 : w1.cell? ⟨w.heap.size, 4, none⟩ = some (.slice a n c) := (cell_of_row _ _ 4 _ 43 (0, 0) B0).trans rfl
  go_enter Tryz.func22, Tryz.ntmps22
  go_upto_region 6 with fail
  rw [← HW.out]
  clear HW
  go_wp2_with fail
  refine (toByteS_any a n c x.sg _ (HE.out.kept hbb) (by omega)).mono ?_
  rintro e w2 ⟨a1, rfl, hr1, hb2⟩
  clear l0
  have B12 := (hb2.block _ (by omega)).trans B1
  have B22 := (hb2.block _ (by omega)).trans B2
  have x0 : w2.cell? ⟨w.heap.size + 1 + 1, 0, none⟩ = some (.int .i64 x.alg) := (cell_of_row _ _ 0 _ 45 (0, 0) B22).trans rfl
  have x1 : w2.cell? ⟨w.heap.size + 1 + 1, 1, none⟩ = some (.int .u64 x.dg) := (cell_of_row _ _ 1 _ 45 (0, 0) B22).trans rfl
  have x2 : w2.cell? ⟨w.heap.size + 1 + 1, 2, none⟩ = some (.int .i64 x.at2) := (cell_of_row _ _ 2 _ 45 (0, 0) B22).trans rfl
  have x3 : w2.cell? ⟨w.heap.size + 1 + 1, 3, none⟩ = some (.int .u64 x.ky) := (cell_of_row _ _ 3 _ 45 (0, 0) B22).trans rfl
  have x4 : w2.cell? ⟨w.heap.size + 1 + 1, 4, none⟩ = some (.slice none 0 0) := (cell_of_row _ _ 4 _ 45 (0, 0) B22).trans rfl
  have y4 : w2.frozen? ⟨w.heap.size + 1 + 1, 4, none⟩ = false := frozen_of_row w2 _ 4 _ 45 B22
  have r0 : w2.cell? ⟨w.heap.size + 1, 0, none⟩ = some (.int .i64 0) := (cell_of_row _ _ 0 _ 45 (0, 0) B12).trans rfl
  have f0 : w2.frozen? ⟨w.heap.size + 1, 0, none⟩ = false := frozen_of_row w2 _ 0 _ 45 B12
  have r1 : w2.cell? ⟨w.heap.size + 1, 1, none⟩ = some (.int .u64 0) := (cell_of_row _ _ 1 _ 45 (0, 0) B12).trans rfl
  have f1 : w2.frozen? ⟨w.heap.size + 1, 1, none⟩ = false := frozen_of_row w2 _ 1 _ 45 B12
  have r2 : w2.cell? ⟨w.heap.size + 1, 2, none⟩ = some (.int .i64 0) := (cell_of_row _ _ 2 _ 45 (0, 0) B12).trans rfl
  have f2 : w2.frozen? ⟨w.heap.size + 1, 2, none⟩ = false := frozen_of_row w2 _ 2 _ 45 B12
  have r3 : w2.cell? ⟨w.heap.size + 1, 3, none⟩ = some (.int .u64 0) := (cell_of_row _ _ 3 _ 45 (0, 0) B12).trans rfl
  have f3 : w2.frozen? ⟨w.heap.size + 1, 3, none⟩ = false := frozen_of_row w2 _ 3 _ 45 B12
  have r4 : w2.cell? ⟨w.heap.size + 1, 4, none⟩ = some (.slice none 0 0) := (cell_of_row _ _ 4 _ 45 (0, 0) B12).trans rfl
  have f4 : w2.frozen? ⟨w.heap.size + 1, 4, none⟩ = false := frozen_of_row w2 _ 4 _ 45 B12
  have HD1 : Hid (_ = _) := B12
  have HR2 : Hid (Own w1.heap.size w2 a1 n n x.sg) := hr1
  have HB2 : Hid (Below w.heap.size w w2) := keepT hbb hb2
  have hs2 := hb2.size
  clear hr1 hb2 B12 B22 B0 B1 B2
  go_wp2_with fail
  try simp only [Exit.inBlock, Exit.then]
  have T1 : Touch (w.heap.size + 1) (w.heap.size + 3) w2 (w2.setCell ⟨w.heap.size + 1 + 1, 4, none⟩ (.slice a1 n n)) := (touch_set1 w2 (w.heap.size + 1 + 1) 4 _).mono (by omega) (by omega)
  have T2 : Touch (w.heap.size + 1) (w.heap.size + 3) w2 (putSt (w2.setCell ⟨w.heap.size + 1 + 1, 4, none⟩ (.slice a1 n n)) (w.heap.size + 1) 0 (.int .i64 x.alg) (.int .u64 x.dg) (.int .i64 x.at2) (.int .u64 x.ky) (.slice a1 n n)) := T1.trans ((putSt_touch _ (w.heap.size + 1) 0 _ _ _ _ _).mono (by omega) (by omega))
  refine bodyPost_ret (results_St rfl _ (w.heap.size + 1) rfl _ _ _ _ _ _ (putSt_heap ((Below.heap_setCell _ _ _ _ (by simp)).trans HD1.out) _ _ _ _ _)) rfl ⟨_, rfl, ?_, ?_⟩
  · exact (HR2.out.touch5 T2 (by omega)).mono (by omega)
  · exact HB2.out.trans (T2.below (by omega) (by omega))

set_option maxRecDepth 10000 in
set_option maxHeartbeats 2000000 in
theorem eqStamp_same (x : StP) (a b : Option Addr) (n ca cb : Nat) (w : World) (h : Row w a n x.sg) (h2 : Row w b n x.sg) (hn : n ≤ maxLen) :
    Calls Tryz.prog 30 #[.agg #[.int .i64 x.alg, .int .u64 x.dg, .int .i64 x.at2, .int .u64 x.ky, .slice a n ca], .agg #[.int .i64 x.alg, .int .u64 x.dg, .int .i64 x.at2, .int .u64 x.ky, .slice b n cb]] w fun e w' => e = .returned (.bool true) ∧ Below w.heap.size w w' := by
  obtain ⟨w1, hw1⟩ : ∃ w1, w1 = (w.alloc (.cells #[.int .i64 x.alg, .int .u64 x.dg, .int .i64 x.at2, .int .u64 x.ky, .slice a n ca] 45)).alloc (.cells #[.int .i64 x.alg, .int .u64 x.dg, .int .i64 x.at2, .int .u64 x.ky, .slice b n cb] 45) := ⟨_, rfl⟩
  have hbb : Below w.heap.size w w1 := by rw [hw1]; exact ((Below.refl _ _).alloc (Nat.le_refl _) _).alloc (by simp) _
  have HA : Hid (Row w1 a n x.sg) := h.kept hbb
  have HB : Hid (Row w1 b n x.sg) := h2.kept hbb
  have s1 : (w.alloc (.cells #[.int .i64 x.alg, .int .u64 x.dg, .int .i64 x.at2, .int .u64 x.ky, .slice a n ca] 45)).heap.size = w.heap.size + 1 := by simp
  have B0 : w1.heap[w.heap.size]? = some (.cells #[.int .i64 x.alg, .int .u64 x.dg, .int .i64 x.at2, .int .u64 x.ky, .slice a n ca] 45 (0, 0)) := by rw [hw1]; exact (alloc_oldT _ _ _ (by simp)).trans (heap_alloc_new w _)
  have B1 : w1.heap[w.heap.size + 1]? = some (.cells #[.int .i64 x.alg, .int .u64 x.dg, .int .i64 x.at2, .int .u64 x.ky, .slice b n cb] 45 (0, 0)) := by rw [hw1, ← s1]; exact heap_alloc_new _ _
  have x0 : w1.cell? ⟨w.heap.size, 0, none⟩ = some (.int .i64 x.alg) := (cell_of_row _ _ 0 _ 45 (0, 0) B0).trans rfl
  have y0 : w1.cell? ⟨w.heap.size + 1, 0, none⟩ = some (.int .i64 x.alg) := (cell_of_row _ _ 0 _ 45 (0, 0) B1).trans rfl
  have x1 : w1.cell? ⟨w.heap.size, 1, none⟩ = some (.int .u64 x.dg) := (cell_of_row _ _ 1 _ 45 (0, 0) B0).trans rfl
  have y1 : w1.cell? ⟨w.heap.size + 1, 1, none⟩ = some (.int .u64 x.dg) := (cell_of_row _ _ 1 _ 45 (0, 0) B1).trans rfl
  have x2 : w1.cell? ⟨w.heap.size, 2, none⟩ = some (.int .i64 x.at2) := (cell_of_row _ _ 2 _ 45 (0, 0) B0).trans rfl
  have y2 : w1.cell? ⟨w.heap.size + 1, 2, none⟩ = some (.int .i64 x.at2) := (cell_of_row _ _ 2 _ 45 (0, 0) B1).trans rfl
  have x3 : w1.cell? ⟨w.heap.size, 3, none⟩ = some (.int .u64 x.ky) := (cell_of_row _ _ 3 _ 45 (0, 0) B0).trans rfl
  have y3 : w1.cell? ⟨w.heap.size + 1, 3, none⟩ = some (.int .u64 x.ky) := (cell_of_row _ _ 3 _ 45 (0, 0) B1).trans rfl
  have x4 : w1.cell? ⟨w.heap.size, 4, none⟩ = some (.slice a n ca) := (cell_of_row _ _ 4 _ 45 (0, 0) B0).trans rfl
  have y4 : w1.cell? ⟨w.heap.size + 1, 4, none⟩ = some (.slice b n cb) := (cell_of_row _ _ 4 _ 45 (0, 0) B1).trans rfl
  have z0 : (x.alg != x.alg) = false := by simp
  have z1 : (x.dg != x.dg) = false := by simp
  have z2 : (x.at2 != x.at2) = false := by simp
  have z3 : (x.ky != x.ky) = false := by simp
  have HW : Hid (_ = _) := hw1
  clear hw1 s1 B0 B1 h h2
  go_enter Tryz.func30, Tryz.ntmps30
  go_upto_region 1 with fail
  rw [← HW.out]
  clear HW
  go_wp2_with fail
  refine (eqByteS_any a b n n ca cb x.sg x.sg _ HA.out HB.out hn hn).mono ?_
  rintro e w2 ⟨rfl, hb2⟩
  rw [decide_eq_true (rfl : x.sg = x.sg)]
  go_wp2
  go_ret
  exact ⟨rfl, keepT hbb hb2⟩

end Go.Proofs.YtmhijbcbckljmaaGreat

namespace Go.Proofs.YtmhijbcbckljmaaGreat
open Go.RowKit

structure CellsSt (w : World) (b o : Nat) (a : Option Addr) (n c : Nat) (x : StP) : Prop where
  c0 : w.cell? ⟨b, o, none⟩ = some (.int .i64 x.alg)
  c1 : w.cell? ⟨b, o + 1, none⟩ = some (.int .u64 x.dg)
  c2 : w.cell? ⟨b, o + 2, none⟩ = some (.int .i64 x.at2)
  c3 : w.cell? ⟨b, o + 3, none⟩ = some (.int .u64 x.ky)
  c4 : w.cell? ⟨b, o + 4, none⟩ = some (.slice a n c)
theorem CellsSt.of {w w' : World} {b o : Nat} {a : Option Addr} {n c : Nat} {x : StP} (h : CellsSt w b o a n c x) (hc : ∀ i, w'.cell? ⟨b, i, none⟩ = w.cell? ⟨b, i, none⟩) : CellsSt w' b o a n c x :=
  ⟨(hc _).trans h.c0, (hc _).trans h.c1, (hc _).trans h.c2, (hc _).trans h.c3, (hc _).trans h.c4⟩
/-- The slice at a reads as these. -/
structure Sts (K : Nat → Nat → Prop) (w : World) (a : Option Addr) (n : Nat) (xs : List StP) : Prop where
  len : xs.length = n
  max : n ≤ 9223372036854775807
  get : ∀ k, k < n → ∃ b off a1 n1 c1, a = some ⟨b, off, none⟩ ∧ b < w.heap.size ∧ CellsSt w b (off + k * 5) a1 n1 c1 (xs.getD k default) ∧ Row w a1 n1 (xs.getD k default).sg ∧ n1 ≤ 9223372036854775807 ∧ (U64 (xs.getD k default).dg ∧ U64 (xs.getD k default).ky) ∧ K n1 c1
theorem Sts.kept {K : Nat → Nat → Prop} {w w' : World} {a : Option Addr} {n : Nat} {xs : List StP} (h : Sts K w a n xs) (hb : Below w.heap.size w w') : Sts K w' a n xs := by
  refine ⟨h.len, h.max, fun k hk => ?_⟩
  obtain ⟨b, off, a1, n1, c1, ha, hlt, hc, hp, hm⟩ := h.get k hk
  exact ⟨b, off, a1, n1, c1, ha, Nat.lt_of_lt_of_le hlt hb.size, hc.of (fun i => hb.cell (p := ⟨b, i, none⟩) hlt), hp.kept hb, hm⟩

set_option maxRecDepth 10000 in
set_option maxHeartbeats 2000000 in
theorem szStampS_any (K : Nat → Nat → Prop) (a : Option Addr) (n cap : Nat) (xs : List StP) (lf : Int) (w : World) (h : Sts K w a n xs) (hl0 : 0 ≤ lf) (hl1 : lf ≤ 1048576) :
    Calls Tryz.prog 4 #[.slice a n cap, .int .i64 lf] w fun e w' => ∃ r, e = .returned (.int .i64 r) ∧ (r < 0 ∨ (0 ≤ r ∧ r ≤ 1048576 ∧ n ≤ 1048576 ∧ ∀ k, k < n → (xs.getD k default).sg.length ≤ 1048576)) ∧ Below w.heap.size w w' := by
  have H0 : Hid (Sts K w a n xs) := h
  have hn := h.max
  clear h
  by_cases hlt : (n : Int) ≤ lf
  · go_enter Tryz.func4, Tryz.ntmps4
    go_wp2
    go_loopw [1, 5] (fun l i wr => ∃ (k : Nat) (left : Int), k ≤ n ∧ i = .int .i64 k ∧ l = .int .i64 left ∧ 0 ≤ left ∧ left ≤ 1048576 ∧ Hid (∀ j, j < k → (xs.getD j default).sg.length ≤ 1048576) ∧ Below w.heap.size w wr) (fun _ i _ => n - (intOf i).toNat)
    case atStart => exact ⟨0, lf - n, Nat.zero_le _, rfl, rfl, by omega, by omega, fun j hj => absurd hj (Nat.not_lt_zero _), Below.refl _ _⟩
    case round =>
      obtain ⟨k, left, hk, rfl, rfl, h0, h1, HA, hbr⟩ := hrel
      by_cases hkn : k < n
      · obtain ⟨b, off, a1, n1, d1, rfl, hlb, hc, hp, hm, _⟩ := H0.out.get k hkn
        obtain ⟨y, hy⟩ : ∃ y, y = xs.getD k default := ⟨_, rfl⟩
        rw [← hy] at hc hp
        have HY : Hid (y = xs.getD k default) := hy
        obtain ⟨c0, c1, c2, c3, c4⟩ := hc.of (w' := wr) (fun i => hbr.cell (p := ⟨b, i, none⟩) hlb)
        have HLN : Hid (y.sg.length = n1) := hp.len
        have hkni : (k : Int) < (n : Int) := by omega
        clear hc hy hp
        go_wp2_with fail
        refine (szStamp_gen y a1 n1 d1 left _ hm h0 h1).mono ?_
        rintro e w2 ⟨r, rfl, hr, hb2⟩
        have hb2' : Below w.heap.size w w2 := hbr.trans (hb2.mono hbr.size)
        by_cases hneg : r < 0
        · clear hr
          go_wp2
          go_ret
          exact ⟨_, rfl, .inl (by decide), hb2'⟩
        · have hr1 : 0 ≤ r := by omega
          have hr2 : r ≤ 1048576 := by omega
          have HR : Hid (y.sg.length ≤ 1048576) := by show _ ≤ _; rw [HLN.out]; omega
          clear hr
          go_wp2
          go_roundw
          case rel =>
            refine ⟨k + 1, r, by omega, by go_num, rfl, hr1, hr2, fun j hj => ?_, hb2'⟩
            by_cases hjk : j = k
            · subst hjk; rw [← HY.out]; exact HR.out
            · exact HA.out j (by omega)
          case measure => simp [intOf]; omega
      · obtain rfl : n = k := by omega
        go_wp2
        go_ret
        exact ⟨_, rfl, .inr ⟨h0, h1, by omega, HA.out⟩, hbr⟩
  · go_enter Tryz.func4, Tryz.ntmps4
    go_wp2
    go_ret
    exact ⟨_, rfl, .inl (by decide), Below.refl _ _⟩

set_option maxRecDepth 10000 in
set_option maxHeartbeats 4000000 in
theorem eqStampS_same (K L : Nat → Nat → Prop) (a b : Option Addr) (n ca cb : Nat) (xs : List StP) (w : World) (h : Sts K w a n xs) (h2 : Sts L w b n xs) :
    Calls Tryz.prog 10 #[.slice a n ca, .slice b n cb] w fun e w' => e = .returned (.bool true) ∧ Below w.heap.size w w' := by
  have HK : Hid (Sts K w a n xs) := h
  have HK2 : Hid (Sts L w b n xs) := h2
  have hn := h.max
  clear h h2
  go_enter Tryz.func10, Tryz.ntmps10
  go_wp2
  go_loopw [5] (fun i wr => ∃ k : Nat, k ≤ n ∧ i = .int .i64 k ∧ Below w.heap.size w wr) (fun i _ => n - (intOf i).toNat)
  case atStart => exact ⟨0, Nat.zero_le _, rfl, Below.refl _ _⟩
  case round =>
    obtain ⟨k, hk, rfl, hbr⟩ := hrel
    by_cases hkn : k < n
    · obtain ⟨b1, off1, p1, n1, d1, rfl, hl1, hc1, hp1, hm1, _⟩ := HK.out.get k hkn
      obtain ⟨b2, off2, q1, m1, e1, rfl, hl2, hc2, hp2, hm2, _⟩ := HK2.out.get k hkn
      obtain ⟨y, hy⟩ : ∃ y, y = xs.getD k default := ⟨_, rfl⟩
      rw [← hy] at hc1 hc2 hp1 hp2
      clear hy
      obtain rfl : m1 = n1 := by rw [← hp2.len, ← hp1.len]
      obtain ⟨c0, c1, c2, c3, c4⟩ := hc1.of (w' := wr) (fun i => hbr.cell (p := ⟨b1, i, none⟩) hl1)
      obtain ⟨u0, u1, u2, u3, u4⟩ := hc2.of (w' := wr) (fun i => hbr.cell (p := ⟨b2, i, none⟩) hl2)
      have HP1 : Hid (Row wr.drew p1 m1 y.sg) := hp1.kept hbr.drew
      have HP2 : Hid (Row wr.drew q1 m1 y.sg) := hp2.kept hbr.drew
      have hkni : (k : Int) < (n : Int) := by omega
      have hsz := hbr.size
      clear hc1 hc2 hp1 hp2
      go_wp2_with fail
      go_region_with (go_at_call 30; refine (eqStamp_same y p1 q1 m1 d1 e1 _ HP1.out HP2.out (by unfold maxLen; omega)).mono ?_; rintro e w2 ⟨rfl, hb2⟩)
      all_goals
        have b5 : Below w.heap.size w w2 := hbr.drew.trans (hb2.mono hsz)
        go_wp2
        go_roundw
        case rel => exact ⟨k + 1, by omega, by go_num, b5⟩
        case measure => simp [intOf]; omega
    · go_wp2
      go_ret
      exact ⟨rfl, hbr⟩

theorem Tryz.infoSt : (Tryz.prog.info? 45).map (fun i => (i.zero, i.size, i.bytes)) = some (some (.agg #[.int .i64 0, .int .u64 0, .int .i64 0, .int .u64 0, .slice none 0 0]), 5, 56) := by kernel_rfl
/-- The first k lie in the row g, what they have behind it. -/
def StPre (w : World) (g k : Nat) (xs : List StP) : Prop := ∀ j, j < k → ∃ p n, CellsSt w g (j * 5) p n n (xs.getD j default) ∧ Own (g + 1) w p n n (xs.getD j default).sg ∧ n ≤ 1048576 ∧ (U64 (xs.getD j default).dg ∧ U64 (xs.getD j default).ky)
theorem StPre.kept {w w' : World} {g k : Nat} {xs : List StP} (h : StPre w g k xs) (hg : g < w.heap.size) (hb : Below w.heap.size w w') : StPre w' g k xs := fun j hj => by
  obtain ⟨p, n, h3, h4, h5⟩ := h j hj
  exact ⟨p, n, h3.of (fun i => hb.cell (p := ⟨g, i, none⟩) hg), h4.kept hb, h5⟩
structure PutStS (B : Nat) (w w' : World) (g n cap i : Nat) (a1 : Option Addr) (n1 d1 : Nat) (x : StP) : Prop where
  own : ∃ vs, w'.ownsRow B 45 5 (.slice (some ⟨g, 0, none⟩) n cap) n vs
  old : ∀ j, j < n * 5 → j < i * 5 ∨ i * 5 + 5 ≤ j → w'.cell? ⟨g, j, none⟩ = w.cell? ⟨g, j, none⟩
  cells : CellsSt w' g (i * 5) a1 n1 d1 x
theorem putSt_is {B : Nat} {w : World} {g n cap : Nat} {vs : List Value} (h : w.ownsRow B 45 5 (.slice (some ⟨g, 0, none⟩) n cap) n vs) (i : Nat) (hi : i < n) (a1 : Option Addr) (n1 d1 : Nat) (x : StP) : PutStS B w (putSt w g (i * 5) (.int .i64 x.alg) (.int .u64 x.dg) (.int .i64 x.at2) (.int .u64 x.ky) (.slice a1 n1 d1)) g n cap i a1 n1 d1 x := by
  have h1 := (((((h.stored (i * 5) (.int .i64 x.alg)).1.stored (i * 5 + 1) (.int .u64 x.dg)).1.stored (i * 5 + 2) (.int .i64 x.at2)).1.stored (i * 5 + 3) (.int .u64 x.ky)).1.stored (i * 5 + 4) (.slice a1 n1 d1)).1
  have hl : vs.length = n * 5 := h.1
  have cc := fun j (hj : j < n * 5) => h1.cellAt j hj
  refine ⟨⟨_, h1⟩, fun j hj ho => ?_, ⟨?_, ?_, ?_, ?_, ?_⟩⟩
  · refine (cc j hj).trans ?_
    rw [h.cellAt j hj]
    rw [List.getElem?_set_ne (by omega), List.getElem?_set_ne (by omega), List.getElem?_set_ne (by omega), List.getElem?_set_ne (by omega), List.getElem?_set_ne (by omega)]
  · refine (cc _ (by omega)).trans ?_
    rw [List.getElem?_set_ne (by omega), List.getElem?_set_ne (by omega), List.getElem?_set_ne (by omega), List.getElem?_set_ne (by omega), List.getElem?_set_self (by omega)]
  · refine (cc _ (by omega)).trans ?_
    rw [List.getElem?_set_ne (by omega), List.getElem?_set_ne (by omega), List.getElem?_set_ne (by omega), List.getElem?_set_self (by simp; omega)]
  · refine (cc _ (by omega)).trans ?_
    rw [List.getElem?_set_ne (by omega), List.getElem?_set_ne (by omega), List.getElem?_set_self (by simp; omega)]
  · refine (cc _ (by omega)).trans ?_
    rw [List.getElem?_set_ne (by omega), List.getElem?_set_self (by simp; omega)]
  · refine (cc _ (by omega)).trans ?_
    rw [List.getElem?_set_self (by simp; omega)]

set_option maxRecDepth 10000 in
set_option maxHeartbeats 4000000 in
theorem toStampS_any (K : Nat → Nat → Prop) (a : Option Addr) (n cap : Nat) (xs : List StP) (w : World) (h : Sts K w a n xs) (hn : n ≤ 1048576) (hz : ∀ k, k < n → (xs.getD k default).sg.length ≤ 1048576) :
    Calls Tryz.prog 7 #[.slice a n cap] w fun e w' => ∃ a', e = .returned (.slice a' n n) ∧ Sts (fun n c => n = c ∧ n ≤ 1048576) w' a' n xs ∧ Below w.heap.size w w' := by
  obtain ⟨i0, hi, hz0, hz1, hz2⟩ := info_parts Tryz.infoSt
  have HK : Hid (Sts K w a n xs) := h
  have HZ : Hid (∀ k, k < n → (xs.getD k default).sg.length ≤ 1048576) := hz
  have hlen : Hid (xs.length = n) := h.len
  clear h hz
  go_enter Tryz.func7, Tryz.ntmps7
  go_wp2_with (first | (at_make; refine wpList_make_full _ rfl _ _ 28 rfl w.heap.size 45 i0 _ 5 Tryz.underlying28 hi hz0 hz1 _ _ _ _ n rfl rfl rfl rfl (by rw [hz2]; omega) (by unfold maxLen; omega) (by exact Nat.le_refl _) ?_; intro w1 hown hgrow))
  have hbl : Below w.heap.size w w1 := (Below.refl _ _).grown hgrow (Nat.le_refl _) (by simp)
  clear hgrow hi hz0 hz1 hz2
  go_loopw [4] (fun i wr => ∃ k : Nat, k ≤ n ∧ i = .int .i64 k ∧ Hid (∃ vs, wr.ownsRow w.heap.size 45 5 (.slice (some ⟨w.heap.size, 0, none⟩) n n) n vs) ∧ Hid (StPre wr w.heap.size k xs) ∧ Below w.heap.size w wr) (fun i _ => n - (intOf i).toNat)
  case atStart => exact ⟨0, Nat.zero_le _, rfl, ⟨_, hown⟩, fun j hj => absurd hj (Nat.not_lt_zero _), hbl⟩
  case round =>
    obtain ⟨k, hk, rfl, HOR, HPRE, hbr⟩ := hrel
    obtain ⟨vs, hor⟩ := HOR.out
    have hgl := (hor.lt _ rfl).2
    have HOV : Hid (_) := hor
    clear HOR hor hown hbl
    by_cases hkn : k < n
    · obtain ⟨b, off, a1, n1, d1, rfl, hlb, hc, hp, hm, hu, _⟩ := HK.out.get k hkn
      have hgp := HZ.out k hkn
      obtain ⟨y, hy⟩ : ∃ y, y = xs.getD k default := ⟨_, rfl⟩
      rw [← hy] at hc hp hgp hu
      have HY : Hid (y = xs.getD k default) := hy
      have HU : Hid (U64 y.dg ∧ U64 y.ky) := hu
      have hn1 : n1 ≤ 1048576 := by rw [← hp.len]; exact hgp
      obtain ⟨c0, c1, c2, c3, c4⟩ := hc.of (w' := wr) (fun i => hbr.cell (p := ⟨b, i, none⟩) hlb)
      have HP : Hid (Row wr a1 n1 y.sg) := hp.kept hbr
      have hkni : (k : Int) < (n : Int) := by omega
      have hsz := hbr.size
      clear hc hy hp hgp hu
      go_wp2_with fail
      refine (toStamp_any y a1 n1 d1 _ HP.out hn1).mono ?_
      rintro e w2 ⟨p1, rfl, hp2, hb2⟩
      have hor2 : w2.ownsRow w.heap.size 45 5 (.slice (some ⟨w.heap.size, 0, none⟩) n n) n vs := ownsRow_below HOV.out hb2
      have hs2 := hb2.size
      have fr : ∀ j, w2.frozen? ⟨w.heap.size, j, none⟩ = false := fun j => hor2.frozenAt j
      have hvl : vs.length = n * 5 := hor2.1
      have cx : ∀ j, j < n * 5 → ∃ z, w2.cell? ⟨w.heap.size, j, none⟩ = some z := fun j hj => ⟨_, (hor2.cellAt j hj).trans (List.getElem?_eq_getElem (by omega))⟩
      obtain ⟨z0, x0⟩ := cx (k * 5) (by omega)
      obtain ⟨z1, x1⟩ := cx (k * 5 + 1) (by omega)
      obtain ⟨z2, x2⟩ := cx (k * 5 + 2) (by omega)
      obtain ⟨z3, x3⟩ := cx (k * 5 + 3) (by omega)
      obtain ⟨z4, x4⟩ := cx (k * 5 + 4) (by omega)
      have f0 := fr (k * 5)
      have f1 := fr (k * 5 + 1)
      have f2 := fr (k * 5 + 2)
      have f3 := fr (k * 5 + 3)
      have f4 := fr (k * 5 + 4)
      have hS := putSt_is hor2 k hkn p1 n1 n1 y
      have hT := putSt_touch w2 w.heap.size (k * 5) (.int .i64 y.alg) (.int .u64 y.dg) (.int .i64 y.at2) (.int .u64 y.ky) (.slice p1 n1 n1)
      have hP : StPre (putSt w2 w.heap.size (k * 5) (.int .i64 y.alg) (.int .u64 y.dg) (.int .i64 y.at2) (.int .u64 y.ky) (.slice p1 n1 n1)) w.heap.size (k + 1) xs := by
        intro j hj
        by_cases hjk : j = k
        · subst hjk
          rw [← HY.out]
          exact ⟨p1, n1, hS.cells, (hp2.mono (show w.heap.size + 1 ≤ wr.heap.size by omega)).touch5 hT (Nat.le_refl _), hn1, HU.out⟩
        · obtain ⟨r1, m1, q2, q3, q4⟩ := (HPRE.out.kept hgl hb2) j (by omega)
          have hx := hS.old
          exact ⟨r1, m1, ⟨(hx _ (by omega) (by omega)).trans q2.c0, (hx _ (by omega) (by omega)).trans q2.c1, (hx _ (by omega) (by omega)).trans q2.c2, (hx _ (by omega) (by omega)).trans q2.c3, (hx _ (by omega) (by omega)).trans q2.c4⟩, q3.touch5 hT (Nat.le_refl _), q4⟩
      have hB2 := hbr.trans (hb2.mono hsz)
      have hB4 : Below w.heap.size w (putSt w2 w.heap.size (k * 5) (.int .i64 y.alg) (.int .u64 y.dg) (.int .i64 y.at2) (.int .u64 y.ky) (.slice p1 n1 n1)) := hB2.trans (hT.below (Nat.le_refl _) (by omega))
      have FIN : Hid (_ ∧ _ ∧ _) := ⟨hS.own, hP, hB4⟩
      have hgl2 : w.heap.size < w2.heap.size := by omega
      clear fr cx hS hP hB4 hB2 hor2 hp2 hb2 hvl HPRE HOV HP HK hT
      go_wp2
      go_roundw
      case rel => exact ⟨k + 1, by omega, by go_num, FIN.out.1, FIN.out.2.1, FIN.out.2.2⟩
      case measure => simp [intOf]; omega
    · obtain rfl : n = k := by omega
      have HX : Hid (n ≤ 9223372036854775807) := HK.out.max
      clear HOV HK
      go_wp2
      go_ret
      refine ⟨_, rfl, ⟨hlen.out, HX.out, fun j hj => ?_⟩, hbr⟩
      obtain ⟨p1, m1, h3, h4, h5, h6⟩ := HPRE.out j hj
      exact ⟨w.heap.size, 0, _, _, _, rfl, hgl, by rw [Nat.zero_add]; exact h3, h4.toRow, by omega, h6, rfl, h5⟩

end Go.Proofs.YtmhijbcbckljmaaGreat

set_option linter.unusedVariables false
namespace Go.Proofs.YtmhijbcbckljmaaGreat
open Go.RowKit Go.Sort

/-- A slice put together. -/
theorem opw_buildSlice {P : Program} {Q : Exit → Act → World → Prop} {o : Oper} {a : Act} {w : World} {K : Act → World → Prop} (t : TypeId) (n : Nat) (parts : Array (Nat × Operand)) (ho : o.op = .buildSlice t n parts) (vs : Array (Nat × Value)) (hvs : (parts.map fun p => (p.1, a.eval p.2)) = vs) (v : Value) (w' : World)
    (hr : (Instr.buildSlice t n vs).run P w = .ok v w') (h : K (a.put o.dst v) w') : o.wp P a w K Q := by
  refine opw_value v ?_ h
  have hvs' : (parts.map fun x : Nat × Operand => match x with | (i, x) => (i, a.eval x)) = vs := hvs
  unfold execOp
  simp only [ho]
  rw [hvs']
  simp [hr]
theorem kids_five (X : World) (T : Nat) (x1 x2 x3 x4 x5 : It) (a1 a2 a3 a4 a5 : Option Addr) (n1 c1 n2 c2 n3 c3 n4 c4 n5 c5 : Nat)
    (h1 : Row X a1 n1 x1.body) (h2 : Row X a2 n2 x2.body) (h3 : Row X a3 n3 x3.body) (h4 : Row X a4 n4 x4.body) (h5 : Row X a5 n5 x5.body) (e1 : a1 = none → c1 = 0) (e2 : a2 = none → c2 = 0) (e3 : a3 = none → c3 = 0) (e4 : a4 = none → c4 = 0) (e5 : a5 = none → c5 = 0)
    (m1 : n1 ≤ 1000) (m2 : n2 ≤ 1000) (m3 : n3 ≤ 1000) (m4 : n4 ≤ 1000) (m5 : n5 ≤ 1000) (k1 : x1.kids = []) (k2 : x2.kids = []) (k3 : x3.kids = []) (k4 : x4.kids = []) (k5 : x5.kids = []) :
    Kids 2 (X.alloc (.cells #[.int .i64 x1.cls, .int .i64 x1.tag, .bool x1.cons, .slice a1 n1 c1, .slice none 0 0, .int .i64 x2.cls, .int .i64 x2.tag, .bool x2.cons, .slice a2 n2 c2, .slice none 0 0, .int .i64 x3.cls, .int .i64 x3.tag, .bool x3.cons, .slice a3 n3 c3, .slice none 0 0, .int .i64 x4.cls, .int .i64 x4.tag, .bool x4.cons, .slice a4 n4 c4, .slice none 0 0, .int .i64 x5.cls, .int .i64 x5.tag, .bool x5.cons, .slice a5 n5 c5, .slice none 0 0] T)) (some ⟨X.heap.size, 0, none⟩) 5 [x1, x2, x3, x4, x5] := by
  have hb : Below X.heap.size X (X.alloc (.cells #[.int .i64 x1.cls, .int .i64 x1.tag, .bool x1.cons, .slice a1 n1 c1, .slice none 0 0, .int .i64 x2.cls, .int .i64 x2.tag, .bool x2.cons, .slice a2 n2 c2, .slice none 0 0, .int .i64 x3.cls, .int .i64 x3.tag, .bool x3.cons, .slice a3 n3 c3, .slice none 0 0, .int .i64 x4.cls, .int .i64 x4.tag, .bool x4.cons, .slice a4 n4 c4, .slice none 0 0, .int .i64 x5.cls, .int .i64 x5.tag, .bool x5.cons, .slice a5 n5 c5, .slice none 0 0] T)) := (Below.refl _ _).alloc (Nat.le_refl _) _
  have hc := fun j => cell_of_row _ X.heap.size j _ T (0, 0) (heap_alloc_new X (.cells #[.int .i64 x1.cls, .int .i64 x1.tag, .bool x1.cons, .slice a1 n1 c1, .slice none 0 0, .int .i64 x2.cls, .int .i64 x2.tag, .bool x2.cons, .slice a2 n2 c2, .slice none 0 0, .int .i64 x3.cls, .int .i64 x3.tag, .bool x3.cons, .slice a3 n3 c3, .slice none 0 0, .int .i64 x4.cls, .int .i64 x4.tag, .bool x4.cons, .slice a4 n4 c4, .slice none 0 0, .int .i64 x5.cls, .int .i64 x5.tag, .bool x5.cons, .slice a5 n5 c5, .slice none 0 0] T))
  refine ⟨rfl, by decide, fun k hk => ⟨X.heap.size, 0, rfl, by simp, ?_⟩⟩
  rcases (show k = 0 ∨ k = 1 ∨ k = 2 ∨ k = 3 ∨ k = 4 by omega) with rfl | rfl | rfl | rfl | rfl
  · exact ⟨a1, n1, c1, none, 0, 0, (hc 0).trans rfl, (hc 1).trans rfl, (hc 2).trans rfl, (hc 3).trans rfl, (hc 4).trans rfl, h1.kept hb, e1, by omega, kids_leaf _ x1 k1⟩
  · exact ⟨a2, n2, c2, none, 0, 0, (hc 5).trans rfl, (hc 6).trans rfl, (hc 7).trans rfl, (hc 8).trans rfl, (hc 9).trans rfl, h2.kept hb, e2, by omega, kids_leaf _ x2 k2⟩
  · exact ⟨a3, n3, c3, none, 0, 0, (hc 10).trans rfl, (hc 11).trans rfl, (hc 12).trans rfl, (hc 13).trans rfl, (hc 14).trans rfl, h3.kept hb, e3, by omega, kids_leaf _ x3 k3⟩
  · exact ⟨a4, n4, c4, none, 0, 0, (hc 15).trans rfl, (hc 16).trans rfl, (hc 17).trans rfl, (hc 18).trans rfl, (hc 19).trans rfl, h4.kept hb, e4, by omega, kids_leaf _ x4 k4⟩
  · exact ⟨a5, n5, c5, none, 0, 0, (hc 20).trans rfl, (hc 21).trans rfl, (hc 22).trans rfl, (hc 23).trans rfl, (hc 24).trans rfl, h5.kept hb, e5, by omega, kids_leaf _ x5 k5⟩
theorem enc_leafG (r : Nat) (t : Int) (bs : List Int) (h0 : 1 ≤ t) (h1 : t ≤ 30) (hb : bs.length ≤ 500) : ∃ l, enc (r + 1) (.mk 0 t false bs []) = some l ∧ l.length ≤ 520 := by
  have hs : It.shape (.mk 0 t false bs []) = true := by
    unfold It.shape
    simp [It.cls, It.tag, It.cons, It.kids]
    omega
  have hi : innerBy (enc r) (.mk 0 t false bs []) = some bs := by
    unfold innerBy
    rw [if_neg (by simp [It.cons]), if_pos (by simp [It.body]; omega)]
    rfl
  have hh := headL_len (.mk 0 t false bs []) bs.length ⟨by simp [It.tag]; omega, by simp [It.tag]; omega⟩
  exact ⟨_, enc_some r _ bs hs hi (by rw [List.length_append]; omega), by rw [List.length_append]; omega⟩
theorem enc_box5 (r : Nat) (tag : Int) (x1 x2 x3 x4 x5 : It) (p1 p2 p3 p4 p5 : List Int) (h0 : 1 ≤ tag) (h1 : tag ≤ 30) (e1 : enc r x1 = some p1) (e2 : enc r x2 = some p2) (e3 : enc r x3 = some p3) (e4 : enc r x4 = some p4) (e5 : enc r x5 = some p5) (l1 : p1.length ≤ 120) (l2 : p2.length ≤ 120) (l3 : p3.length ≤ 120) (l4 : p4.length ≤ 120) (l5 : p5.length ≤ 520) :
    ∃ l, enc (r + 1) (boxI tag [x1, x2, x3, x4, x5]) = some l ∧ l.length ≤ 1100 := by
  have hs : It.shape (boxI tag [x1, x2, x3, x4, x5]) = true := by
    unfold It.shape boxI
    simp [It.cls, It.tag, It.cons, It.body]
    omega
  have hi : innerBy (enc r) (boxI tag [x1, x2, x3, x4, x5]) = some (p1 ++ p2 ++ p3 ++ p4 ++ p5) := by
    unfold innerBy boxI
    simp only [It.cons, It.kids, encK, e1, e2, e3, e4, e5]
    simp
    exact ⟨by omega, by omega, by omega, by omega, by omega⟩
  have hh := headL_len (boxI tag [x1, x2, x3, x4, x5]) (p1 ++ p2 ++ p3 ++ p4 ++ p5).length ⟨by simp [boxI, It.tag]; omega, by simp [boxI, It.tag]; omega⟩
  have hlen : (p1 ++ p2 ++ p3 ++ p4 ++ p5).length ≤ 1000 := by simp; omega
  exact ⟨_, enc_some r _ _ hs hi (by rw [List.length_append]; omega), by rw [List.length_append]; omega⟩
/-- What later stamps cover of a stamp. -/
def cvI (x : StP) : It := boxI 12 [numI x.alg, bytI (eightI x.dg), numI x.at2, bytI (eightI x.ky), bytI x.sg]
theorem cvI_enc (x : StP) (hs : x.sg.length ≤ 500) : ∃ l, enc 12 (cvI x) = some l ∧ l.length ≤ 1100 := by
  have hw : ∀ n, (wbL n).length ≤ 100 := fun n => by rw [wbL_len]; have := (wsz_bd n).2; omega
  obtain ⟨p1, e1, l1⟩ := enc_leaf 10 2 (wbL x.alg) (by decide) (by decide) (hw _)
  obtain ⟨p2, e2, l2⟩ := enc_leaf 10 4 (eightI x.dg) (by decide) (by decide) (by rw [eightI_len]; decide)
  obtain ⟨p3, e3, l3⟩ := enc_leaf 10 2 (wbL x.at2) (by decide) (by decide) (hw _)
  obtain ⟨p4, e4, l4⟩ := enc_leaf 10 4 (eightI x.ky) (by decide) (by decide) (by rw [eightI_len]; decide)
  obtain ⟨p5, e5, l5⟩ := enc_leafG 10 4 x.sg (by decide) (by decide) hs
  exact enc_box5 11 12 _ _ _ _ _ p1 p2 p3 p4 p5 (by decide) (by decide) e1 e2 e3 e4 e5 l1 l2 l3 l4 l5
def cvB (x : StP) : List Int := (enc 12 (cvI x)).getD []
theorem cvB_enc (x : StP) (hs : x.sg.length ≤ 500) : enc 12 (cvI x) = some (cvB x) ∧ (cvB x).length ≤ 1100 := by
  obtain ⟨l, hl, hll⟩ := cvI_enc x hs
  unfold cvB
  rw [hl]
  exact ⟨rfl, hll⟩
theorem bytesItem_agg (a : Option Addr) (n c : Nat) (w : World) : Calls Tryz.prog 77 #[.slice a n c] w fun e w' => e = .returned (.agg #[.int .i64 0, .int .i64 4, .bool false, .slice a n c, .slice none 0 0]) ∧ Below w.heap.size w w' := bytesItem_any a n c [] w

/-- What is known of a region (RJ). -/
def cvSp (x : StP) (a : Option Addr) (n c : Nat) (l : List Int) (G B : Nat) : RSpec where
  m := 23
  n := 24
  slots := [6, 7, 8, 9, 10, 11, 12, 13, 14, 15, 16, 17, 18, 19, 20, 21, 22, 23, 5, 24, 25, 3, 4, 100023]
  kills := [[], [], [], [], [], [], [], [], [], [], [], [], [], [], [], [], [], [], [], [], [], [], [], []]
  pres := [[], [], [], [], [], [], [], [], [], [], [], [], [], [], [], [], [], [], [], [], [], [], [], []]
  fact := fun k v w => match k with
    | 0 => v = .pointer (some ⟨G, 0, none⟩)
    | 1 => v = .int .i64 x.alg
    | 2 => ∃ g1 k1, v = .agg #[.int .i64 0, .int .i64 2, .bool false, .slice (some ⟨g1, k1, none⟩) (wsz x.alg) (wsz x.alg), .slice none 0 0] ∧ Row w (some ⟨g1, k1, none⟩) (wsz x.alg) (wbL x.alg)
    | 3 => v = .pointer (some ⟨G, 1, none⟩)
    | 4 => v = .int .u64 x.dg
    | 5 => ∃ g2, v = .agg #[.int .i64 0, .int .i64 4, .bool false, .slice (some ⟨g2, 0, none⟩) 8 8, .slice none 0 0] ∧ Row w (some ⟨g2, 0, none⟩) 8 (eightI x.dg)
    | 6 => v = .pointer (some ⟨G, 2, none⟩)
    | 7 => v = .int .i64 x.at2
    | 8 => ∃ g3 k3, v = .agg #[.int .i64 0, .int .i64 2, .bool false, .slice (some ⟨g3, k3, none⟩) (wsz x.at2) (wsz x.at2), .slice none 0 0] ∧ Row w (some ⟨g3, k3, none⟩) (wsz x.at2) (wbL x.at2)
    | 9 => v = .pointer (some ⟨G, 3, none⟩)
    | 10 => v = .int .u64 x.ky
    | 11 => ∃ g4, v = .agg #[.int .i64 0, .int .i64 4, .bool false, .slice (some ⟨g4, 0, none⟩) 8 8, .slice none 0 0] ∧ Row w (some ⟨g4, 0, none⟩) 8 (eightI x.ky)
    | 12 => v = .pointer (some ⟨G, 4, none⟩)
    | 13 => v = .slice a n c
    | 14 => v = .agg #[.int .i64 0, .int .i64 4, .bool false, .slice a n c, .slice none 0 0]
    | 15 => ∃ gk, v = .slice (some ⟨gk, 0, none⟩) 5 5 ∧ Kids 2 w (some ⟨gk, 0, none⟩) 5 [numI x.alg, bytI (eightI x.dg), numI x.at2, bytI (eightI x.ky), bytI x.sg]
    | 16 => ∃ gk, v = .agg #[.int .i64 1, .int .i64 12, .bool true, .slice none 0 0, .slice (some ⟨gk, 0, none⟩) 5 5] ∧ Kids 2 w (some ⟨gk, 0, none⟩) 5 [numI x.alg, bytI (eightI x.dg), numI x.at2, bytI (eightI x.ky), bytI x.sg]
    | 17 => ∃ a7 c7, v = .tuple #[.slice a7 l.length c7, .bool true] ∧ Own B w a7 l.length c7 l
    | 18 => ∃ a7 c7, v = .tuple #[.slice a7 l.length c7, .bool true] ∧ Own B w a7 l.length c7 l
    | 19 => ∃ a7 c7, v = .slice a7 l.length c7 ∧ Own B w a7 l.length c7 l
    | 20 => v = .bool true
    | 21 => ∃ a7 c7, v = .slice a7 l.length c7 ∧ Own B w a7 l.length c7 l
    | 22 => v = .bool true
    | _ => w.heap[G]? = some (.cells #[.int .i64 x.alg, .int .u64 x.dg, .int .i64 x.at2, .int .u64 x.ky, .slice a n c] 45 (0, 0))
set_option linter.unusedVariables false in
theorem cvSp_stb (x : StP) (a : Option Addr) (n c : Nat) (l : List Int) (G B : Nat) (k : Nat) (hk : k < 24) : StB ((cvSp x a n c l G (B)).fact k) := by
  match k, hk with
  | 0, _ => exact fun _ _ _ h _ => h
  | 1, _ => exact fun _ _ _ h _ => h
  | 2, _ => exact fun _ _ _ ⟨g1, k1, hv, q_0⟩ hb => ⟨g1, k1, hv, q_0.kept hb⟩
  | 3, _ => exact fun _ _ _ h _ => h
  | 4, _ => exact fun _ _ _ h _ => h
  | 5, _ => exact fun _ _ _ ⟨g2, hv, q_0⟩ hb => ⟨g2, hv, q_0.kept hb⟩
  | 6, _ => exact fun _ _ _ h _ => h
  | 7, _ => exact fun _ _ _ h _ => h
  | 8, _ => exact fun _ _ _ ⟨g3, k3, hv, q_0⟩ hb => ⟨g3, k3, hv, q_0.kept hb⟩
  | 9, _ => exact fun _ _ _ h _ => h
  | 10, _ => exact fun _ _ _ h _ => h
  | 11, _ => exact fun _ _ _ ⟨g4, hv, q_0⟩ hb => ⟨g4, hv, q_0.kept hb⟩
  | 12, _ => exact fun _ _ _ h _ => h
  | 13, _ => exact fun _ _ _ h _ => h
  | 14, _ => exact fun _ _ _ h _ => h
  | 15, _ => exact fun _ _ _ ⟨gk, hv, q_0⟩ hb => ⟨gk, hv, q_0.kept hb⟩
  | 16, _ => exact fun _ _ _ ⟨gk, hv, q_0⟩ hb => ⟨gk, hv, q_0.kept hb⟩
  | 17, _ => exact fun _ _ _ ⟨a7, c7, hv, q_0⟩ hb => ⟨a7, c7, hv, q_0.kept hb⟩
  | 18, _ => exact fun _ _ _ ⟨a7, c7, hv, q_0⟩ hb => ⟨a7, c7, hv, q_0.kept hb⟩
  | 19, _ => exact fun _ _ _ ⟨a7, c7, hv, q_0⟩ hb => ⟨a7, c7, hv, q_0.kept hb⟩
  | 20, _ => exact fun _ _ _ h _ => h
  | 21, _ => exact fun _ _ _ ⟨a7, c7, hv, q_0⟩ hb => ⟨a7, c7, hv, q_0.kept hb⟩
  | 22, _ => exact fun _ _ _ h _ => h
  | 23, _ => exact fun _ _ _ q_0 hb => below_kept q_0 hb
  | k + 24, hk => omega

set_option maxRecDepth 10000 in
set_option maxHeartbeats 4000000 in
theorem coveredBytes_any (x : StP) (a : Option Addr) (n c : Nat) (l : List Int) (w : World) (h1 : -9223372036854775808 ≤ x.alg ∧ x.alg ≤ 9223372036854775807) (h2 : 0 ≤ x.dg ∧ x.dg ≤ 18446744073709551615) (h3 : -9223372036854775808 ≤ x.at2 ∧ x.at2 ≤ 9223372036854775807) (h4 : 0 ≤ x.ky ∧ x.ky ≤ 18446744073709551615) (hg : Row w a n x.sg) (hc0 : a = none → c = 0) (hn : n ≤ 500) (hl : enc 12 (cvI x) = some l) :
    Calls Tryz.prog 54 #[.agg #[.int .i64 x.alg, .int .u64 x.dg, .int .i64 x.at2, .int .u64 x.ky, .slice a n c]] w fun e w' => ∃ a' c', e = .returned (.slice a' l.length c') ∧ Own w.heap.size w' a' l.length c' l ∧ Below w.heap.size w w' := by
  obtain ⟨wb, hwb⟩ : ∃ wb, wb = w.alloc (.cells #[.int .i64 x.alg, .int .u64 x.dg, .int .i64 x.at2, .int .u64 x.ky, .slice a n c] 45) := ⟨_, rfl⟩
  have hbb : Below w.heap.size w wb := by rw [hwb]; exact (Below.refl _ _).alloc (Nat.le_refl _) _
  have HBK : Hid (wb.heap[w.heap.size]? = some (.cells #[.int .i64 x.alg, .int .u64 x.dg, .int .i64 x.at2, .int .u64 x.ky, .slice a n c] 45 (0, 0))) := by show _ = _; rw [hwb]; exact heap_alloc_new w _
  have HSG : Hid (∀ W, Below wb.heap.size wb W → Row W a n x.sg) := fun W hW => hg.kept (keepT hbb hW)
  have HL : Hid (enc 12 (boxI 12 [numI x.alg, bytI (eightI x.dg), numI x.at2, bytI (eightI x.ky), bytI x.sg]) = some l) := hl
  have z1 := wsz_bd x.alg
  have z2 := wsz_bd x.at2
  have HW : Hid (_ = _) := hwb
  clear hwb hg hl
  go_enter Tryz.func54, Tryz.ntmps54
  go_upto_region 1 with fail
  rw [← HW.out]
  clear HW
  have HBB : wb.heap.size ≤ wb.heap.size := Nat.le_refl _
  refine wp_region_ri (cvSp x a n c l w.heap.size (wb.heap.size)) [3, 4, 5, 6, 7, 8, 9, 10, 11, 12, 13, 14, 15, 16, 17, 18, 19, 20, 21, 22, 23, 24, 25] (wb.heap.size) (fun a0 => a0.tmps.size = 27 ∧ aT a0 1 = .pointer (some ⟨w.heap.size, 0, none⟩)) (by kernel_rfl) rfl (by kernel_rfl) rfl ⟨rfl, rfl⟩ (cvSp_stb x a n c l w.heap.size (wb.heap.size)) ?_ ?_ ?_
  · intro k hk hk2
    match k, hk, hk2 with
    | 23, _, _ => exact HBK.out
    | 0, hk, _ => exact absurd hk (by show ¬ (23 ≤ 0); omega)
    | 1, hk, _ => exact absurd hk (by show ¬ (23 ≤ 1); omega)
    | 2, hk, _ => exact absurd hk (by show ¬ (23 ≤ 2); omega)
    | 3, hk, _ => exact absurd hk (by show ¬ (23 ≤ 3); omega)
    | 4, hk, _ => exact absurd hk (by show ¬ (23 ≤ 4); omega)
    | 5, hk, _ => exact absurd hk (by show ¬ (23 ≤ 5); omega)
    | 6, hk, _ => exact absurd hk (by show ¬ (23 ≤ 6); omega)
    | 7, hk, _ => exact absurd hk (by show ¬ (23 ≤ 7); omega)
    | 8, hk, _ => exact absurd hk (by show ¬ (23 ≤ 8); omega)
    | 9, hk, _ => exact absurd hk (by show ¬ (23 ≤ 9); omega)
    | 10, hk, _ => exact absurd hk (by show ¬ (23 ≤ 10); omega)
    | 11, hk, _ => exact absurd hk (by show ¬ (23 ≤ 11); omega)
    | 12, hk, _ => exact absurd hk (by show ¬ (23 ≤ 12); omega)
    | 13, hk, _ => exact absurd hk (by show ¬ (23 ≤ 13); omega)
    | 14, hk, _ => exact absurd hk (by show ¬ (23 ≤ 14); omega)
    | 15, hk, _ => exact absurd hk (by show ¬ (23 ≤ 15); omega)
    | 16, hk, _ => exact absurd hk (by show ¬ (23 ≤ 16); omega)
    | 17, hk, _ => exact absurd hk (by show ¬ (23 ≤ 17); omega)
    | 18, hk, _ => exact absurd hk (by show ¬ (23 ≤ 18); omega)
    | 19, hk, _ => exact absurd hk (by show ¬ (23 ≤ 19); omega)
    | 20, hk, _ => exact absurd hk (by show ¬ (23 ≤ 20); omega)
    | 21, hk, _ => exact absurd hk (by show ¬ (23 ≤ 21); omega)
    | 22, hk, _ => exact absurd hk (by show ¬ (23 ≤ 22); omega)
    | k + 24, _, hk2 => exact absurd hk2 (by show ¬ (k + 24 < 24); omega)
  · rintro a0 ⟨hz, g1⟩
    refine StepsRI.cons ?_ (StepsRI.cons ?_ (StepsRI.cons ?_ (StepsRI.cons ?_ (StepsRI.cons ?_ (StepsRI.cons ?_ (StepsRI.cons ?_ (StepsRI.cons ?_ (StepsRI.cons ?_ (StepsRI.cons ?_ (StepsRI.cons ?_ (StepsRI.cons ?_ (StepsRI.cons ?_ (StepsRI.cons ?_ (StepsRI.cons ?_ (StepsRI.cons ?_ (StepsRI.cons ?_ (StepsRI.cons ?_ (StepsRI.cons ?_ (StepsRI.cons ?_ (StepsRI.cons ?_ (StepsRI.cons ?_ (StepsRI.cons ?_ (StepsRI.nil)))))))))))))))))))))))
    · intro lQ b W hI hUN hED KQ hKQ
      exact opw_field 45 1 0 rfl _ ((hI.fr.same 1 (by decide)).trans g1) _ (by kernel_rfl) (hKQ.out _ _ (hI.put 0 6 rfl rfl (by rw [hz]; decide) rfl hUN rfl HBB (cvSp_stb x a n c l w.heap.size (wb.heap.size)) (Below.refl _ _) rfl))
    · intro lQ b W hI hUN hED KQ hKQ
      have f := hI.got 0 (of_decide_eq_true rfl) (edge hED 0 (by kernel_rfl)) rfl
      have hg := (hI.vot 23 (of_decide_eq_true rfl) (of_decide_eq_true rfl) rfl)
      have hc : W.cell? ⟨w.heap.size, 0, none⟩ = some (.int .i64 x.alg) := (cell_of_row _ _ 0 _ _ (0, 0) hg).trans rfl
      exact opw_load1 2 6 rfl _ f _ (by simp [Instr.loadAt, go_sem, hc]) (hKQ.out _ _ (hI.put 1 7 rfl rfl (by rw [hz]; decide) rfl hUN rfl HBB (cvSp_stb x a n c l w.heap.size (wb.heap.size)) (Below.refl _ _) rfl))
    · intro lQ b W hI hUN hED KQ hKQ
      have f0 := hI.got 1 (of_decide_eq_true rfl) (edge hED 1 (by kernel_rfl)) rfl
      replace f0 : aT b 7 = .int .i64 x.alg := f0
      refine opw_call 73 #[.tmp 7] _ _ _ rfl Tryz.func73 (by kernel_rfl) rfl #[.int .i64 x.alg] (by simp [ev, f0]) ?_
      refine (numberItem_agg x.alg W h1.1 h1.2).mono ?_
      rintro e W2 ⟨g1, k1, rfl, _, hr, hb⟩
      exact ⟨_, rfl, hKQ.out _ _ (hI.put 2 8 rfl rfl (by rw [hz]; decide) rfl hUN rfl HBB (cvSp_stb x a n c l w.heap.size (wb.heap.size)) hb ⟨g1, k1, rfl, hr⟩)⟩
    · intro lQ b W hI hUN hED KQ hKQ
      exact opw_field 45 1 1 rfl _ ((hI.fr.same 1 (by decide)).trans g1) _ (by kernel_rfl) (hKQ.out _ _ (hI.put 3 9 rfl rfl (by rw [hz]; decide) rfl hUN rfl HBB (cvSp_stb x a n c l w.heap.size (wb.heap.size)) (Below.refl _ _) rfl))
    · intro lQ b W hI hUN hED KQ hKQ
      have f := hI.got 3 (of_decide_eq_true rfl) (edge hED 3 (by kernel_rfl)) rfl
      have hg := (hI.vot 23 (of_decide_eq_true rfl) (of_decide_eq_true rfl) rfl)
      have hc : W.cell? ⟨w.heap.size, 1, none⟩ = some (.int .u64 x.dg) := (cell_of_row _ _ 1 _ _ (0, 0) hg).trans rfl
      exact opw_load1 24 9 rfl _ f _ (by simp [Instr.loadAt, go_sem, hc]) (hKQ.out _ _ (hI.put 4 10 rfl rfl (by rw [hz]; decide) rfl hUN rfl HBB (cvSp_stb x a n c l w.heap.size (wb.heap.size)) (Below.refl _ _) rfl))
    · intro lQ b W hI hUN hED KQ hKQ
      have f0 := hI.got 4 (of_decide_eq_true rfl) (edge hED 4 (by kernel_rfl)) rfl
      replace f0 : aT b 10 = .int .u64 x.dg := f0
      refine opw_call 74 #[.tmp 10] _ _ _ rfl Tryz.func74 (by kernel_rfl) rfl #[.int .u64 x.dg] (by simp [ev, f0]) ?_
      refine (digestItem_agg x.dg W h2.1 h2.2).mono ?_
      rintro e W2 ⟨g2, rfl, _, hr, hb⟩
      exact ⟨_, rfl, hKQ.out _ _ (hI.put 5 11 rfl rfl (by rw [hz]; decide) rfl hUN rfl HBB (cvSp_stb x a n c l w.heap.size (wb.heap.size)) hb ⟨g2, rfl, hr⟩)⟩
    · intro lQ b W hI hUN hED KQ hKQ
      exact opw_field 45 1 2 rfl _ ((hI.fr.same 1 (by decide)).trans g1) _ (by kernel_rfl) (hKQ.out _ _ (hI.put 6 12 rfl rfl (by rw [hz]; decide) rfl hUN rfl HBB (cvSp_stb x a n c l w.heap.size (wb.heap.size)) (Below.refl _ _) rfl))
    · intro lQ b W hI hUN hED KQ hKQ
      have f := hI.got 6 (of_decide_eq_true rfl) (edge hED 6 (by kernel_rfl)) rfl
      have hg := (hI.vot 23 (of_decide_eq_true rfl) (of_decide_eq_true rfl) rfl)
      have hc : W.cell? ⟨w.heap.size, 2, none⟩ = some (.int .i64 x.at2) := (cell_of_row _ _ 2 _ _ (0, 0) hg).trans rfl
      exact opw_load1 2 12 rfl _ f _ (by simp [Instr.loadAt, go_sem, hc]) (hKQ.out _ _ (hI.put 7 13 rfl rfl (by rw [hz]; decide) rfl hUN rfl HBB (cvSp_stb x a n c l w.heap.size (wb.heap.size)) (Below.refl _ _) rfl))
    · intro lQ b W hI hUN hED KQ hKQ
      have f0 := hI.got 7 (of_decide_eq_true rfl) (edge hED 7 (by kernel_rfl)) rfl
      replace f0 : aT b 13 = .int .i64 x.at2 := f0
      refine opw_call 73 #[.tmp 13] _ _ _ rfl Tryz.func73 (by kernel_rfl) rfl #[.int .i64 x.at2] (by simp [ev, f0]) ?_
      refine (numberItem_agg x.at2 W h3.1 h3.2).mono ?_
      rintro e W2 ⟨g3, k3, rfl, _, hr, hb⟩
      exact ⟨_, rfl, hKQ.out _ _ (hI.put 8 14 rfl rfl (by rw [hz]; decide) rfl hUN rfl HBB (cvSp_stb x a n c l w.heap.size (wb.heap.size)) hb ⟨g3, k3, rfl, hr⟩)⟩
    · intro lQ b W hI hUN hED KQ hKQ
      exact opw_field 45 1 3 rfl _ ((hI.fr.same 1 (by decide)).trans g1) _ (by kernel_rfl) (hKQ.out _ _ (hI.put 9 15 rfl rfl (by rw [hz]; decide) rfl hUN rfl HBB (cvSp_stb x a n c l w.heap.size (wb.heap.size)) (Below.refl _ _) rfl))
    · intro lQ b W hI hUN hED KQ hKQ
      have f := hI.got 9 (of_decide_eq_true rfl) (edge hED 9 (by kernel_rfl)) rfl
      have hg := (hI.vot 23 (of_decide_eq_true rfl) (of_decide_eq_true rfl) rfl)
      have hc : W.cell? ⟨w.heap.size, 3, none⟩ = some (.int .u64 x.ky) := (cell_of_row _ _ 3 _ _ (0, 0) hg).trans rfl
      exact opw_load1 24 15 rfl _ f _ (by simp [Instr.loadAt, go_sem, hc]) (hKQ.out _ _ (hI.put 10 16 rfl rfl (by rw [hz]; decide) rfl hUN rfl HBB (cvSp_stb x a n c l w.heap.size (wb.heap.size)) (Below.refl _ _) rfl))
    · intro lQ b W hI hUN hED KQ hKQ
      have f0 := hI.got 10 (of_decide_eq_true rfl) (edge hED 10 (by kernel_rfl)) rfl
      replace f0 : aT b 16 = .int .u64 x.ky := f0
      refine opw_call 74 #[.tmp 16] _ _ _ rfl Tryz.func74 (by kernel_rfl) rfl #[.int .u64 x.ky] (by simp [ev, f0]) ?_
      refine (digestItem_agg x.ky W h4.1 h4.2).mono ?_
      rintro e W2 ⟨g4, rfl, _, hr, hb⟩
      exact ⟨_, rfl, hKQ.out _ _ (hI.put 11 17 rfl rfl (by rw [hz]; decide) rfl hUN rfl HBB (cvSp_stb x a n c l w.heap.size (wb.heap.size)) hb ⟨g4, rfl, hr⟩)⟩
    · intro lQ b W hI hUN hED KQ hKQ
      exact opw_field 45 1 4 rfl _ ((hI.fr.same 1 (by decide)).trans g1) _ (by kernel_rfl) (hKQ.out _ _ (hI.put 12 18 rfl rfl (by rw [hz]; decide) rfl hUN rfl HBB (cvSp_stb x a n c l w.heap.size (wb.heap.size)) (Below.refl _ _) rfl))
    · intro lQ b W hI hUN hED KQ hKQ
      have f := hI.got 12 (of_decide_eq_true rfl) (edge hED 12 (by kernel_rfl)) rfl
      have hg := (hI.vot 23 (of_decide_eq_true rfl) (of_decide_eq_true rfl) rfl)
      have hc : W.cell? ⟨w.heap.size, 4, none⟩ = some (.slice a n c) := (cell_of_row _ _ 4 _ _ (0, 0) hg).trans rfl
      exact opw_load1 22 18 rfl _ f _ (by simp [Instr.loadAt, go_sem, hc]) (hKQ.out _ _ (hI.put 13 19 rfl rfl (by rw [hz]; decide) rfl hUN rfl HBB (cvSp_stb x a n c l w.heap.size (wb.heap.size)) (Below.refl _ _) rfl))
    · intro lQ b W hI hUN hED KQ hKQ
      have f0 := hI.got 13 (of_decide_eq_true rfl) (edge hED 13 (by kernel_rfl)) rfl
      replace f0 : aT b 19 = .slice a n c := f0
      refine opw_call 77 #[.tmp 19] _ _ _ rfl Tryz.func77 (by kernel_rfl) rfl #[.slice a n c] (by simp [ev, f0]) ?_
      refine (bytesItem_agg a n c W).mono ?_
      rintro e W2 ⟨rfl, hb⟩
      exact ⟨_, rfl, hKQ.out _ _ (hI.put 14 20 rfl rfl (by rw [hz]; decide) rfl hUN rfl HBB (cvSp_stb x a n c l w.heap.size (wb.heap.size)) hb rfl)⟩
    · intro lQ b W hI hUN hED KQ hKQ
      have f0 := hI.got 2 (of_decide_eq_true rfl) (edge hED 2 (by kernel_rfl)) rfl
      obtain ⟨g1, k1, f0, r0⟩ := f0
      replace f0 : aT b 8 = .agg #[.int .i64 0, .int .i64 2, .bool false, .slice (some ⟨g1, k1, none⟩) (wsz x.alg) (wsz x.alg), .slice none 0 0] := f0
      have f1 := hI.got 5 (of_decide_eq_true rfl) (edge hED 5 (by kernel_rfl)) rfl
      obtain ⟨g2, f1, r1⟩ := f1
      replace f1 : aT b 11 = .agg #[.int .i64 0, .int .i64 4, .bool false, .slice (some ⟨g2, 0, none⟩) 8 8, .slice none 0 0] := f1
      have f2 := hI.got 8 (of_decide_eq_true rfl) (edge hED 8 (by kernel_rfl)) rfl
      obtain ⟨g3, k3, f2, r2⟩ := f2
      replace f2 : aT b 14 = .agg #[.int .i64 0, .int .i64 2, .bool false, .slice (some ⟨g3, k3, none⟩) (wsz x.at2) (wsz x.at2), .slice none 0 0] := f2
      have f3 := hI.got 11 (of_decide_eq_true rfl) (edge hED 11 (by kernel_rfl)) rfl
      obtain ⟨g4, f3, r3⟩ := f3
      replace f3 : aT b 17 = .agg #[.int .i64 0, .int .i64 4, .bool false, .slice (some ⟨g4, 0, none⟩) 8 8, .slice none 0 0] := f3
      have f4 := hI.got 14 (of_decide_eq_true rfl) (edge hED 14 (by kernel_rfl)) rfl
      replace f4 : aT b 20 = .agg #[.int .i64 0, .int .i64 4, .bool false, .slice a n c, .slice none 0 0] := f4
      refine opw_buildSlice _ 5 _ rfl #[(0, .agg #[.int .i64 0, .int .i64 2, .bool false, .slice (some ⟨g1, k1, none⟩) (wsz x.alg) (wsz x.alg), .slice none 0 0]), (1, .agg #[.int .i64 0, .int .i64 4, .bool false, .slice (some ⟨g2, 0, none⟩) 8 8, .slice none 0 0]), (2, .agg #[.int .i64 0, .int .i64 2, .bool false, .slice (some ⟨g3, k3, none⟩) (wsz x.at2) (wsz x.at2), .slice none 0 0]), (3, .agg #[.int .i64 0, .int .i64 4, .bool false, .slice (some ⟨g4, 0, none⟩) 8 8, .slice none 0 0]), (4, .agg #[.int .i64 0, .int .i64 4, .bool false, .slice a n c, .slice none 0 0])] (by simp [ev, f0, f1, f2, f3, f4]) (.slice (some ⟨W.heap.size, 0, none⟩) 5 5) (W.alloc (.cells #[.int .i64 0, .int .i64 2, .bool false, .slice (some ⟨g1, k1, none⟩) (wsz x.alg) (wsz x.alg), .slice none 0 0, .int .i64 0, .int .i64 4, .bool false, .slice (some ⟨g2, 0, none⟩) 8 8, .slice none 0 0, .int .i64 0, .int .i64 2, .bool false, .slice (some ⟨g3, k3, none⟩) (wsz x.at2) (wsz x.at2), .slice none 0 0, .int .i64 0, .int .i64 4, .bool false, .slice (some ⟨g4, 0, none⟩) 8 8, .slice none 0 0, .int .i64 0, .int .i64 4, .bool false, .slice a n c, .slice none 0 0] 73)) (by kernel_rfl) ?_
      exact hKQ.out _ _ (hI.put 15 21 rfl rfl (by rw [hz]; decide) rfl hUN rfl HBB (cvSp_stb x a n c l w.heap.size (wb.heap.size)) ((Below.refl _ _).alloc (Nat.le_refl _) _) ⟨W.heap.size, rfl, kids_five W 73 (numI x.alg) (bytI (eightI x.dg)) (numI x.at2) (bytI (eightI x.ky)) (bytI x.sg) _ _ _ _ _ _ _ _ _ _ _ _ _ _ _ r0 r1 r2 r3 (HSG.out W hI.bel) (fun h => by cases h) (fun h => by cases h) (fun h => by cases h) (fun h => by cases h) hc0 (by omega) (by decide) (by omega) (by decide) (by omega) rfl rfl rfl rfl rfl⟩)
    · intro lQ b W hI hUN hED KQ hKQ
      have f1 := hI.got 15 (of_decide_eq_true rfl) (edge hED 15 (by kernel_rfl)) rfl
      obtain ⟨gk, f1, o1_0⟩ := f1
      replace f1 : aT b 21 = .slice (some ⟨gk, 0, none⟩) 5 5 := f1
      refine opw_call 72 #[.const (.int .i64 12), .tmp 21] _ _ _ rfl Tryz.func72 (by kernel_rfl) rfl #[.int .i64 12, .slice (some ⟨gk, 0, none⟩) 5 5] (by simp [ev, evc, f1]) ?_
      refine (ownItem_agg 12 (some ⟨gk, 0, none⟩) 5 5 W).mono ?_
      rintro e W2 ⟨rfl, hb⟩
      exact ⟨_, rfl, hKQ.out _ _ (hI.put 16 22 rfl rfl (by rw [hz]; decide) rfl hUN rfl HBB (cvSp_stb x a n c l w.heap.size (wb.heap.size)) hb ⟨gk, rfl, o1_0.kept hb⟩)⟩
    · intro lQ b W hI hUN hED KQ hKQ
      have f0 := hI.got 16 (of_decide_eq_true rfl) (edge hED 16 (by kernel_rfl)) rfl
      obtain ⟨gk, f0, o0_0⟩ := f0
      replace f0 : aT b 22 = .agg #[.int .i64 1, .int .i64 12, .bool true, .slice none 0 0, .slice (some ⟨gk, 0, none⟩) 5 5] := f0
      refine opw_call 71 #[.tmp 22] _ _ _ rfl Tryz.func71 (by kernel_rfl) rfl #[.agg #[.int .i64 1, .int .i64 12, .bool true, .slice none 0 0, .slice (some ⟨gk, 0, none⟩) 5 5]] (by simp [ev, f0]) ?_
      refine (itemBytes_agg 12 (some ⟨gk, 0, none⟩) 5 5 [numI x.alg, bytI (eightI x.dg), numI x.at2, bytI (eightI x.ky), bytI x.sg] l W o0_0 HL.out).mono ?_
      rintro e W2 ⟨a7, c7, rfl, ho, hb⟩
      exact ⟨_, rfl, hKQ.out _ _ (hI.put 17 23 rfl rfl (by rw [hz]; decide) rfl hUN rfl HBB (cvSp_stb x a n c l w.heap.size (wb.heap.size)) hb ⟨a7, c7, rfl, ho.mono (Nat.le_trans HBB hI.bel.size)⟩)⟩
    · intro lQ b W hI hUN hED KQ hKQ
      have f := hI.got 17 (of_decide_eq_true rfl) (edge hED 17 (by kernel_rfl)) rfl
      exact opw_move 23 rfl (hKQ.out _ _ (hI.put 18 5 rfl rfl (by rw [hz]; decide) rfl hUN rfl HBB (cvSp_stb x a n c l w.heap.size (wb.heap.size)) (Below.refl _ _) f))
    · intro lQ b W hI hUN hED KQ hKQ
      have f := hI.got 18 (of_decide_eq_true rfl) (edge hED 18 (by kernel_rfl)) rfl
      obtain ⟨a7, c7, f, o_0⟩ := f
      exact opw_extract 5 0 rfl _ _ f rfl (hKQ.out _ _ (hI.put 19 24 rfl rfl (by rw [hz]; decide) rfl hUN rfl HBB (cvSp_stb x a n c l w.heap.size (wb.heap.size)) (Below.refl _ _) ⟨a7, c7, rfl, o_0⟩))
    · intro lQ b W hI hUN hED KQ hKQ
      have f := hI.got 18 (of_decide_eq_true rfl) (edge hED 18 (by kernel_rfl)) rfl
      obtain ⟨a7, c7, f, o_0⟩ := f
      exact opw_extract 5 1 rfl _ _ f rfl (hKQ.out _ _ (hI.put 20 25 rfl rfl (by rw [hz]; decide) rfl hUN rfl HBB (cvSp_stb x a n c l w.heap.size (wb.heap.size)) (Below.refl _ _) rfl))
    · intro lQ b W hI hUN hED KQ hKQ
      have f := hI.got 19 (of_decide_eq_true rfl) (edge hED 19 (by kernel_rfl)) rfl
      exact opw_assign 24 rfl (hKQ.out _ _ (hI.put 21 3 rfl rfl (by rw [hz]; decide) rfl hUN rfl HBB (cvSp_stb x a n c l w.heap.size (wb.heap.size)) (Below.refl _ _) f))
    · intro lQ b W hI hUN hED KQ hKQ
      have f := hI.got 20 (of_decide_eq_true rfl) (edge hED 20 (by kernel_rfl)) rfl
      exact opw_assign 25 rfl (hKQ.out _ _ (hI.put 22 4 rfl rfl (by rw [hz]; decide) rfl hUN rfl HBB (cvSp_stb x a n c l w.heap.size (wb.heap.size)) (Below.refl _ _) f))
  · intro b W hf hb F
    obtain ⟨a7, c7, e3, ho⟩ := F 21 (of_decide_eq_true rfl) rfl
    replace e3 : aT b 3 = _ := e3
    have HO : Hid (Own w.heap.size W a7 l.length c7 l) := ho.mono hbb.size
    have hB := keepT hbb hb
    rw [hf.eq]
    simp only [puts, Act.put, List.setIfInBounds_toArray, List.set_cons_zero, List.set_cons_succ, e3]
    clear hf F e3 ho hb
    generalize aT b = AT
    clear b
    go_wp2
    go_ret
    exact ⟨a7, c7, rfl, HO.out, hB⟩

end Go.Proofs.YtmhijbcbckljmaaGreat

set_option linter.unusedVariables false
namespace Go.Proofs.YtmhijbcbckljmaaGreat
open Go.RowKit Go.Sort

/-- A flag that says P, and nothing old is turned. -/
def SaysG (P : Prop) (w : World) (e : Ending) (w' : World) : Prop := ∃ b, e = .returned (.bool b) ∧ Hid (b = true ↔ P) ∧ Below w.heap.size w w'
theorem saysG_t {P : Prop} {w w' : World} (h : P) (hb : Below w.heap.size w w') : SaysG P w (.returned (.bool true)) w' := ⟨true, rfl, ⟨fun _ => h, fun _ => rfl⟩, hb⟩
theorem saysG_f {P : Prop} {w w' : World} (h : ¬ P) (hb : Below w.heap.size w w') : SaysG P w (.returned (.bool false)) w' := ⟨false, rfl, ⟨fun e => (by cases e), fun e => absurd e h⟩, hb⟩
/-- A stamp that is right. -/
def stP (x : StP) : Prop := (1 ≤ x.alg ∧ x.alg ≤ 9) ∧ timP x.at2 ∧ x.sg.length ≤ 500
instance (x : StP) : Decidable (stP x) := by unfold stP; infer_instance
def AllSt (xs : List StP) (n : Nat) : Prop := ∀ k, k < n → stP (xs.getD k default)
def ChSt (xs : List StP) (n : Nat) : Prop := AllSt xs n ∧ n ≤ 8
theorem cells5r {W : World} {g : Nat} {x y z u v : Value} {t : TypeId} (h : W.heap[g]? = some (.cells #[x, y, z, u, v] t (0, 0))) : W.cell? ⟨g, 0, none⟩ = some x ∧ W.cell? ⟨g, 1, none⟩ = some y ∧ W.cell? ⟨g, 2, none⟩ = some z ∧ W.cell? ⟨g, 3, none⟩ = some u ∧ W.cell? ⟨g, 4, none⟩ = some v :=
  ⟨(cell_of_row _ _ 0 _ t (0, 0) h).trans rfl, (cell_of_row _ _ 1 _ t (0, 0) h).trans rfl, (cell_of_row _ _ 2 _ t (0, 0) h).trans rfl, (cell_of_row _ _ 3 _ t (0, 0) h).trans rfl, (cell_of_row _ _ 4 _ t (0, 0) h).trans rfl⟩

theorem isAlgR_any (x : Int) (w : World) : Calls Tryz.prog 46 #[.int .i64 x] w fun e w' => e = .returned (.bool (decide (1 ≤ x ∧ x ≤ 9))) ∧ w' = w := by
  go_enter Tryz.func46, Tryz.ntmps46
  go_wp2_with fail
  refine (inBd_any x 1 9 _).mono ?_
  rintro e w2 ⟨rfl, rfl⟩
  go_wp2
  go_ret
  exact ⟨by rw [Bool.decide_and]; rfl, rfl⟩

set_option maxRecDepth 10000 in
set_option maxHeartbeats 1000000 in
theorem stampOkR_any (x : StP) (a : Option Addr) (n c : Nat) (w : World) (hn : x.sg.length = n) (hm : n ≤ 9223372036854775807) : Calls Tryz.prog 24 #[.agg #[.int .i64 x.alg, .int .u64 x.dg, .int .i64 x.at2, .int .u64 x.ky, .slice a n c]] w (SaysG (stP x) w) := by
  obtain ⟨w1, hw1⟩ : ∃ w1, w1 = w.alloc (.cells #[.int .i64 x.alg, .int .u64 x.dg, .int .i64 x.at2, .int .u64 x.ky, .slice a n c] 45) := ⟨_, rfl⟩
  have hb : Below w.heap.size w w1 := by rw [hw1]; exact (Below.refl _ _).alloc (Nat.le_refl _) _
  have hh : w1.heap[w.heap.size]? = some (.cells #[.int .i64 x.alg, .int .u64 x.dg, .int .i64 x.at2, .int .u64 x.ky, .slice a n c] 45 (0, 0)) := by rw [hw1]; exact heap_alloc_new w _
  obtain ⟨c0, c1, c2, c3, c4⟩ := cells5r hh
  have HN : Hid (x.sg.length = n) := hn
  have HW : Hid (_ = _) := hw1
  clear hw1 hh hn
  go_enter Tryz.func24, Tryz.ntmps24
  go_upto_region 1 with fail
  rw [← HW.out]
  clear HW
  go_wp2_with fail
  refine (isAlgR_any x.alg _).mono ?_
  rintro e w2 ⟨rfl, hw2⟩
  have hw2 := hw2.symm
  subst hw2
  by_cases h1 : 1 ≤ x.alg ∧ x.alg ≤ 9
  case neg =>
    have HF : Hid (¬ stP x) := fun h => h1 h.1
    rw [decide_eq_false h1]
    clear h1
    go_wp2
    go_ret
    exact saysG_f HF.out hb
  rw [decide_eq_true h1]
  go_wp2_with fail
  refine (isTim_any x.at2 _).mono ?_
  rintro e w2 ⟨rfl, hw2⟩
  have hw2 := hw2.symm
  subst hw2
  by_cases h2 : timP x.at2
  case neg =>
    have HF : Hid (¬ stP x) := fun h => h2 h.2.1
    rw [decide_eq_false h2]
    clear h1 h2
    go_wp2
    go_ret
    exact saysG_f HF.out hb
  rw [decide_eq_true h2]
  by_cases h3 : n ≤ 500
  · have HF : Hid (stP x) := ⟨h1, h2, by rw [HN.out]; exact h3⟩
    have h3' : decide ((n : Int) ≤ 500) = true := decide_eq_true (by omega)
    clear h1 h2 h3
    go_wp2
    go_ret
    exact saysG_t HF.out hb
  · have HF : Hid (¬ stP x) := fun h => h3 (by have := h.2.2; rw [HN.out] at this; exact this)
    have h3' : decide ((n : Int) ≤ 500) = false := decide_eq_false (by omega)
    clear h1 h2 h3
    go_wp2
    go_ret
    exact saysG_f HF.out hb

set_option maxRecDepth 10000 in
set_option maxHeartbeats 2000000 in
theorem everyStamp_any (K : Nat → Nat → Prop) (a : Option Addr) (n c : Nat) (xs : List StP) (w : World) (h : Sts K w a n xs) :
    Calls Tryz.prog 23 #[.slice a n c, .func (Fn.func 24) #[] #[]] w (SaysG (AllSt xs n) w) := by
  have H0 : Hid (Sts K w a n xs) := h
  have hn := h.max
  clear h
  go_enter Tryz.func23, Tryz.ntmps23
  go_wp2
  go_loopw [9] (fun i wr => ∃ k : Nat, k ≤ n ∧ i = .int .i64 k ∧ Hid (AllSt xs k) ∧ Below w.heap.size w wr) (fun i _ => n - (intOf i).toNat)
  case atStart => exact ⟨0, Nat.zero_le _, rfl, fun k hk => absurd hk (Nat.not_lt_zero _), Below.refl _ _⟩
  case round =>
    obtain ⟨k, hk, rfl, HE, hbr⟩ := hrel
    have hws := hbr.size
    by_cases hlt : k < n
    · obtain ⟨b, off, a1, n1, d1, rfl, hlb, hc, hp, hm, _⟩ := H0.out.get k hlt
      obtain ⟨y, hy⟩ : ∃ y, y = xs.getD k default := ⟨_, rfl⟩
      rw [← hy] at hc hp
      have HY : Hid (y = xs.getD k default) := hy
      obtain ⟨c0, c1, c2, c3, c4⟩ := hc.of (w' := wr) (fun i => hbr.cell (p := ⟨b, i, none⟩) hlb)
      have HLN : Hid (y.sg.length = n1) := hp.len
      have hkni : (k : Int) < (n : Int) := by omega
      have hbw : b < wr.heap.size := by omega
      clear hc hy hp
      go_wp2_with fail
      refine (stampOkR_any y a1 n1 d1 _ HLN.out hm).mono ?_
      rintro e w2 ⟨bb, rfl, hbi, hb2⟩
      have hbz : Below wr.heap.size wr (wr.alloc (.cells #[.int .i64 y.alg, .int .u64 y.dg, .int .i64 y.at2, .int .u64 y.ky, .slice a1 n1 d1] 45)) := (Below.refl _ _).alloc (Nat.le_refl _) _
      have B2 : Below w.heap.size w w2 := hbr.trans ((keepT hbz hb2).mono hws)
      clear c0 c1 c2 c3 c4
      cases bb with
      | true =>
        have HP : Hid (stP y) := hbi.out.1 rfl
        clear hbi
        go_wp2
        go_roundw
        case rel => exact ⟨k + 1, by omega, by go_num, fun j hj => by
          by_cases e : j < k
          · exact HE.out j e
          · obtain rfl : j = k := by omega
            rw [← HY.out]; exact HP.out, B2⟩
        case measure => simp [intOf]; omega
      | false =>
        have HP : Hid (¬ stP y) := fun h => by have := hbi.out.2 h; cases this
        clear hbi
        go_wp2
        go_ret
        exact saysG_f (fun e => HP.out (by rw [HY.out]; exact e k hlt)) B2
    · obtain rfl : k = n := by omega
      go_wp2
      go_ret
      exact saysG_t HE.out hbr

set_option maxRecDepth 10000 in
set_option maxHeartbeats 4000000 in
theorem l18ChainOk_any (K : Nat → Nat → Prop) (a : Option Addr) (n c : Nat) (xs : List StP) (w : World) (h : Sts K w a n xs) :
    Calls Tryz.prog 17 #[.slice a n c] w (SaysG (ChSt xs n) w) := by
  have H0 : Hid (Sts K w a n xs) := h
  have hn := h.max
  clear h
  go_enter Tryz.func17, Tryz.ntmps17
  go_wp2
  go_loopw [3] (fun i wr => ∃ k : Nat, k ≤ n ∧ i = .int .i64 k ∧ Hid (AllSt xs k) ∧ wr = w) (fun i _ => n - (intOf i).toNat)
  case atStart => exact ⟨0, Nat.zero_le _, rfl, fun k hk => absurd hk (Nat.not_lt_zero _), rfl⟩
  case round =>
    obtain ⟨k, hk, rfl, HE, hwr⟩ := hrel
    have hwr := hwr.symm
    subst hwr
    by_cases hlt : k < n
    · obtain ⟨b, off, a1, n1, d1, rfl, hlb, hc, hp, hm, _⟩ := H0.out.get k hlt
      obtain ⟨y, hy⟩ : ∃ y, y = xs.getD k default := ⟨_, rfl⟩
      rw [← hy] at hc hp
      have HY : Hid (y = xs.getD k default) := hy
      obtain ⟨c0, c1, c2, c3, c4⟩ := hc
      have HLN : Hid (y.sg.length = n1) := hp.len
      have hkni : (k : Int) < (n : Int) := by omega
      clear hy hp
      go_wp2_with fail
      refine (l1Bd_any y.alg 1 9 _).mono ?_
      rintro e w2 ⟨rfl, hw2⟩
      have hw2 := hw2.symm
      subst hw2
      by_cases h1 : 1 ≤ y.alg ∧ y.alg ≤ 9
      case neg =>
        have HF : Hid (¬ stP y) := fun h => h1 h.1
        rw [decide_eq_false h1]
        clear h1
        go_wp2
        go_ret
        exact saysG_f (fun e => HF.out (by rw [HY.out]; exact e.1 k hlt)) (Below.refl _ _)
      rw [decide_eq_true h1]
      go_wp2_with fail
      refine (l10Tim_any y.at2 _).mono ?_
      rintro e w2 ⟨rfl, hw2⟩
      have hw2 := hw2.symm
      subst hw2
      by_cases h2 : timP y.at2
      case neg =>
        have HF : Hid (¬ stP y) := fun h => h2 h.2.1
        rw [decide_eq_false h2]
        clear h1 h2
        go_wp2
        go_ret
        exact saysG_f (fun e => HF.out (by rw [HY.out]; exact e.1 k hlt)) (Below.refl _ _)
      rw [decide_eq_true h2]
      by_cases h3 : n1 ≤ 500
      · have HF : Hid (stP y) := ⟨h1, h2, by rw [HLN.out]; exact h3⟩
        have h3' : ¬ (500 : Int) < (n1 : Int) := by omega
        clear h1 h2 h3
        go_wp2
        go_roundw
        case rel => exact ⟨k + 1, by omega, by go_num, fun j hj => by
          by_cases e : j < k
          · exact HE.out j e
          · obtain rfl : j = k := by omega
            rw [← HY.out]; exact HF.out, trivial⟩
        case measure => simp [intOf]; omega
      · have HF : Hid (¬ stP y) := fun h => h3 (by have := h.2.2; rw [HLN.out] at this; exact this)
        have h3' : (500 : Int) < (n1 : Int) := by omega
        clear h1 h2 h3
        go_wp2
        go_ret
        exact saysG_f (fun e => HF.out (by rw [HY.out]; exact e.1 k hlt)) (Below.refl _ _)
    · obtain rfl : k = n := by omega
      by_cases h8 : k ≤ 8
      · have h8' : (k : Int) ≤ 8 := by omega
        go_wp2
        go_ret
        exact saysG_t ⟨HE.out, h8⟩ (Below.refl _ _)
      · have h8' : ¬ (k : Int) ≤ 8 := by omega
        go_wp2
        go_ret
        exact saysG_f (fun e => h8 e.2) (Below.refl _ _)

end Go.Proofs.YtmhijbcbckljmaaGreat

set_option linter.unusedVariables false
namespace Go.Proofs.YtmhijbcbckljmaaGreat
open Go.RowKit Go.Sort

set_option maxRecDepth 10000 in
set_option maxHeartbeats 1000000 in
theorem growB_nil (n : Nat) (w : World) (h0 : 0 < n) (hn : n ≤ 100000) :
    Calls Tryz.prog 76 #[.slice none 0 0, .int .i64 n] w fun e w' => ∃ a c, e = .returned (.slice a 0 c) ∧ Own w.heap.size w' a 0 c [] ∧ Below w.heap.size w w' := by
  obtain ⟨i0, hi, hz0, hz1, hz2⟩ := info_parts Tryz.info5
  have hr := Lib.run_append_nil_zeros (P := Tryz.prog) w 22 3 22 5 i0 (.int .u8 0) .i64 .i64 Tryz.underlying22 Tryz.underlying3 hi hz0 n h0 (by omega) (by omega) (by rw [hz2]; omega)
  obtain ⟨C, hC⟩ : ∃ C, C = grownCap w n 0 5 := ⟨_, rfl⟩
  rw [← hC] at hr
  obtain ⟨w1, hw1⟩ : ∃ w1, w1 = w.drew.alloc (.cells (Builtin.zeroCells (Value.int .u8 0).cells n ++ Builtin.zeroCells (Value.int .u8 0).cells (C - n)) 5) := ⟨_, rfl⟩
  rw [← hw1] at hr
  have hgc : n ≤ C ∧ C ≤ maxLen := by rw [hC]; exact ⟨grownCap_ge _ _ _ _ , grownCap_le_maxLen _ _ _ _ (by unfold maxLen; omega)⟩
  have hown : Own w.heap.size w1 (some ⟨w.heap.size, 0, none⟩) 0 C [] := by
    refine ⟨⟨rfl, .inr ⟨w.heap.size, C, _, rfl, Nat.le_refl _, by rw [hw1]; exact heap_alloc_new w.drew _, Nat.zero_le _, hgc.2, ?_, rfl⟩⟩, by simp⟩
    simp [Builtin.zeroCells, Value.cells]
    omega
  have hb1 : Below w.heap.size w w1 := by rw [hw1]; exact ((Below.refl _ _).drew).alloc (Nat.le_refl _) _
  have HW : Hid (_ = _) := hw1
  have HC : Hid (_ = _) := hC
  clear hgc hw1 hC
  have HR : Hid (_ = _) := hr
  clear hr
  go_enter Tryz.func76, Tryz.ntmps76
  go_wp2_with (first | (at_builtin; refine Lib.wpList_append_run _ rfl _ _ _ _ rfl _ _ rfl rfl _ _ HR.out ?_))
  go_ret
  exact ⟨_, _, rfl, hown, hb1⟩

set_option maxRecDepth 10000 in
set_option maxHeartbeats 1000000 in
theorem growB_zero (w : World) :
    Calls Tryz.prog 76 #[.slice none 0 0, .int .i64 0] w fun e w' => ∃ a c, e = .returned (.slice a 0 c) ∧ Own w.heap.size w' a 0 c [] ∧ Below w.heap.size w w' := by
  go_enter Tryz.func76, Tryz.ntmps76
  go_wp2
  go_ret
  exact ⟨none, 0, rfl, own_none _ _, Below.refl _ _⟩

theorem growB_any (n : Nat) (w : World) (hn : n ≤ 100000) :
    Calls Tryz.prog 76 #[.slice none 0 0, .int .i64 n] w fun e w' => ∃ a c, e = .returned (.slice a 0 c) ∧ Own w.heap.size w' a 0 c [] ∧ Below w.heap.size w w' := by
  by_cases h : 0 < n
  · exact growB_nil n w h hn
  · obtain rfl : n = 0 := by omega
    exact growB_zero w

theorem take_nextR (bss : List (List Int)) (k : Nat) (hk : k < bss.length) : bss.take (k + 1) = bss.take k ++ [bss.getD k []] := by
  rw [List.take_add_one]
  simp [hk]
theorem flat_next (bss : List (List Int)) (k : Nat) (hk : k < bss.length) : (bss.take (k + 1)).flatten = (bss.take k).flatten ++ bss.getD k [] := by
  rw [take_nextR bss k hk]
  simp
theorem total_flat (bss : List (List Int)) : total bss = bss.flatten.length := by simp [total, List.length_flatten]

set_option maxRecDepth 10000 in
set_option maxHeartbeats 4000000 in
theorem concatB_any (a : Option Addr) (n c : Nat) (bss : List (List Int)) (w : World) (h : Rows2 w a n bss) (hn : n ≤ 1000) (ht : total bss ≤ 50000) :
    Calls Tryz.prog 52 #[.slice a n c] w fun e w' => ∃ a' c', e = .returned (.slice a' bss.flatten.length c') ∧ Own w.heap.size w' a' bss.flatten.length c' bss.flatten ∧ Below w.heap.size w w' := by
  obtain ⟨i0, hi, hz0, hz1, hz2⟩ := info_parts Tryz.info5
  have H0 : Hid (Rows2 w a n bss) := h
  have HL : Hid (bss.length = n) := h.len
  have HT : Hid (total bss ≤ 50000) := ht
  clear h ht
  go_enter Tryz.func52, Tryz.ntmps52
  go_wp2
  go_loopw [3, 11] (fun sz i wr => ∃ (k s : Nat), k ≤ n ∧ i = .int .i64 k ∧ sz = .int .i64 s ∧ Hid (s = total (bss.take k)) ∧ Below w.heap.size w wr) (fun _ i _ => n - (intOf i).toNat)
  case atStart => exact ⟨0, 0, Nat.zero_le _, rfl, rfl, by show _ = _; simp [total], Below.refl _ _⟩
  case round =>
    obtain ⟨k, s, hk, rfl, rfl, HS, hbr⟩ := hrel
    have hws := hbr.size
    by_cases hlt : k < n
    · obtain ⟨b, off, rfl, hlb, ak, nk, ck, hc, hrk, hnk⟩ := H0.out.get k hlt
      have hcr : wr.cell? ⟨b, off + k, none⟩ = some (.slice ak nk ck) := (hbr.cell (p := ⟨b, off + k, none⟩) hlb).trans hc
      have hkl : k < bss.length := by rw [HL.out]; exact hlt
      have HN : Hid (s + nk = total (bss.take (k + 1))) := by show _ = _; rw [total_split bss k hkl, HS.out, hrk.len]
      have hsn : s + nk ≤ 50000 := by have := HN.out; have := total_take bss (k + 1); have := HT.out; omega
      have zz : ¬ ((s : Int) + (nk : Int) < 0) := by omega
      have hkni : (k : Int) < (n : Int) := by omega
      have hbw : b < wr.heap.size := by omega
      clear hc hrk hnk
      go_wp2
      go_roundw
      case rel => exact ⟨k + 1, s + nk, by omega, by go_num, by go_num, HN, hbr⟩
      case measure => simp [intOf]; omega
    · obtain rfl : k = n := by omega
      have HS2 : Hid (s = total bss) := by show _ = _; rw [HS.out, List.take_of_length_le (by rw [HL.out]; exact Nat.le_refl _)]
      have hs5 : s ≤ 50000 := by have := HS2.out; have := HT.out; omega
      obtain ⟨w1, hw1⟩ : ∃ w1, w1 = wr := ⟨_, rfl⟩
      subst hw1
      go_wp2_with fail
      refine (growB_any s _ (by omega)).mono ?_
      rintro e w2 ⟨a2, c2, rfl, ho2, hb2⟩
      have HO2 : Hid (Own w.heap.size w2 a2 0 c2 []) := ho2.mono hws
      have hbz := hbr.trans (hb2.mono hws)
      clear ho2 HS hbr
      go_wp2
      go_loopw [6, 27] (fun o i wr => ∃ (j m : Nat) (ao : Option Addr) (cc : Nat), j ≤ k ∧ i = .int .i64 j ∧ o = .slice ao m cc ∧ Hid (m = (bss.take j).flatten.length) ∧ Hid (Own w.heap.size wr ao m cc (bss.take j).flatten) ∧ Below w.heap.size w wr) (fun _ i _ => k - (intOf i).toNat)
      case atStart => exact ⟨0, 0, a2, c2, Nat.zero_le _, rfl, rfl, by show _ = _; simp, HO2, hbz⟩
      case round =>
        obtain ⟨j, m, ao, cc, hj, rfl, rfl, HM, HO, hbr⟩ := hrel
        have hws2 := hbr.size
        by_cases hlt2 : j < k
        · obtain ⟨b, off, rfl, hlb, ak, nk, ck, hc, hrk, hnk⟩ := H0.out.get j hlt2
          have hcr : wr.cell? ⟨b, off + j, none⟩ = some (.slice ak nk ck) := (hbr.cell (p := ⟨b, off + j, none⟩) hlb).trans hc
          have hkl : j < bss.length := by rw [HL.out]; exact hlt2
          have HRK : Hid (Row wr ak nk (bss.getD j [])) := hrk.kept hbr
          have HB : Hid (∀ q, 0 ≤ (bss.getD j []).getD q 0 ∧ (bss.getD j []).getD q 0 ≤ 255) := hrk.byte
          have HE : Hid ((bss.take (j + 1)).flatten = (bss.take j).flatten ++ bss.getD j []) := flat_next bss j hkl
          have HM2 : Hid (m + nk = (bss.take (j + 1)).flatten.length) := by show _ = _; rw [HE.out, List.length_append, ← HM.out, hrk.len]
          have hmn : m + nk ≤ 50000 := by have h1 := HM2.out; rw [← total_flat] at h1; have := total_take bss (j + 1); have := HT.out; omega
          have hkni : (j : Int) < (k : Int) := by omega
          have hbw : b < wr.heap.size := by omega
          clear hc hrk
          go_wp2_with (at_builtin; refine wpList_append_row _ rfl _ _ 22 rfl w.heap.size i0 Tryz.underlying22 hi hz0 hz1 hz2 _ _ _ rfl HO.out.row ak nk ck (bss.getD j []) rfl HRK.out hnk (by omega) hws2 ?_; intro v4 w4 hv4 hg4; obtain ⟨a4, c4, rfl, ho4⟩ := own_appended hv4 HO.out.byte HB.out; have hbr4 : Below w.heap.size w w4 := below_appended hbr hws2 HO.out.row hg4; have HO4 : Hid (Own w.heap.size w4 a4 (m + nk) c4 (bss.take (j + 1)).flatten) := (by rw [HE.out]; exact ho4); clear ho4 hv4 hg4)
          go_roundw
          case rel => exact ⟨j + 1, m + nk, a4, c4, by omega, by go_num, rfl, HM2, HO4, hbr4⟩
          case measure => simp [intOf]; omega
        · obtain rfl : j = k := by omega
          have HE : Hid ((bss.take j).flatten = bss.flatten) := by show _ = _; rw [List.take_of_length_le (by rw [HL.out]; exact Nat.le_refl _)]
          go_wp2
          go_ret
          exact ⟨ao, cc, by rw [← HE.out, ← HM.out]; rfl, by rw [← HE.out, ← HM.out]; exact HO.out, hbr⟩

end Go.Proofs.YtmhijbcbckljmaaGreat

set_option linter.unusedVariables false
namespace Go.Proofs.YtmhijbcbckljmaaGreat
open Go.RowKit Go.Sort

theorem blocks_apartR {w : World} {B B' e e' s s' n m : Nat} {v u : Value} {xs ys : List Value} (h : w.ownsRow B e s v n xs) (k : w.ownsRow B' e' s' u m ys) (hne : e ≠ e') : v.ownBlock = none ∨ v.ownBlock ≠ u.ownBlock := by
  rcases h.2 with ⟨rfl, _⟩ | ⟨g, cap, cur, rfl, _, hg, _⟩
  · exact .inl rfl
  · right
    rcases k.2 with ⟨rfl, _⟩ | ⟨g', cap', cur', rfl, _, hg', _⟩
    · simp [Value.ownBlock]
    · simp only [Value.ownBlock, ne_eq, Option.some.injEq]
      rintro rfl
      rw [hg] at hg'
      simp only [Option.some.injEq, Obj.cells.injEq] at hg'
      exact hne hg'.2.1
theorem owns_shapeR {w : World} {B e s n : Nat} {v : Value} {xs : List Value} (h : w.ownsRow B e s v n xs) : ∃ a c, v = .slice a n c := by
  rcases h.2 with ⟨rfl, rfl⟩ | ⟨g, cap, cur, rfl, _⟩
  · exact ⟨_, _, rfl⟩
  · exact ⟨_, _, rfl⟩
abbrev Rq := Option Addr × Nat × Nat
def rqv (q : Rq) : Value := .slice q.1 q.2.1 q.2.2
def rq0 : Rq := (none, 0, 0)
/-- Rows of bytes of our own, in a row of our own. -/
structure OwnR (B : Nat) (w : World) (a : Option Addr) (n cap : Nat) (qs : List Rq) (bss : List (List Int)) : Prop where
  row : w.ownsRow B 22 1 (.slice a n cap) n (qs.map rqv)
  len : bss.length = n
  each : ∀ j, j < n → Own B w (qs.getD j rq0).1 (qs.getD j rq0).2.1 (qs.getD j rq0).2.2 (bss.getD j [])
theorem OwnR.qlen {B : Nat} {w : World} {a : Option Addr} {n cap : Nat} {qs : List Rq} {bss : List (List Int)} (h : OwnR B w a n cap qs bss) : qs.length = n := by simpa using h.row.1
theorem ownR_none (B : Nat) (w : World) : OwnR B w none 0 0 [] [] := ⟨World.ownsRow_nil _ _ _ _, rfl, fun _ hj => absurd hj (Nat.not_lt_zero _)⟩
theorem OwnR.kept {B : Nat} {w w' : World} {a : Option Addr} {n cap : Nat} {qs : List Rq} {bss : List (List Int)} (h : OwnR B w a n cap qs bss) (hb : Below w.heap.size w w') : OwnR B w' a n cap qs bss :=
  ⟨ownsRow_below h.row hb, h.len, fun j hj => (h.each j hj).kept hb⟩
theorem OwnR.rows {B : Nat} {w : World} {a : Option Addr} {n cap : Nat} {qs : List Rq} {bss : List (List Int)} (h : OwnR B w a n cap qs bss) : Rows2 w a n bss := by
  refine ⟨h.len, fun k hk => ?_⟩
  have hq := h.qlen
  rcases h.row.2 with ⟨_, h0⟩ | ⟨g, cap', cur, hv, hb, hg, _⟩
  · omega
  · simp only [Value.slice.injEq] at hv
    obtain ⟨rfl, _, rfl⟩ := hv
    refine ⟨g, 0, rfl, (Array.getElem?_eq_some_iff.1 hg).1, _, _, _, ?_, (h.each k hk).toRow, (h.each k hk).nil⟩
    rw [Nat.zero_add, h.row.cellAt k (by omega)]
    simp [rqv, hq, hk]
/-- A row more. -/
theorem OwnR.appended {B : Nat} {w w' : World} {a a' : Option Addr} {n cap cap' : Nat} {qs : List Rq} {bss : List (List Int)} {q : Rq} {bs : List Int} (h : OwnR B w a n cap qs bss) (ho : Own B w q.1 q.2.1 q.2.2 bs)
    (hv : w'.ownsRow B 22 1 (.slice a' (n + 1) cap') (n + 1) ((qs ++ [q]).map rqv)) (hg : w.grownBy w' (Value.slice a n cap).ownBlock) : OwnR B w' a' (n + 1) cap' (qs ++ [q]) (bss ++ [bs]) := by
  have hq := h.qlen
  have gq : ∀ j, j < n → (qs ++ [q]).getD j rq0 = qs.getD j rq0 := fun j hj => by simp [List.getElem?_append, hq, hj]
  have gn : (qs ++ [q]).getD n rq0 = q := by simp [← hq]
  have gb : ∀ j, j < n → (bss ++ [bs]).getD j [] = bss.getD j [] := fun j hj => by simp [List.getElem?_append, h.len, hj]
  have gm : (bss ++ [bs]).getD n [] = bs := by simp [← h.len]
  refine ⟨hv, by simp [h.len], fun j hj => ?_⟩
  by_cases e : j < n
  · rw [gq j e, gb j e]
    exact ⟨(h.each j e).row.kept hg (blocks_apartR (h.each j e).row h.row (by decide)), (h.each j e).byte⟩
  · obtain rfl : j = n := by omega
    rw [gn, gm]
    exact ⟨ho.row.kept hg (blocks_apartR ho.row h.row (by decide)), ho.byte⟩
theorem Tryz.infoBS : (Tryz.prog.info? 22).map (fun i => (i.zero, i.size, i.bytes)) = some (some (.slice none 0 0), 1, 24) := by kernel_rfl
def covL (xs : List StP) (k : Nat) : List (List Int) := (List.range k).map fun j => cvB (xs.getD j default)
theorem covL_len (xs : List StP) (k : Nat) : (covL xs k).length = k := by simp [covL]
theorem covL_next (xs : List StP) (k : Nat) : covL xs (k + 1) = covL xs k ++ [cvB (xs.getD k default)] := by simp [covL, List.range_succ]
theorem covL_total (xs : List StP) (n : Nat) (hs : AllSt xs n) : ∀ k, k ≤ n → total (covL xs k) ≤ 1100 * k := by
  intro k
  induction k with
  | zero => intro _; simp [covL, total]
  | succ k ih =>
    intro hk
    have h1 := ih (by omega)
    have h2 := (cvB_enc (xs.getD k default) (hs k (by omega)).2.2).2
    have h3 : total (covL xs (k + 1)) = total (covL xs k) + (cvB (xs.getD k default)).length := by rw [covL_next]; simp [total]
    omega
theorem cell_oneR (w : World) (t : TypeId) (v : Value) : ∀ j u, [v][j]? = some u → (w.alloc (.cells #[v] t)).cell? ((⟨w.heap.size, 0, none⟩ : Addr).add j) = some u := by
  intro j u hu
  cases j with
  | zero =>
    simp at hu
    subst hu
    rw [Addr.add_lit]
    exact (cell_of_row _ _ 0 _ t (0, 0) (heap_alloc_new w _)).trans rfl
  | succ j => simp at hu

set_option maxRecDepth 10000 in
set_option maxHeartbeats 4000000 in
theorem eachCov_any (a : Option Addr) (n c : Nat) (xs : List StP) (w : World) (h : Sts (fun n c => n = c ∧ n ≤ 1048576) w a n xs) (hs : AllSt xs n) (hn : n ≤ 8) :
    Calls Tryz.prog 53 #[.slice a n c, .func (Fn.func 54) #[] #[]] w fun e w' => ∃ a' c' qs, e = .returned (.slice a' n c') ∧ OwnR w.heap.size w' a' n c' qs (covL xs n) ∧ Below w.heap.size w w' := by
  obtain ⟨i0, hi, hz0, hz1, hz2⟩ := info_parts Tryz.infoBS
  have H0 : Hid (Sts (fun n c => n = c ∧ n ≤ 1048576) w a n xs) := h
  have HS : Hid (AllSt xs n) := hs
  clear h hs
  go_enter Tryz.func53, Tryz.ntmps53
  go_wp2
  go_loopw [5, 10] (fun o i wr => ∃ (k : Nat) (ao : Option Addr) (cc : Nat), k ≤ n ∧ i = .int .i64 k ∧ o = .slice ao k cc ∧ Hid (∃ qs, OwnR w.heap.size wr ao k cc qs (covL xs k)) ∧ Below w.heap.size w wr) (fun _ i _ => n - (intOf i).toNat)
  case atStart => exact ⟨0, none, 0, Nat.zero_le _, rfl, rfl, ⟨[], ownR_none _ _⟩, Below.refl _ _⟩
  case round =>
    obtain ⟨k, ao, cc, hk, rfl, rfl, HO, hbr⟩ := hrel
    have hws := hbr.size
    by_cases hlt : k < n
    · obtain ⟨b, off, a1, n1, d1, rfl, hlb, hc, hp, hm, hu, hK⟩ := H0.out.get k hlt
      obtain ⟨y, hy⟩ : ∃ y, y = xs.getD k default := ⟨_, rfl⟩
      have hst := HS.out k hlt
      rw [← hy] at hc hp hu hst
      have HY : Hid (y = xs.getD k default) := hy
      obtain ⟨c0, c1, c2, c3, c4⟩ := hc.of (w' := wr) (fun i => hbr.cell (p := ⟨b, i, none⟩) hlb)
      have hkni : (k : Int) < (n : Int) := by omega
      have hbw : b < wr.heap.size := by omega
      have hnl : a1 = none → d1 = 0 := fun e => by
        subst e
        by_cases h0 : 0 < n1
        · obtain ⟨_, _, h1, _⟩ := hp.get 0 h0
          cases h1
        · have := hK.1
          omega
      have hn5 : n1 ≤ 500 := by rw [← hp.len]; exact hst.2.2
      obtain ⟨hE, hEl⟩ := cvB_enc y hst.2.2
      obtain ⟨l, hl⟩ : ∃ l, l = cvB y := ⟨_, rfl⟩
      rw [← hl] at hE hEl
      have HCV : Hid (∀ W, Row W a1 n1 y.sg → Calls Tryz.prog 54 #[.agg #[.int .i64 y.alg, .int .u64 y.dg, .int .i64 y.at2, .int .u64 y.ky, .slice a1 n1 d1]] W fun e w' => ∃ a' c', e = .returned (.slice a' l.length c') ∧ Own W.heap.size w' a' l.length c' l ∧ Below W.heap.size W w') := by
        intro W h1
        obtain ⟨s1, s2, s3⟩ := hst
        unfold timP at s2
        exact coveredBytes_any y a1 n1 d1 l W (by omega) hu.1 (by omega) hu.2 h1 hnl hn5 hE
      have HRW : Hid (Row wr a1 n1 y.sg) := hp.kept hbr
      have HLC : Hid (covL xs (k + 1) = covL xs k ++ [l]) := by show _ = _; rw [covL_next, hl, HY.out]
      clear hc hy hp hu hst hE hEl hl hnl hn5 hm hK
      go_wp2_with fail
      refine (HCV.out _ (HRW.out.kept ((Below.refl _ _).alloc (Nat.le_refl _) _))).mono ?_
      rintro e w2 ⟨a2, cc2, rfl, ho2, hb2⟩
      have hbz : Below wr.heap.size wr (wr.alloc (.cells #[.int .i64 y.alg, .int .u64 y.dg, .int .i64 y.at2, .int .u64 y.ky, .slice a1 n1 d1] 45)) := (Below.refl _ _).alloc (Nat.le_refl _) _
      have hb2r := keepT hbz hb2
      have B2 : Below w.heap.size w w2 := hbr.trans (hb2r.mono hws)
      have hw2 := B2.size
      have HO2 : Hid (Own w.heap.size w2 a2 l.length cc2 l) := ho2.mono (by have := hbz.size; omega)
      obtain ⟨qs, hqs⟩ := HO.out
      have HQ : Hid (OwnR w.heap.size w2 ao k cc qs (covL xs k)) := hqs.kept hb2r
      have HQ3 : Hid (OwnR w.heap.size (w2.alloc (.cells #[.slice a2 l.length cc2] 22)) ao k cc qs (covL xs k)) := HQ.out.kept ((Below.refl _ _).alloc (Nat.le_refl _) _)
      have HO3 : Hid (Own w.heap.size (w2.alloc (.cells #[.slice a2 l.length cc2] 22)) a2 l.length cc2 l) := HO2.out.kept ((Below.refl _ _).alloc (Nat.le_refl _) _)
      clear c0 c1 c2 c3 c4 hqs ho2 HO HRW HCV
      go_wp2_with (at_builtin; refine wpList_append_own _ rfl _ _ 69 rfl w.heap.size 22 i0 _ 1 24 Tryz.underlying69 hi hz0 hz1 hz2 rfl (by decide) _ k _ rfl HQ3.out.row ⟨w2.heap.size, 0, none⟩ 1 1 [.slice a2 l.length cc2] rfl rfl (cell_oneR _ _ _) (by intro u hu; simp at hu; subst hu; rfl) (by unfold maxLen; omega) (by omega) (by simp; omega) ?_; intro v7 w7 hv7 hg7 _; obtain ⟨a7, c7, rfl⟩ := owns_shapeR hv7; have hbq : Below w.heap.size w w7 := (B2.alloc hw2 _).grown hg7 (by simp; omega) (fun j hj => (HQ3.out.row.lt j hj).1); have HN : Hid (∃ qs, OwnR w.heap.size w7 a7 (k + 1) c7 qs (covL xs (k + 1))) := ⟨qs ++ [(a2, l.length, cc2)], by rw [HLC.out]; exact HQ3.out.appended (q := (a2, l.length, cc2)) HO3.out (by rw [List.map_append]; exact hv7) hg7⟩; clear hv7 hg7)
      go_roundw
      case rel => exact ⟨k + 1, a7, c7, by omega, by go_num, rfl, HN, hbq⟩
      case measure => simp [intOf]; omega
    · obtain rfl : k = n := by omega
      obtain ⟨qs, hqs⟩ := HO.out
      have HQ : Hid (OwnR w.heap.size wr ao k cc qs (covL xs k)) := hqs
      clear hqs HO
      go_wp2
      go_ret
      exact ⟨ao, cc, qs, rfl, HQ.out, hbr⟩

/-- What a stamp behind a chain is of. -/
def covd (doc : List Int) (xs : List StP) (n : Nat) : List Int := doc ++ (covL xs n).flatten

set_option maxRecDepth 10000 in
set_option maxHeartbeats 2000000 in
theorem covered_any (ad : Option Addr) (nd cd : Nat) (doc : List Int) (a : Option Addr) (n c : Nat) (xs : List StP) (w : World) (hd : Row w ad nd doc) (hd0 : ad = none → cd = 0) (hd4 : nd ≤ 4000) (h : Sts (fun n c => n = c ∧ n ≤ 1048576) w a n xs) (hs : AllSt xs n) (hn : n ≤ 8) :
    Calls Tryz.prog 27 #[.slice ad nd cd, .slice a n c] w fun e w' => ∃ a' c', e = .returned (.slice a' (covd doc xs n).length c') ∧ Own w.heap.size w' a' (covd doc xs n).length c' (covd doc xs n) ∧ Below w.heap.size w w' := by
  have HT := covL_total xs n hs n (Nat.le_refl _)
  have HD : Hid (Row w ad nd doc) := hd
  have HB : Hid (doc.length = nd) := hd.len
  go_enter Tryz.func27, Tryz.ntmps27
  go_wp2_with fail
  refine (eachCov_any a n c xs _ h hs hn).mono ?_
  rintro e w1 ⟨a1, c1, qs, rfl, ho1, hb1⟩
  clear hd h hs
  go_wp2_with fail
  refine (concatB_any a1 n c1 (covL xs n) _ ho1.rows (by omega) (by omega)).mono ?_
  rintro e w2 ⟨a2, c2, rfl, ho2, hb2⟩
  obtain ⟨F, hF⟩ : ∃ F, F = (covL xs n).flatten := ⟨_, rfl⟩
  have hFl : F.length ≤ 8800 := by rw [hF, ← total_flat]; omega
  have HC : Hid (covd doc xs n = [doc, F].flatten) := by show _ = _; rw [hF]; simp [covd]
  rw [← hF] at ho2 ⊢
  have hb12 := keepT hb1 hb2
  have hbz : Below w2.heap.size w2 (w2.alloc (.cells #[.slice ad nd cd, .slice a2 F.length c2] 22)) := (Below.refl _ _).alloc (Nat.le_refl _) _
  have hb13 := keepT hb12 hbz
  have HR2 : Hid (Rows2 (w2.alloc (.cells #[.slice ad nd cd, .slice a2 F.length c2] 22)) (some ⟨w2.heap.size, 0, none⟩) 2 [doc, F]) := by
    have hh := heap_alloc_new w2 (.cells #[.slice ad nd cd, .slice a2 F.length c2] 22)
    refine ⟨rfl, fun k hk => ⟨w2.heap.size, 0, rfl, by simp, ?_⟩⟩
    rcases (show k = 0 ∨ k = 1 by omega) with rfl | rfl
    · exact ⟨ad, nd, cd, (cell_of_row _ _ 0 _ _ (0, 0) hh).trans rfl, HD.out.kept hb13, hd0⟩
    · exact ⟨a2, F.length, c2, (cell_of_row _ _ 1 _ _ (0, 0) hh).trans rfl, (ho2.kept hbz).toRow, ho2.nil⟩
  have ht2 : total [doc, F] ≤ 50000 := by have := HB.out; simp [total]; omega
  clear ho1 ho2 hF HT
  go_wp2_with fail
  refine (concatB_any (some ⟨w2.heap.size, 0, none⟩) 2 2 [doc, F] _ HR2.out (by decide) ht2).mono ?_
  rintro e w4 ⟨a4, c4, rfl, ho4, hb4⟩
  rw [← HC.out] at ho4 ⊢
  have HO4 : Hid (Own w.heap.size w4 a4 (covd doc xs n).length c4 (covd doc xs n)) := ho4.mono hb13.size
  have hB := keepT hb13 hb4
  clear ho4
  go_wp2
  go_ret
  exact ⟨a4, c4, rfl, HO4.out, hB⟩

end Go.Proofs.YtmhijbcbckljmaaGreat

set_option linter.unusedVariables false
namespace Go.Proofs.YtmhijbcbckljmaaGreat
open Go.RowKit Go.Sort

abbrev Sq := Rq × StP
def st5 (p : Sq) : List Value := [.int .i64 p.2.alg, .int .u64 p.2.dg, .int .i64 p.2.at2, .int .u64 p.2.ky, rqv p.1]
def sq0 : Sq := (rq0, default)
theorem flat_at : ∀ (ps : List Sq) (j i : Nat), j < ps.length → i < 5 → (ps.flatMap st5)[j * 5 + i]? = (st5 (ps.getD j sq0))[i]?
  | [], j, i, hj, hi => absurd hj (Nat.not_lt_zero _)
  | p :: ps, 0, i, hj, hi => by
    rw [List.flatMap_cons, List.getElem?_append_left (by simp [st5]; omega)]
    simp
  | p :: ps, j + 1, i, hj, hi => by
    have h5 : (st5 p).length = 5 := rfl
    rw [List.flatMap_cons, List.getElem?_append_right (by rw [h5]; omega), h5]
    rw [show (j + 1) * 5 + i - 5 = j * 5 + i by omega, flat_at ps j i (by simpa using hj) hi]
    simp
theorem flat_len (ps : List Sq) : (ps.flatMap st5).length = ps.length * 5 := by
  induction ps with
  | nil => rfl
  | cons p ps ih => rw [List.flatMap_cons, List.length_append, ih]; simp [st5]; omega
/-- Stamps of our own, each signature in a block of its own. -/
structure OwnS (B : Nat) (w : World) (a : Option Addr) (n cap : Nat) (ps : List Sq) : Prop where
  row : w.ownsRow B 45 5 (.slice a n cap) n (ps.flatMap st5)
  len : ps.length = n
  each : ∀ j, j < n → Own B w (ps.getD j sq0).1.1 (ps.getD j sq0).1.2.1 (ps.getD j sq0).1.2.2 (ps.getD j sq0).2.sg
  apart : ∀ i j l, i < n → j < n → (rqv (ps.getD i sq0).1).ownBlock = some l → (rqv (ps.getD j sq0).1).ownBlock = some l → i = j
  rng : ∀ j, j < n → U64 (ps.getD j sq0).2.dg ∧ U64 (ps.getD j sq0).2.ky
theorem ownS_none (B : Nat) (w : World) : OwnS B w none 0 0 [] := ⟨World.ownsRow_nil _ _ _ _, rfl, fun _ hj => absurd hj (Nat.not_lt_zero _), fun _ _ _ hi => absurd hi (Nat.not_lt_zero _), fun _ hj => absurd hj (Nat.not_lt_zero _)⟩
theorem OwnS.kept {B : Nat} {w w' : World} {a : Option Addr} {n cap : Nat} {ps : List Sq} (h : OwnS B w a n cap ps) (hb : Below w.heap.size w w') : OwnS B w' a n cap ps :=
  ⟨ownsRow_below h.row hb, h.len, fun j hj => (h.each j hj).kept hb, h.apart, h.rng⟩
theorem OwnS.mono {B B' : Nat} {w : World} {a : Option Addr} {n cap : Nat} {ps : List Sq} (h : OwnS B w a n cap ps) (hB : B' ≤ B) : OwnS B' w a n cap ps :=
  ⟨⟨h.row.1, by rcases h.row.2 with h | ⟨g, cap, cur, hv, hb, r⟩; exact .inl h; exact .inr ⟨g, cap, cur, hv, by omega, r⟩⟩, h.len, fun j hj => (h.each j hj).mono hB, h.apart, h.rng⟩
theorem OwnS.cells {B : Nat} {w : World} {a : Option Addr} {n cap : Nat} {ps : List Sq} (h : OwnS B w a n cap ps) {j : Nat} (hj : j < n) : ∃ b, a = some ⟨b, 0, none⟩ ∧ b < w.heap.size ∧ CellsSt w b (0 + j * 5) (ps.getD j sq0).1.1 (ps.getD j sq0).1.2.1 (ps.getD j sq0).1.2.2 (ps.getD j sq0).2 := by
  have hl := h.len
  have hfl := flat_len ps
  rcases h.row.2 with ⟨_, h0⟩ | ⟨g, cap', cur, hv, hb, hg, _⟩
  · omega
  · simp only [Value.slice.injEq] at hv
    obtain ⟨rfl, _, rfl⟩ := hv
    refine ⟨g, rfl, (Array.getElem?_eq_some_iff.1 hg).1, ?_⟩
    have hc : ∀ i, i < 5 → w.cell? ⟨g, j * 5 + i, none⟩ = (st5 (ps.getD j sq0))[i]? := fun i hi => by
      rw [h.row.cellAt (j * 5 + i) (by omega)]
      exact flat_at ps j i (by omega) hi
    rw [Nat.zero_add]
    exact ⟨hc 0 (by decide), hc 1 (by decide), hc 2 (by decide), hc 3 (by decide), hc 4 (by decide)⟩
def xsOf (ps : List Sq) : List StP := ps.map Prod.snd
theorem xsOf_at (ps : List Sq) (j : Nat) (hj : j < ps.length) : (xsOf ps).getD j default = (ps.getD j sq0).2 := by simp [xsOf, hj]
theorem OwnS.sts {B : Nat} {w : World} {a : Option Addr} {n cap : Nat} {ps : List Sq} (h : OwnS B w a n cap ps) (hn : n ≤ 1000) (hs : ∀ j, j < n → (ps.getD j sq0).2.sg.length ≤ 1048576) : Sts (fun _ _ => True) w a n (xsOf ps) := by
  have hl := h.len
  refine ⟨by simp [xsOf, hl], by omega, fun k hk => ?_⟩
  obtain ⟨b, rfl, hb, hc⟩ := h.cells hk
  rw [xsOf_at ps k (by omega)]
  have hr := (h.each k hk).toRow
  exact ⟨b, 0, _, _, _, rfl, hb, hc, hr, by have := hs k hk; rw [hr.len] at this; omega, h.rng k hk, trivial⟩
theorem getD_more (ps : List Sq) (p : Sq) (j : Nat) (hj : j < ps.length) : (ps ++ [p]).getD j sq0 = ps.getD j sq0 := by simp [List.getElem?_append, hj]
theorem getD_last (ps : List Sq) (p : Sq) : (ps ++ [p]).getD ps.length sq0 = p := by simp
/-- A stamp more. -/
theorem OwnS.appended {B : Nat} {w w' : World} {a a' : Option Addr} {n cap cap' : Nat} {ps : List Sq} {p : Sq} (h : OwnS B w a n cap ps) (ho : Own B w p.1.1 p.1.2.1 p.1.2.2 p.2.sg) (hu : U64 p.2.dg ∧ U64 p.2.ky)
    (hap : ∀ j l, j < n → (rqv (ps.getD j sq0).1).ownBlock = some l → (rqv p.1).ownBlock = some l → False)
    (hv : w'.ownsRow B 45 5 (.slice a' (n + 1) cap') (n + 1) ((ps ++ [p]).flatMap st5)) (hg : w.grownBy w' (Value.slice a n cap).ownBlock) : OwnS B w' a' (n + 1) cap' (ps ++ [p]) := by
  have hl := h.len
  have gq : ∀ j, j < n → (ps ++ [p]).getD j sq0 = ps.getD j sq0 := fun j hj => getD_more ps p j (by omega)
  have gn : (ps ++ [p]).getD n sq0 = p := by rw [← hl]; exact getD_last ps p
  refine ⟨hv, by simp [hl], fun j hj => ?_, fun i j l hi hj hil hjl => ?_, fun j hj => ?_⟩
  · by_cases e : j < n
    · rw [gq j e]
      exact ⟨(h.each j e).row.kept hg (blocks_apartR (h.each j e).row h.row (by decide)), (h.each j e).byte⟩
    · obtain rfl : j = n := by omega
      rw [gn]
      exact ⟨ho.row.kept hg (blocks_apartR ho.row h.row (by decide)), ho.byte⟩
  · by_cases ei : i < n
    · rw [gq i ei] at hil
      by_cases ej : j < n
      · rw [gq j ej] at hjl
        exact h.apart i j l ei ej hil hjl
      · obtain rfl : j = n := by omega
        rw [gn] at hjl
        exact (hap i l ei hil hjl).elim
    · obtain rfl : i = n := by omega
      rw [gn] at hil
      by_cases ej : j < i
      · rw [gq j ej] at hjl
        exact (hap j l ej hjl hil).elim
      · omega
  · by_cases e : j < n
    · rw [gq j e]; exact h.rng j e
    · obtain rfl : j = n := by omega
      rw [gn]; exact hu
/-- One signature is another. -/
def putSg (p : Sq) (bs : List Int) : Sq := (p.1, { p.2 with sg := bs })
theorem st5_put (p : Sq) (bs : List Int) : st5 (putSg p bs) = st5 p := rfl
theorem flat_set : ∀ (ps : List Sq) (k : Nat) (bs : List Int), (ps.set k (putSg (ps.getD k sq0) bs)).flatMap st5 = ps.flatMap st5
  | [], k, bs => by simp
  | p :: ps, 0, bs => by simp [st5_put]
  | p :: ps, k + 1, bs => by
    have := flat_set ps k bs
    simp only [List.getD_cons_succ, List.set_cons_succ, List.flatMap_cons]
    rw [this]
theorem set_at (ps : List Sq) (k j : Nat) (p : Sq) (hj : j < ps.length) : (ps.set k p).getD j sq0 = if j = k then p else ps.getD j sq0 := by
  by_cases e : j = k
  · subst e
    simp [hj]
  · rw [if_neg e]
    simp only [List.getD_eq_getElem?_getD]
    rw [List.getElem?_set_ne (fun h => e h.symm)]
theorem OwnS.turned {B : Nat} {w w' : World} {a : Option Addr} {n cap : Nat} {ps : List Sq} (h : OwnS B w a n cap ps) {k : Nat} (hk : k < n) {bs : List Int} (ho : Own B w' (ps.getD k sq0).1.1 (ps.getD k sq0).1.2.1 (ps.getD k sq0).1.2.2 bs) (hg : w.grownBy w' (rqv (ps.getD k sq0).1).ownBlock) : OwnS B w' a n cap (ps.set k (putSg (ps.getD k sq0) bs)) := by
  have hl := h.len
  have hat : ∀ j, j < n → ((ps.set k (putSg (ps.getD k sq0) bs)).getD j sq0).1 = (ps.getD j sq0).1 := fun j hj => by
    rw [set_at ps k j _ (by omega)]
    by_cases e : j = k
    · rw [if_pos e, e]; rfl
    · rw [if_neg e]
  refine ⟨by rw [flat_set]; exact h.row.kept hg (blocks_apartR h.row (h.each k hk).row (by decide)), by simp [hl], fun j hj => ?_, fun i j l hi hj h1 h2 => h.apart i j l hi hj (by rw [← hat i hi]; exact h1) (by rw [← hat j hj]; exact h2), fun j hj => ?_⟩
  · by_cases e : j = k
    · subst e
      rw [set_at ps j j _ (by omega), if_pos rfl]
      exact ho
    · rw [set_at ps k j _ (by omega), if_neg e]
      refine ⟨(h.each j hj).row.kept hg ?_, (h.each j hj).byte⟩
      cases hb : (rqv (ps.getD j sq0).1).ownBlock with
      | none => exact .inl hb
      | some l =>
        right
        intro h2
        have h3 : (rqv (ps.getD k sq0).1).ownBlock = some l := by rw [← h2]; exact hb
        exact e (h.apart j k l hj hk hb h3)
  · by_cases e : j = k
    · subst e
      rw [set_at ps j j _ (by omega), if_pos rfl]
      exact h.rng j hj
    · rw [set_at ps k j _ (by omega), if_neg e]
      exact h.rng j hj

end Go.Proofs.YtmhijbcbckljmaaGreat

namespace Go.Proofs.YtmhijbcbckljmaaGreat
open Go.RowKit

def xr (xs ys : List Int) (i : Nat) : Int := bits .xor .u8 (xs.getD i 0) (ys.getD (i % ys.length) 0)
def xorTo (xs ys : List Int) (k : Nat) : List Int := (List.range xs.length).map fun i => if i < k then xr xs ys i else xs.getD i 0
def xorL (xs ys : List Int) : List Int := if ys = [] then xs else xorTo xs ys xs.length

theorem xr_byte {xs ys : List Int} (hx : ∀ k, 0 ≤ xs.getD k 0 ∧ xs.getD k 0 ≤ 255) (hy : ∀ k, 0 ≤ ys.getD k 0 ∧ ys.getD k 0 ≤ 255) (i : Nat) : 0 ≤ xr xs ys i ∧ xr xs ys i ≤ 255 := by
  unfold xr
  have h1 := hx i
  have h2 := hy (i % ys.length)
  rw [u8_xor _ _ h1.1 (by omega) h2.1 (by omega)]
  have : (xs.getD i 0).toNat ^^^ (ys.getD (i % ys.length) 0).toNat < 2 ^ 8 := Nat.xor_lt_two_pow (by omega) (by omega)
  omega
theorem xorTo_len (xs ys : List Int) (k : Nat) : (xorTo xs ys k).length = xs.length := by simp [xorTo]
theorem xorTo_zero (xs ys : List Int) : xorTo xs ys 0 = xs := by
  unfold xorTo
  apply List.ext_getElem
  · simp
  · intro i h1 h2; simp [h2]
theorem xorTo_get (xs ys : List Int) (k : Nat) (h : k < xs.length) : (xorTo xs ys k).getD k 0 = xs.getD k 0 := by simp [xorTo, h]
theorem xorTo_set (xs ys : List Int) (k : Nat) : (xorTo xs ys k).set k (xr xs ys k) = xorTo xs ys (k + 1) := by
  unfold xorTo
  apply List.ext_getElem
  · simp
  · intro i h1 h2
    simp at h1 h2
    rw [List.getElem_set]
    by_cases e : k = i
    · subst e; simp
    · rw [if_neg e]
      simp
      by_cases h3 : i < k
      · rw [if_pos h3, if_pos (by omega)]
      · rw [if_neg h3, if_neg (by omega)]

theorem own_heap {B : Nat} {w : World} {g n : Nat} {bs : List Int} (h : Own B w (some ⟨g, 0, none⟩) n n bs) : w.heap[g]? = some (.cells (bs.map (Value.int .u8)).toArray 5 (0, 0)) := by
  rcases h.row.2 with ⟨h', _⟩ | ⟨g', cap', cur, h', hb, hg, _, _, hsz, ht⟩
  · simp at h'
  · simp only [Value.slice.injEq, Option.some.injEq, Addr.mk.injEq, and_true, true_and] at h'
    obtain ⟨rfl, rfl⟩ := h'
    rw [List.take_of_length_le (by simp; omega)] at ht
    rw [hg, ← ht]
theorem own_of_heap {B : Nat} {w : World} {g n : Nat} {bs : List Int} (hB : B ≤ g) (hn : bs.length = n) (hm : n ≤ maxLen) (h : w.heap[g]? = some (.cells (bs.map (Value.int .u8)).toArray 5 (0, 0))) (hb : ∀ k, 0 ≤ bs.getD k 0 ∧ bs.getD k 0 ≤ 255) : Own B w (some ⟨g, 0, none⟩) n n bs :=
  ⟨⟨by simp [hn], .inr ⟨g, n, _, rfl, hB, h, Nat.le_refl _, hm, by simp [hn], List.take_of_length_le (by simp [hn])⟩⟩, hb⟩
theorem splice_all {α : Type} (L cs : List α) (h : cs.length = L.length) : splice L 0 cs = cs := by simp [splice, h]

theorem copy_src {w : World} {a : Option Addr} {n : Nat} {xs : List Int} {cs : List Value} (h : Row w a n xs) (hc : cs = xs.map (Value.int .u8)) (h0 : 0 < cs.length) : ∃ ad, a = some ad ∧ ∀ j v, cs[j]? = some v → w.cell? (ad.add j) = some v := by
  subst hc
  obtain ⟨b, off, rfl, _, _⟩ := h.get 0 (by rw [← h.len]; simpa using h0)
  exact ⟨_, rfl, row_cells h⟩

end Go.Proofs.YtmhijbcbckljmaaGreat

namespace Go.Proofs.YtmhijbcbckljmaaGreat
open Go.RowKit

def alX : List Int := [97, 108, 103]
theorem alX_byte : ∀ k, 0 ≤ alX.getD k 0 ∧ alX.getD k 0 ≤ 255 := bytes_of_all (by decide)
def tgX : List Int := [116, 97, 103]
theorem tgX_byte : ∀ k, 0 ≤ tgX.getD k 0 ∧ tgX.getD k 0 ≤ 255 := bytes_of_all (by decide)
def smX : List Int := [115, 116, 114, 101, 97, 109]
theorem smX_byte : ∀ k, 0 ≤ smX.getD k 0 ∧ smX.getD k 0 ≤ 255 := bytes_of_all (by decide)
def psX : List Int := [112, 97, 115, 115]
theorem psX_byte : ∀ k, 0 ≤ psX.getD k 0 ∧ psX.getD k 0 ≤ 255 := bytes_of_all (by decide)
def wrX : List Int := [119, 114, 97, 112]
theorem wrX_byte : ∀ k, 0 ≤ wrX.getD k 0 ∧ wrX.getD k 0 ≤ 255 := bytes_of_all (by decide)
def ctX : List Int := [99, 111, 110, 116, 101, 110, 116]
theorem ctX_byte : ∀ k, 0 ≤ ctX.getD k 0 ∧ ctX.getD k 0 ≤ 255 := bytes_of_all (by decide)
/-- The digest of three parts. -/
def triN (a b c : List Int) : Int := hashL (partsL [a, b, c])
theorem triN_bd (a b c : List Int) : U64 (triN a b c) := hashL_bd _
theorem tri_total (a b c : List Int) (h : a.length + b.length + c.length ≤ 2097152) : total [a, b, c] ≤ 2097152 := by unfold total; simp; omega
theorem tri_rows (X : World) (T : Nat) (a1 : Option Addr) (n1 c1 : Nat) (p1 : List Int) (a2 : Option Addr) (n2 c2 : Nat) (p2 : List Int) (a3 : Option Addr) (n3 c3 : Nat) (p3 : List Int) (h1 : Row X a1 n1 p1) (e1 : a1 = none → c1 = 0) (h2 : Row X a2 n2 p2) (e2 : a2 = none → c2 = 0) (h3 : Row X a3 n3 p3) (e3 : a3 = none → c3 = 0) :
    Rows2 (X.alloc (.cells #[.slice a1 n1 c1, .slice a2 n2 c2, .slice a3 n3 c3] T)) (some ⟨X.heap.size, 0, none⟩) 3 [p1, p2, p3] := by
  refine rows2_lit X [(a1, n1, c1, p1), (a2, n2, c2, p2), (a3, n3, c3, p3)] T ?_
  intro p hp
  simp only [List.mem_cons, List.not_mem_nil, or_false] at hp
  rcases hp with rfl | rfl | rfl
  · exact ⟨h1, e1⟩
  · exact ⟨h2, e2⟩
  · exact ⟨h3, e3⟩
def dgN (alg : Int) (bs : List Int) : Int := triN alX (putI alg) bs
def dgR (alg : Int) (bs : List Int) : Int := if 1 ≤ alg ∧ alg ≤ 9 then dgN alg bs else 0
def tagN (k : Int) (bs : List Int) : Int := triN tgX (eightI k) bs

set_option maxRecDepth 10000 in
set_option maxHeartbeats 400000 in
theorem isAlg_t (alg : Int) (w : World) (h : 1 ≤ alg ∧ alg ≤ 9) : Calls Tryz.prog 46 #[.int .i64 alg] w fun e w' => e = .returned (.bool true) ∧ w' = w := by
  have H : Hid (1 ≤ alg ∧ alg ≤ 9) := h
  clear h
  go_enter Tryz.func46, Tryz.ntmps46
  go_wp2_with fail
  refine (inBounds_t alg 1 9 _ H.out).mono ?_
  rintro e w1 ⟨rfl, hw⟩
  have hw2 := hw.symm
  subst hw2
  go_wp2
  go_ret
  exact ⟨rfl, rfl⟩

set_option maxRecDepth 10000 in
set_option maxHeartbeats 400000 in
theorem isAlg_f (alg : Int) (w : World) (h : ¬ (1 ≤ alg ∧ alg ≤ 9)) : Calls Tryz.prog 46 #[.int .i64 alg] w fun e w' => e = .returned (.bool false) ∧ w' = w := by
  have H : Hid (¬ (1 ≤ alg ∧ alg ≤ 9)) := h
  clear h
  go_enter Tryz.func46, Tryz.ntmps46
  go_wp2_with fail
  refine (inBounds_f alg 1 9 _ H.out).mono ?_
  rintro e w1 ⟨rfl, hw⟩
  have hw2 := hw.symm
  subst hw2
  go_wp2
  go_ret
  exact ⟨rfl, rfl⟩

set_option maxRecDepth 10000 in
set_option maxHeartbeats 1000000 in
theorem implDigestBy_any (alg : Int) (a : Option Addr) (n c : Nat) (bs : List Int) (w : World) (h : Row w a n bs) (hn : n ≤ 1048576) (hc : a = none → c = 0) :
    Calls Tryz.prog 26 #[.int .i64 alg, .slice a n c] w fun e w' => e = .returned (.int .u64 (dgR alg bs)) ∧ Below w.heap.size w w' := by
  have H0 : Hid (Row w a n bs) := h
  have HLN : Hid (bs.length = n) := h.len
  clear h
  by_cases hr : 1 ≤ alg ∧ alg ≤ 9
  · have H1 : Hid (1 ≤ alg ∧ alg ≤ 9) := hr
    have HV : Hid (dgR alg bs = dgN alg bs) := by show _ = _; unfold dgR; rw [if_pos hr]
    have HT : Hid (total [alX, putI alg, bs] ≤ 2097152) := by
      show _ ≤ _
      have h1 := putI_len alg (by omega)
      have h2 := HLN.out
      refine tri_total _ _ _ ?_
      simp only [alX, List.length_cons, List.length_nil]; omega
    clear hr
    have hcv := Lib.run_convert_bytes_const (P := Tryz.prog) w 22 5 #[.int .u8 97, .int .u8 108, .int .u8 103] 3 3 Tryz.underlying22 Tryz.underlying5
    have hrw : Row (w.alloc (.cells #[.int .u8 97, .int .u8 108, .int .u8 103] 5 (3, 4))) (some ⟨w.heap.size, 0, none⟩) 3 alX := row_word w alX (3, 4) alX_byte
    have hb0 : Below w.heap.size w (w.alloc (.cells #[.int .u8 97, .int .u8 108, .int .u8 103] 5 (3, 4))) := (Below.refl _ _).alloc (Nat.le_refl _) _
    go_enter Tryz.func26, Tryz.ntmps26
    go_wp2_with fail
    refine (isAlg_t alg _ H1.out).mono ?_
    rintro e w1 ⟨rfl, hw⟩
    have hw2 := hw.symm
    subst hw2
    go_wp2_with fail
    clear hcv
    obtain ⟨w0, hw0⟩ : ∃ w0, w0 = w.alloc (.cells #[.int .u8 97, .int .u8 108, .int .u8 103] 5 (3, 4)) := ⟨_, rfl⟩
    rw [← hw0] at hrw hb0 ⊢
    clear hw0
    refine (implPutNum_any alg _ (by have := H1.out; omega)).mono ?_
    rintro e w1 ⟨a1, c1, rfl, ho1, hb1⟩
    obtain ⟨m1, hm1⟩ : ∃ m1, m1 = (putI alg).length := ⟨_, rfl⟩
    rw [← hm1] at ho1 ⊢
    clear hm1
    have B1 : Below w.heap.size w w1 := keepT hb0 hb1
    have HRS : Hid (Rows2 (w1.alloc (.cells #[.slice (some ⟨w.heap.size, 0, none⟩) 3 3, .slice a1 m1 c1, .slice a n c] 22)) (some ⟨w1.heap.size, 0, none⟩) 3 [alX, putI alg, bs]) :=
      tri_rows w1 22 _ _ _ _ _ _ _ _ _ _ _ _ (hrw.kept hb1) (fun h => by cases h) ho1.toRow ho1.nil (H0.out.kept B1) hc
    have B3 : Below w.heap.size w (w1.alloc (.cells #[.slice (some ⟨w.heap.size, 0, none⟩) 3 3, .slice a1 m1 c1, .slice a n c] 22)) := B1.alloc B1.size _
    clear ho1 hrw
    go_wp2_with fail
    refine (implHashParts_any _ 3 3 [alX, putI alg, bs] _ HRS.out (by decide) HT.out).mono ?_
    rintro e w3 ⟨rfl, hb3⟩
    go_wp2
    go_ret
    exact ⟨by rw [HV.out]; rfl, keepT B3 hb3⟩
  · have H1 : Hid (¬ (1 ≤ alg ∧ alg ≤ 9)) := hr
    have HV : Hid (dgR alg bs = 0) := by show _ = _; unfold dgR; rw [if_neg hr]
    clear hr
    go_enter Tryz.func26, Tryz.ntmps26
    go_wp2_with fail
    refine (isAlg_f alg _ H1.out).mono ?_
    rintro e w1 ⟨rfl, hw⟩
    have hw2 := hw.symm
    subst hw2
    go_wp2
    go_ret
    exact ⟨by rw [HV.out]; rfl, Below.refl _ _⟩

set_option maxRecDepth 10000 in
set_option maxHeartbeats 1000000 in
theorem specDigestBy_any (alg : Int) (a : Option Addr) (n c : Nat) (bs : List Int) (w : World) (h : Row w a n bs) (hn : n ≤ 1048576) (hc : a = none → c = 0) :
    Calls Tryz.prog 19 #[.int .i64 alg, .slice a n c] w fun e w' => e = .returned (.int .u64 (dgR alg bs)) ∧ Below w.heap.size w w' := by
  have H0 : Hid (Row w a n bs) := h
  have HLN : Hid (bs.length = n) := h.len
  clear h
  by_cases hr : 1 ≤ alg ∧ alg ≤ 9
  · have H1 : Hid (1 ≤ alg ∧ alg ≤ 9) := hr
    have HV : Hid (dgR alg bs = dgN alg bs) := by show _ = _; unfold dgR; rw [if_pos hr]
    have HT : Hid (total [alX, putI alg, bs] ≤ 2097152) := by
      show _ ≤ _
      have h1 := putI_len alg (by omega)
      have h2 := HLN.out
      refine tri_total _ _ _ ?_
      simp only [alX, List.length_cons, List.length_nil]; omega
    clear hr
    have hcv := Lib.run_convert_bytes_const (P := Tryz.prog) w 22 5 #[.int .u8 97, .int .u8 108, .int .u8 103] 3 3 Tryz.underlying22 Tryz.underlying5
    have hrw : Row (w.alloc (.cells #[.int .u8 97, .int .u8 108, .int .u8 103] 5 (3, 4))) (some ⟨w.heap.size, 0, none⟩) 3 alX := row_word w alX (3, 4) alX_byte
    have hb0 : Below w.heap.size w (w.alloc (.cells #[.int .u8 97, .int .u8 108, .int .u8 103] 5 (3, 4))) := (Below.refl _ _).alloc (Nat.le_refl _) _
    go_enter Tryz.func19, Tryz.ntmps19
    go_wp2_with fail
    refine (l1In_t alg 1 9 _ H1.out).mono ?_
    rintro e w1 ⟨rfl, hw⟩
    have hw2 := hw.symm
    subst hw2
    go_wp2_with fail
    clear hcv
    obtain ⟨w0, hw0⟩ : ∃ w0, w0 = w.alloc (.cells #[.int .u8 97, .int .u8 108, .int .u8 103] 5 (3, 4)) := ⟨_, rfl⟩
    rw [← hw0] at hrw hb0 ⊢
    clear hw0
    refine (specPutNum_any alg _ (by have := H1.out; omega)).mono ?_
    rintro e w1 ⟨a1, c1, rfl, ho1, hb1⟩
    obtain ⟨m1, hm1⟩ : ∃ m1, m1 = (putI alg).length := ⟨_, rfl⟩
    rw [← hm1] at ho1 ⊢
    clear hm1
    have B1 : Below w.heap.size w w1 := keepT hb0 hb1
    have HRS : Hid (Rows2 (w1.alloc (.cells #[.slice (some ⟨w.heap.size, 0, none⟩) 3 3, .slice a1 m1 c1, .slice a n c] 22)) (some ⟨w1.heap.size, 0, none⟩) 3 [alX, putI alg, bs]) :=
      tri_rows w1 22 _ _ _ _ _ _ _ _ _ _ _ _ (hrw.kept hb1) (fun h => by cases h) ho1.toRow ho1.nil (H0.out.kept B1) hc
    have B3 : Below w.heap.size w (w1.alloc (.cells #[.slice (some ⟨w.heap.size, 0, none⟩) 3 3, .slice a1 m1 c1, .slice a n c] 22)) := B1.alloc B1.size _
    clear ho1 hrw
    go_wp2_with fail
    refine (specHashAll_any _ 3 3 [alX, putI alg, bs] _ HRS.out (by decide) HT.out).mono ?_
    rintro e w3 ⟨rfl, hb3⟩
    go_wp2
    go_ret
    exact ⟨by rw [HV.out]; rfl, keepT B3 hb3⟩
  · have H1 : Hid (¬ (1 ≤ alg ∧ alg ≤ 9)) := hr
    have HV : Hid (dgR alg bs = 0) := by show _ = _; unfold dgR; rw [if_neg hr]
    clear hr
    go_enter Tryz.func19, Tryz.ntmps19
    go_wp2_with fail
    refine (l1In_f alg 1 9 _ H1.out).mono ?_
    rintro e w1 ⟨rfl, hw⟩
    have hw2 := hw.symm
    subst hw2
    go_wp2
    go_ret
    exact ⟨by rw [HV.out]; rfl, Below.refl _ _⟩

end Go.Proofs.YtmhijbcbckljmaaGreat

namespace Go.Proofs.YtmhijbcbckljmaaGreat
open Go.RowKit

/-- The j-th eight bytes of the stream of k. -/
def strmW (k : Int) (j : Nat) : List Int := eightI (triN smX (eightI k) (putI (j : Int)))
def strm (k : Int) : Nat → List Int
  | 0 => []
  | j + 1 => strm k j ++ strmW k j
theorem strm_len (k : Int) (j : Nat) : (strm k j).length = 8 * j := by
  induction j with
  | zero => rfl
  | succ j ih => rw [strm, List.length_append, ih, strmW, eightI_len]; omega
def nblk (n : Nat) : Nat := (n + 7) / 8
def maskL (k : Int) (bs : List Int) : List Int := xorL bs (strm k (nblk bs.length))
def pkN (s : ByteArray) (salt : List Int) (r : Nat) : Int := stepsN (triN psX (strL s) salt) r
theorem pkN_bd (s : ByteArray) (salt : List Int) (r : Nat) : U64 (pkN s salt r) := stepsN_bd _ (triN_bd _ _ _) r
theorem own_nilE (B : Nat) (w : World) : Own B w none 0 0 [] := ⟨World.ownsRow_nil w B 5 1, by simp⟩
theorem own_zeroE (B : Nat) (w : World) (g : Nat) (hg : w.heap.size = g) (h : B ≤ w.heap.size) : Own B (w.alloc (.cells #[] 5)) (some ⟨g, 0, none⟩) 0 0 [] := by
  subst hg
  exact ⟨World.ownsRow_lit w #[] 0 h (by decide) rfl, by simp⟩
def lkP (n s m : Nat) (r : Int) : Prop := n ≤ 4000 ∧ s ≤ 100 ∧ m ≤ 16 ∧ 1 ≤ r ∧ r ≤ 1000

set_option maxRecDepth 10000 in
set_option maxHeartbeats 1000000 in
theorem clone_any (a : Option Addr) (n cap : Nat) (bs : List Int) (w : World) (h : Row w a n bs) (hnil : a = none → cap = 0) (hn : n ≤ 1048576) :
    Calls Tryz.prog 55 #[.slice a n cap] w fun e w' => ∃ a' cap', e = .returned (.slice a' n cap') ∧ Own w.heap.size w' a' n cap' bs ∧ Below w.heap.size w w' := by
  obtain ⟨i0, hi, hz0, hz1, hz2⟩ := info_parts Tryz.info5
  cases a with
  | none =>
    obtain ⟨rfl, rfl⟩ := row_none h
    obtain rfl := hnil rfl
    clear h
    have he : ∀ w : World, (binOp .eql 22 (.slice none 0 0) (.slice none 0 0)).run Tryz.prog w = .ok (.bool true) w := fun _ => rfl
    go_enter Tryz.func55, Tryz.ntmps55
    go_wp2
    go_ret
    exact ⟨none, 0, rfl, own_nilE _ _, Below.refl _ _⟩
  | some ad =>
    have hB1 : Below w.heap.size w (w.alloc (.cells #[] 5)) := (Below.refl _ _).alloc (Nat.le_refl _) _
    have HO : Hid (Own w.heap.size (w.alloc (.cells #[] 5)) (some ⟨w.heap.size, 0, none⟩) 0 0 []) := own_zeroE _ _ _ rfl (Nat.le_refl _)
    have HR : Hid (Row w (some ad) n bs) := h
    clear h
    have he : ∀ w : World, (binOp .eql 22 (.slice (some ad) n cap) (.slice none 0 0)).run Tryz.prog w = .ok (.bool false) w := fun _ => rfl
    go_enter Tryz.func55, Tryz.ntmps55
    go_wp2_with (at_builtin; refine wpList_append_row _ rfl (.tmp 5) (.tmp 6) 22 rfl w.heap.size i0 Tryz.underlying22 hi hz0 hz1 hz2 _ _ _ rfl HO.out.row (some ad) n cap bs rfl (HR.out.kept hB1) hnil (by omega) hB1.size ?_; intro v1 w1 hv1 hg1; obtain ⟨a1, c1, rfl, ho1⟩ := own_appended (xs := []) (ys := bs) hv1 HO.out.byte HR.out.byte; have hb1 : Below w.heap.size w w1 := below_appended hB1 hB1.size HO.out.row hg1)
    go_ret
    have ho1' : Own w.heap.size w1 a1 n c1 bs := by simpa using ho1
    exact ⟨a1, c1, by simp [Array.getD], ho1', hb1⟩

end Go.Proofs.YtmhijbcbckljmaaGreat

set_option linter.unusedVariables false
namespace Go.Proofs.YtmhijbcbckljmaaGreat
open Go.RowKit Go.Sort

theorem cell_fiveR (w : World) (t : TypeId) (v0 v1 v2 v3 v4 : Value) : ∀ j u, [v0, v1, v2, v3, v4][j]? = some u → (w.alloc (.cells #[v0, v1, v2, v3, v4] t)).cell? ((⟨w.heap.size, 0, none⟩ : Addr).add j) = some u := by
  intro j u hu
  have hh := heap_alloc_new w (.cells #[v0, v1, v2, v3, v4] t)
  have hj : j < 5 := by
    have := (List.getElem?_eq_some_iff.1 hu).1
    simpa using this
  rw [Addr.add_lit]
  rcases (show j = 0 ∨ j = 1 ∨ j = 2 ∨ j = 3 ∨ j = 4 by omega) with rfl | rfl | rfl | rfl | rfl
  all_goals (simp at hu; subst hu; exact (cell_of_row _ _ _ _ t (0, 0) hh).trans rfl)
theorem results_stR {fn : Func} {t : Tmp} (h : fn.results = #[.cell t 45]) (tmps : Array Value) (g : Nat) (ht : tmps.getD t undef = .pointer (some ⟨g, 0, none⟩)) (w : World) (cs : Array Value) (hb : w.heap[g]? = some (.cells cs 45 (0, 0))) (hs : cs.size = 5) : (results fn tmps).run Tryz.prog w = .ok (.agg cs) w :=
  results_cell_row h tmps w g _ cs (0, 0) _ ht hb Tryz.underlying45 rfl (by rw [hs]; kernel_rfl)
theorem frozen5r {W : World} {g : Nat} {cs : Array Value} {t : TypeId} (h : W.heap[g]? = some (.cells cs t (0, 0))) : W.frozen? ⟨g, 0, none⟩ = false ∧ W.frozen? ⟨g, 1, none⟩ = false ∧ W.frozen? ⟨g, 2, none⟩ = false ∧ W.frozen? ⟨g, 3, none⟩ = false ∧ W.frozen? ⟨g, 4, none⟩ = false :=
  ⟨frozen_of_row W _ 0 _ t h, frozen_of_row W _ 1 _ t h, frozen_of_row W _ 2 _ t h, frozen_of_row W _ 3 _ t h, frozen_of_row W _ 4 _ t h⟩

set_option maxRecDepth 10000 in
set_option maxHeartbeats 2000000 in
theorem cloneStamp_any (x : StP) (a : Option Addr) (n c : Nat) (w : World) (hr : Row w a n x.sg) (hc : a = none → c = 0) (hn : n ≤ 1048576) :
    Calls Tryz.prog 29 #[.agg #[.int .i64 x.alg, .int .u64 x.dg, .int .i64 x.at2, .int .u64 x.ky, .slice a n c]] w fun e w' => ∃ a2 c2, e = .returned (.agg #[.int .i64 x.alg, .int .u64 x.dg, .int .i64 x.at2, .int .u64 x.ky, .slice a2 n c2]) ∧ Own w.heap.size w' a2 n c2 x.sg ∧ Below w.heap.size w w' := by
  obtain ⟨w1, hw1⟩ : ∃ w1, w1 = (w.alloc (.cells #[.int .i64 x.alg, .int .u64 x.dg, .int .i64 x.at2, .int .u64 x.ky, .slice a n c] 45)).alloc (.cells #[.int .i64 0, .int .u64 0, .int .i64 0, .int .u64 0, .slice none 0 0] 45) := ⟨_, rfl⟩
  have hbb : Below w.heap.size w w1 := by rw [hw1]; exact two_below w _ _
  have HB1 : Hid (w1.heap[w.heap.size]? = some (.cells #[.int .i64 x.alg, .int .u64 x.dg, .int .i64 x.at2, .int .u64 x.ky, .slice a n c] 45 (0, 0)) ∧ w1.heap[w.heap.size + 1]? = some (.cells #[.int .i64 0, .int .u64 0, .int .i64 0, .int .u64 0, .slice none 0 0] 45 (0, 0))) := by show _ ∧ _; rw [hw1]; exact two_blocks w _ _
  have HR1 : Hid (Row w1 a n x.sg) := hr.kept hbb
  have HW : Hid (_ = _) := hw1
  clear hw1 hr
  go_enter Tryz.func29, Tryz.ntmps29
  go_upto_region 1 with fail
  rw [← HW.out]
  clear HW
  obtain ⟨x0, x1, x2, x3, x4⟩ := cells5r HB1.out.1
  go_wp2_with fail
  refine (clone_any a n c x.sg _ HR1.out hc hn).mono ?_
  rintro e w2 ⟨a2, c2, rfl, ho2, hb2⟩
  clear x0 x1 x2 x3 x4
  have h20 := below_kept HB1.out.1 hb2
  have h21 := below_kept HB1.out.2 hb2
  obtain ⟨x0, x1, x2, x3, x4⟩ := cells5r h20
  obtain ⟨f0, f1, f2, f3, f4⟩ := frozen5r h20
  obtain ⟨w3, hw3⟩ : ∃ w3, w3 = w2.setCell ⟨w.heap.size, 4, none⟩ (.slice a2 n c2) := ⟨_, rfl⟩
  have H30 : Hid (w3.heap[w.heap.size]? = some (.cells #[.int .i64 x.alg, .int .u64 x.dg, .int .i64 x.at2, .int .u64 x.ky, .slice a2 n c2] 45 (0, 0))) := by show _ = _; rw [hw3]; exact heap_setCell_same w2 _ 4 _ _ _ h20
  have ht3 : Touch w.heap.size (w.heap.size + 1) w2 w3 := by rw [hw3]; exact touch_set1 _ _ _ _
  have H31 : Hid (w3.heap[w.heap.size + 1]? = some (.cells #[.int .i64 0, .int .u64 0, .int .i64 0, .int .u64 0, .slice none 0 0] 45 (0, 0))) := (ht3.block _ (Array.getElem?_eq_some_iff.1 h21).1 (by omega)).trans h21
  have HO3 : Hid (Own w1.heap.size w3 a2 n c2 x.sg) := ⟨ownsRow_box ho2.row h20 (by decide) ht3, ho2.byte⟩
  have hB3 : Below w.heap.size w w3 := (keepT hbb hb2).trans (ht3.below (Nat.le_refl _) (keepT hbb hb2).size)
  have hl3 : w.heap.size + 1 < w3.heap.size := (Array.getElem?_eq_some_iff.1 H31.out).1
  have hs1 := hbb.size
  have HW : Hid (_ = _) := hw3
  clear hw3 ho2 h20 h21
  go_upto_region 2 with fail
  rw [← HW.out]
  clear HW x0 x1 x2 x3 x4 f0 f1 f2 f3 f4
  obtain ⟨x0, x1, x2, x3, x4⟩ := cells5r H30.out
  obtain ⟨y0, y1, y2, y3, y4⟩ := cells5r H31.out
  obtain ⟨f0, f1, f2, f3, f4⟩ := frozen5r H31.out
  go_wp2
  try simp only [Exit.inBlock, Exit.then]
  have o1 := put5_heap H31.out (.int .i64 x.alg) (.int .u64 x.dg) (.int .i64 x.at2) (.int .u64 x.ky) (.slice a2 n c2)
  have o2 := put5_touch w3 (w.heap.size + 1) (.int .i64 x.alg) (.int .u64 x.dg) (.int .i64 x.at2) (.int .u64 x.ky) (.slice a2 n c2)
  unfold put5 at o1 o2
  exact bodyPost_ret (results_stR rfl _ (w.heap.size + 1) rfl _ _ o1 rfl) rfl ⟨a2, c2, rfl, ⟨ownsRow_box (HO3.out.mono hs1).row H31.out (by decide) o2, HO3.out.byte⟩, hB3.trans (o2.below (by omega) hB3.size)⟩

set_option maxRecDepth 10000 in
set_option maxHeartbeats 4000000 in
theorem eachClone_any (a : Option Addr) (n c : Nat) (xs : List StP) (w : World) (h : Sts (fun n c => n = c ∧ n ≤ 1048576) w a n xs) (hn : n ≤ 8) :
    Calls Tryz.prog 28 #[.slice a n c, .func (Fn.func 29) #[] #[]] w fun e w' => ∃ a' c' ps, e = .returned (.slice a' n c') ∧ (OwnS w.heap.size w' a' n c' ps ∧ xsOf ps = xs) ∧ Below w.heap.size w w' := by
  obtain ⟨i0, hi, hz0, hz1, hz2⟩ := info_parts Tryz.infoSt
  have H0 : Hid (Sts (fun n c => n = c ∧ n ≤ 1048576) w a n xs) := h
  have HLX : Hid (xs.length = n) := h.len
  clear h
  go_enter Tryz.func28, Tryz.ntmps28
  go_wp2
  go_loopw [5, 10] (fun o i wr => ∃ (k : Nat) (ao : Option Addr) (cc : Nat), k ≤ n ∧ i = .int .i64 k ∧ o = .slice ao k cc ∧ Hid (∃ ps, OwnS w.heap.size wr ao k cc ps ∧ xsOf ps = xs.take k) ∧ Below w.heap.size w wr) (fun _ i _ => n - (intOf i).toNat)
  case atStart => exact ⟨0, none, 0, Nat.zero_le _, rfl, rfl, ⟨[], ownS_none _ _, by simp [xsOf]⟩, Below.refl _ _⟩
  case round =>
    obtain ⟨k, ao, cc, hk, rfl, rfl, HO, hbr⟩ := hrel
    have hws := hbr.size
    by_cases hlt : k < n
    · obtain ⟨b, off, a1, n1, d1, rfl, hlb, hc, hp, hm, hu, hK⟩ := H0.out.get k hlt
      obtain ⟨y, hy⟩ : ∃ y, y = xs.getD k default := ⟨_, rfl⟩
      rw [← hy] at hc hp hu
      have HXK : Hid (xs.take (k + 1) = xs.take k ++ [y]) := by
        show _ = _
        have hkl : k < xs.length := by rw [HLX.out]; exact hlt
        rw [List.take_add_one, hy]
        simp [hkl]
      obtain ⟨c0, c1, c2, c3, c4⟩ := hc.of (w' := wr) (fun i => hbr.cell (p := ⟨b, i, none⟩) hlb)
      have hkni : (k : Int) < (n : Int) := by omega
      have hbw : b < wr.heap.size := by omega
      have hnl : a1 = none → d1 = 0 := fun e => by
        subst e
        by_cases h0 : 0 < n1
        · obtain ⟨_, _, h1, _⟩ := hp.get 0 h0
          cases h1
        · have := hK.1
          omega
      have hn1 := hK.2
      have HRW : Hid (Row wr a1 n1 y.sg) := hp.kept hbr
      have HU : Hid (U64 y.dg ∧ U64 y.ky) := hu
      clear hc hy hp hu hm hK
      go_wp2_with fail
      refine (cloneStamp_any y a1 n1 d1 _ (HRW.out.kept ((Below.refl _ _).alloc (Nat.le_refl _) _)) hnl hn1).mono ?_
      rintro e w2 ⟨a2, cc2, rfl, ho2, hb2⟩
      have hbz : Below wr.heap.size wr (wr.alloc (.cells #[.int .i64 y.alg, .int .u64 y.dg, .int .i64 y.at2, .int .u64 y.ky, .slice a1 n1 d1] 45)) := (Below.refl _ _).alloc (Nat.le_refl _) _
      have hb2r := keepT hbz hb2
      have B2 : Below w.heap.size w w2 := hbr.trans (hb2r.mono hws)
      have hw2 := B2.size
      obtain ⟨ps, hps, hxp⟩ := HO.out
      have HAP : Hid (∀ j l, j < k → (rqv (ps.getD j sq0).1).ownBlock = some l → (rqv ((a2, n1, cc2) : Rq)).ownBlock = some l → False) := by
        intro j l hj h1 h2
        have e1 := ((hps.each j hj).row.lt l h1).2
        have e2 := (ho2.row.lt l h2).1
        have e3 := hbz.size
        omega
      have HXP : Hid (xsOf ps = xs.take k) := hxp
      have HO2 : Hid (Own w.heap.size w2 a2 n1 cc2 y.sg) := ho2.mono (by have := hbz.size; omega)
      have HQ : Hid (OwnS w.heap.size w2 ao k cc ps) := hps.kept hb2r
      have HQ3 : Hid (OwnS w.heap.size (w2.alloc (.cells #[.int .i64 y.alg, .int .u64 y.dg, .int .i64 y.at2, .int .u64 y.ky, .slice a2 n1 cc2] 45)) ao k cc ps) := HQ.out.kept ((Below.refl _ _).alloc (Nat.le_refl _) _)
      have HO3 : Hid (Own w.heap.size (w2.alloc (.cells #[.int .i64 y.alg, .int .u64 y.dg, .int .i64 y.at2, .int .u64 y.ky, .slice a2 n1 cc2] 45)) a2 n1 cc2 y.sg) := HO2.out.kept ((Below.refl _ _).alloc (Nat.le_refl _) _)
      clear c0 c1 c2 c3 c4 hps hxp ho2 HO HRW
      go_wp2_with (at_builtin; refine wpList_append_own _ rfl _ _ 28 rfl w.heap.size 45 i0 _ 5 56 Tryz.underlying28 hi hz0 hz1 hz2 rfl (by decide) _ k _ rfl HQ3.out.row ⟨w2.heap.size, 0, none⟩ 1 1 [.int .i64 y.alg, .int .u64 y.dg, .int .i64 y.at2, .int .u64 y.ky, .slice a2 n1 cc2] rfl rfl (cell_fiveR _ _ _ _ _ _ _) (by intro u hu; simp only [List.mem_cons, List.not_mem_nil, or_false] at hu; rcases hu with rfl | rfl | rfl | rfl | rfl <;> rfl) (by unfold maxLen; omega) (by omega) (by simp; omega) ?_; intro v7 w7 hv7 hg7 _; obtain ⟨a7, c7, rfl⟩ := owns_shapeR hv7; have hbq : Below w.heap.size w w7 := (B2.alloc hw2 _).grown hg7 (by simp; omega) (fun j hj => (HQ3.out.row.lt j hj).1); have HN : Hid (∃ ps, OwnS w.heap.size w7 a7 (k + 1) c7 ps ∧ xsOf ps = xs.take (k + 1)) := ⟨ps ++ [((a2, n1, cc2), y)], HQ3.out.appended (p := ((a2, n1, cc2), y)) HO3.out HU.out HAP.out (by rw [List.flatMap_append]; exact hv7) hg7, by rw [HXK.out]; simp [xsOf, ← HXP.out]⟩; clear hv7 hg7)
      go_roundw
      case rel => exact ⟨k + 1, a7, c7, by omega, by go_num, rfl, HN, hbq⟩
      case measure => simp [intOf]; omega
    · obtain rfl : k = n := by omega
      obtain ⟨ps, hps, hxp⟩ := HO.out
      have HQ : Hid (OwnS w.heap.size wr ao k cc ps) := hps
      have HX : Hid (xsOf ps = xs) := by show _ = _; rw [hxp, List.take_of_length_le (by rw [HLX.out]; exact Nat.le_refl _)]
      clear hps hxp HO
      go_wp2
      go_ret
      exact ⟨ao, cc, ps, rfl, ⟨HQ.out, HX.out⟩, hbr⟩

end Go.Proofs.YtmhijbcbckljmaaGreat

