import Derived.Test.YtambgfmipfmkdaaGreatMH
import Derived.Deep.MidRow
import Derived.Test.YtambgfmipfmkdaaGreatTT4
import Derived.Test.YtambgfmipfmkdaaGreatW2
import Derived.Deep.RegionHeldLaw
import Derived.Deep.RegionWith
import Derived.Test.YtambgfmipfmkdaaGreatWI64
import Derived.Test.YtambgfmipfmkdaaGreatGB4
import Derived.WalkMore
import Derived.ScopeJumps
import Derived.Deep.DeepCutAuto
namespace Go.Proofs.YtambgfmipfmkdaaGreat
open Go.RowKit

/-- A head. -/
structure HP where
  lg : Int
  sz : Int
  rt : Int
  at2 : Int
  sg : List Int
  deriving Inhabited
structure Cells5 (w : World) (b o : Nat) (a : Option Addr) (n c : Nat) (x : HP) : Prop where
  c0 : w.cell? ⟨b, o, none⟩ = some (.int .i64 x.lg)
  c1 : w.cell? ⟨b, o + 1, none⟩ = some (.int .i64 x.sz)
  c2 : w.cell? ⟨b, o + 2, none⟩ = some (.int .u64 x.rt)
  c3 : w.cell? ⟨b, o + 3, none⟩ = some (.int .i64 x.at2)
  c4 : w.cell? ⟨b, o + 4, none⟩ = some (.slice a n c)
theorem Cells5.of {w w' : World} {b o : Nat} {a : Option Addr} {n c : Nat} {x : HP} (h : Cells5 w b o a n c x) (hc : ∀ i, w'.cell? ⟨b, i, none⟩ = w.cell? ⟨b, i, none⟩) : Cells5 w' b o a n c x :=
  ⟨(hc _).trans h.c0, (hc _).trans h.c1, (hc _).trans h.c2, (hc _).trans h.c3, (hc _).trans h.c4⟩
/-- The slice at a reads as these heads. -/
structure Hds (K : Nat → Nat → Prop) (w : World) (a : Option Addr) (n : Nat) (xs : List HP) : Prop where
  len : xs.length = n
  max : n ≤ 9223372036854775807
  get : ∀ k, k < n → ∃ b off a1 n1 c1, a = some ⟨b, off, none⟩ ∧ b < w.heap.size ∧ Cells5 w b (off + k * 5) a1 n1 c1 (xs.getD k default) ∧ Row w a1 n1 (xs.getD k default).sg ∧ n1 ≤ 9223372036854775807 ∧ U64 (xs.getD k default).rt ∧ K n1 c1
theorem Hds.kept {K : Nat → Nat → Prop} {w w' : World} {a : Option Addr} {n : Nat} {xs : List HP} (h : Hds K w a n xs) (hb : Below w.heap.size w w') : Hds K w' a n xs := by
  refine ⟨h.len, h.max, fun k hk => ?_⟩
  obtain ⟨b, off, a1, n1, c1, ha, hlt, hc, hp, hm⟩ := h.get k hk
  exact ⟨b, off, a1, n1, c1, ha, Nat.lt_of_lt_of_le hlt hb.size, hc.of (fun i => hb.cell (p := ⟨b, i, none⟩) hlt), hp.kept hb, hm⟩

set_option maxRecDepth 10000 in
set_option maxHeartbeats 400000 in
theorem szByteS_gen (a : Option Addr) (n cap : Nat) (l : Int) (w : World) (hn : n ≤ 9223372036854775807) (h0 : 0 ≤ l) (h1 : l ≤ 1048576) :
    Calls Tryz.prog 16 #[.slice a n cap, .int .i64 l] w fun e w' => ∃ r, e = .returned (.int .i64 r) ∧ (r < 0 ∨ (0 ≤ r ∧ r ≤ 1048576 ∧ n ≤ 1048576)) ∧ w = w' := by
  by_cases hlt : (n : Int) ≤ l
  · have h1 : ¬ l - (n : Int) < 0 := by omega
    go_enter Tryz.func16, Tryz.ntmps16
    go_wp2
    go_ret
    exact ⟨_, rfl, .inr (by omega), rfl⟩
  · have h1 : l - (n : Int) < 0 := by omega
    go_enter Tryz.func16, Tryz.ntmps16
    go_wp2
    go_ret
    exact ⟨_, rfl, .inl (by decide), rfl⟩

set_option maxRecDepth 10000 in
set_option maxHeartbeats 1000000 in
theorem szHead_gen (x : HP) (a : Option Addr) (n cap : Nat) (l : Int) (w : World) (hn : n ≤ 9223372036854775807) (h0 : 0 ≤ l) (h1 : l ≤ 1048576) :
    Calls Tryz.prog 4 #[.agg #[.int .i64 x.lg, .int .i64 x.sz, .int .u64 x.rt, .int .i64 x.at2, .slice a n cap], .int .i64 l] w fun e w' => ∃ r, e = .returned (.int .i64 r) ∧ (r < 0 ∨ (0 ≤ r ∧ r ≤ 1048576 ∧ n ≤ 1048576)) ∧ Below w.heap.size w w' := by
  have hbb : Below w.heap.size w (w.alloc (.cells #[.int .i64 x.lg, .int .i64 x.sz, .int .u64 x.rt, .int .i64 x.at2, .slice a n cap] 25)) := (Below.refl _ _).alloc (Nat.le_refl _) _
  go_enter Tryz.func4, Tryz.ntmps4
  go_wp2_with fail
  refine (szByteS_gen a n cap l _ hn h0 h1).mono ?_
  rintro e w1 ⟨r, rfl, hr, hw⟩
  subst hw
  by_cases hneg : r < 0
  · clear hr
    go_wp2
    go_ret
    exact ⟨_, rfl, .inl (by decide), hbb⟩
  · have HR : Hid (0 ≤ r ∧ r ≤ 1048576 ∧ n ≤ 1048576) := by show _ ∧ _; omega
    clear hr
    go_wp2
    go_ret
    exact ⟨_, rfl, .inr HR.out, hbb⟩

theorem eqHead_hp (x : HP) (a b : Option Addr) (n ca cb : Nat) (w : World) (h : Row w a n x.sg) (h2 : Row w b n x.sg) (hn : n ≤ maxLen) :
    Calls Tryz.prog 13 #[.agg #[.int .i64 x.lg, .int .i64 x.sz, .int .u64 x.rt, .int .i64 x.at2, .slice a n ca], .agg #[.int .i64 x.lg, .int .i64 x.sz, .int .u64 x.rt, .int .i64 x.at2, .slice b n cb]] w fun e w' => e = .returned (.bool true) ∧ Below w.heap.size w w' := eqHead_same x.lg x.sz x.rt x.at2 a b n ca cb x.sg w h h2 hn

theorem Tryz.infoHd : (Tryz.prog.info? 34).map (fun i => (i.zero, i.size, i.bytes)) = some (some (.agg #[.int .i64 0, .int .i64 0, .int .u64 0, .int .i64 0, .slice none 0 0]), 5, 56) := by kernel_rfl
def put5o (w : World) (g o : Nat) (u0 u1 u2 u3 u4 : Value) : World := ((((w.setCell ⟨g, o, none⟩ u0).setCell ⟨g, o + 1, none⟩ u1).setCell ⟨g, o + 2, none⟩ u2).setCell ⟨g, o + 3, none⟩ u3).setCell ⟨g, o + 4, none⟩ u4
theorem put5o_touch (w : World) (g o : Nat) (u0 u1 u2 u3 u4 : Value) : Touch g (g + 1) w (put5o w g o u0 u1 u2 u3 u4) :=
  ((((touch_set1 w g _ u0).trans (touch_set1 _ g _ u1)).trans (touch_set1 _ g _ u2)).trans (touch_set1 _ g _ u3)).trans (touch_set1 _ g _ u4)
/-- The first k heads lie in the row g, what they have behind it. -/
def HdPre (w : World) (g k : Nat) (xs : List HP) : Prop := ∀ j, j < k → ∃ p n, Cells5 w g (j * 5) p n n (xs.getD j default) ∧ Own (g + 1) w p n n (xs.getD j default).sg ∧ n ≤ 1048576 ∧ U64 (xs.getD j default).rt
theorem HdPre.kept {w w' : World} {g k : Nat} {xs : List HP} (h : HdPre w g k xs) (hg : g < w.heap.size) (hb : Below w.heap.size w w') : HdPre w' g k xs := fun j hj => by
  obtain ⟨p, n, h3, h4, h5⟩ := h j hj
  exact ⟨p, n, h3.of (fun i => hb.cell (p := ⟨g, i, none⟩) hg), h4.kept hb, h5⟩
structure Put5 (B : Nat) (w w' : World) (g n cap i : Nat) (a1 : Option Addr) (n1 d1 : Nat) (x : HP) : Prop where
  own : ∃ vs, w'.ownsRow B 34 5 (.slice (some ⟨g, 0, none⟩) n cap) n vs
  old : ∀ j, j < n * 5 → j < i * 5 ∨ i * 5 + 5 ≤ j → w'.cell? ⟨g, j, none⟩ = w.cell? ⟨g, j, none⟩
  cells : Cells5 w' g (i * 5) a1 n1 d1 x
theorem put5_is {B : Nat} {w : World} {g n cap : Nat} {vs : List Value} (h : w.ownsRow B 34 5 (.slice (some ⟨g, 0, none⟩) n cap) n vs) (i : Nat) (hi : i < n) (a1 : Option Addr) (n1 d1 : Nat) (x : HP) : Put5 B w (put5o w g (i * 5) (.int .i64 x.lg) (.int .i64 x.sz) (.int .u64 x.rt) (.int .i64 x.at2) (.slice a1 n1 d1)) g n cap i a1 n1 d1 x := by
  have h1 := (((((h.stored (i * 5) (.int .i64 x.lg)).1.stored (i * 5 + 1) (.int .i64 x.sz)).1.stored (i * 5 + 2) (.int .u64 x.rt)).1.stored (i * 5 + 3) (.int .i64 x.at2)).1.stored (i * 5 + 4) (.slice a1 n1 d1)).1
  have hl : vs.length = n * 5 := h.1
  have cc := fun j (hj : j < n * 5) => h1.cellAt j hj
  refine ⟨⟨_, h1⟩, fun j hj ho => ?_, ⟨?_, ?_, ?_, ?_, ?_⟩⟩
  · refine (cc j hj).trans ?_
    rw [h.cellAt j hj]
    rw [List.getElem?_set_ne (by omega), List.getElem?_set_ne (by omega), List.getElem?_set_ne (by omega), List.getElem?_set_ne (by omega), List.getElem?_set_ne (by omega)]
  · refine (cc _ (by omega)).trans ?_
    rw [List.getElem?_set_ne (by omega), List.getElem?_set_ne (by omega), List.getElem?_set_ne (by omega), List.getElem?_set_ne (by omega), List.getElem?_set_self (by omega)]
  · refine (cc _ (by omega)).trans ?_
    rw [List.getElem?_set_ne (by omega), List.getElem?_set_ne (by omega), List.getElem?_set_ne (by omega), List.getElem?_set_self (by simp; omega)]
  · refine (cc _ (by omega)).trans ?_
    rw [List.getElem?_set_ne (by omega), List.getElem?_set_ne (by omega), List.getElem?_set_self (by simp; omega)]
  · refine (cc _ (by omega)).trans ?_
    rw [List.getElem?_set_ne (by omega), List.getElem?_set_self (by simp; omega)]
  · refine (cc _ (by omega)).trans ?_
    rw [List.getElem?_set_self (by simp; omega)]
theorem toHead_hp (x : HP) (a : Option Addr) (n c : Nat) (w : World) (h : Row w a n x.sg) (hn : n ≤ 1048576) :
    Calls Tryz.prog 8 #[.agg #[.int .i64 x.lg, .int .i64 x.sz, .int .u64 x.rt, .int .i64 x.at2, .slice a n c]] w fun e w' => ∃ a1, e = .returned (.agg #[.int .i64 x.lg, .int .i64 x.sz, .int .u64 x.rt, .int .i64 x.at2, .slice a1 n n]) ∧ Own w.heap.size w' a1 n n x.sg ∧ Below w.heap.size w w' := toHead_any x.lg x.sz x.rt x.at2 a n c x.sg w h hn

end Go.Proofs.YtambgfmipfmkdaaGreat

namespace Go.Proofs.YtambgfmipfmkdaaGreat
open Go.RowKit

structure CgP where
  key : Int
  at2 : Int
  sg : List Int
  deriving Inhabited

set_option maxRecDepth 10000 in
set_option maxHeartbeats 1000000 in
theorem szCosig_gen (x : CgP) (a : Option Addr) (n cap : Nat) (l : Int) (w : World) (hn : n ≤ 9223372036854775807) (h0 : 0 ≤ l) (h1 : l ≤ 1048576) :
    Calls Tryz.prog 17 #[.agg #[.int .u64 x.key, .int .i64 x.at2, .slice a n cap], .int .i64 l] w fun e w' => ∃ r, e = .returned (.int .i64 r) ∧ (r < 0 ∨ (0 ≤ r ∧ r ≤ 1048576 ∧ n ≤ 1048576)) ∧ Below w.heap.size w w' := by
  have hbb : Below w.heap.size w (w.alloc (.cells #[.int .u64 x.key, .int .i64 x.at2, .slice a n cap] 49)) := (Below.refl _ _).alloc (Nat.le_refl _) _
  go_enter Tryz.func17, Tryz.ntmps17
  go_wp2_with fail
  refine (szByteS_gen a n cap l _ hn h0 h1).mono ?_
  rintro e w1 ⟨r, rfl, hr, hw⟩
  subst hw
  by_cases hneg : r < 0
  · clear hr
    go_wp2
    go_ret
    exact ⟨_, rfl, .inl (by decide), hbb⟩
  · have HR : Hid (0 ≤ r ∧ r ≤ 1048576 ∧ n ≤ 1048576) := by show _ ∧ _; omega
    clear hr
    go_wp2
    go_ret
    exact ⟨_, rfl, .inr HR.out, hbb⟩

theorem results_Cg {fn : Func} {t : Tmp} (h : fn.results = #[.cell t 55]) (tmps : Array Value) (g : Nat) (ht : tmps.getD t undef = .pointer (some ⟨g, 0, none⟩)) (w : World) (c0 c1 c2 : Value)
    (hb : w.heap[g]? = some (.cells #[c0, c1, c2] 55 (0, 0))) : (results fn tmps).run Tryz.prog w = .ok (.agg #[c0, c1, c2]) w := by
  have d0 : w.cell? ⟨g, 0, none⟩ = some c0 := (cell_of_row _ g 0 _ 55 (0, 0) hb).trans rfl
  have d1 : w.cell? ⟨g, 1, none⟩ = some c1 := (cell_of_row _ g 1 _ 55 (0, 0) hb).trans rfl
  have d2 : w.cell? ⟨g, 2, none⟩ = some c2 := (cell_of_row _ g 2 _ 55 (0, 0) hb).trans rfl
  clear hb
  have ht' : tmps[t]?.getD undef = .pointer (some ⟨g, 0, none⟩) := by rw [← ht]; simp
  simp [results, h, go_sem, ht', d0, d1, d2]
def putCg (w : World) (g o : Nat) (u0 u1 u2 : Value) : World := ((w.setCell ⟨g, o, none⟩ u0).setCell ⟨g, o + 1, none⟩ u1).setCell ⟨g, o + 2, none⟩ u2
theorem putCg_touch (w : World) (g o : Nat) (u0 u1 u2 : Value) : Touch g (g + 1) w (putCg w g o u0 u1 u2) := by
  unfold putCg
  refine ((touch_set1 w g _ u0).trans (touch_set1 _ g _ u1)).trans (touch_set1 _ g _ u2)
theorem putCg_heap {w : World} {g t : Nat} {c0 c1 c2 : Value} (h : w.heap[g]? = some (.cells #[c0, c1, c2] t (0, 0))) (u0 u1 u2 : Value) : (putCg w g 0 u0 u1 u2).heap[g]? = some (.cells #[u0, u1, u2] t (0, 0)) :=
  heap_setCell_same _ _ 2 _ t _ (heap_setCell_same _ _ 1 _ t _ (heap_setCell_same _ _ 0 _ t _ h))

set_option maxRecDepth 10000 in
set_option maxHeartbeats 4000000 in
theorem toCosig_any (x : CgP) (a : Option Addr) (n c : Nat) (w : World) (h : Row w a n x.sg) (hn : n ≤ 1048576) :
    Calls Tryz.prog 25 #[.agg #[.int .u64 x.key, .int .i64 x.at2, .slice a n c]] w fun e w' => ∃ a1, e = .returned (.agg #[.int .u64 x.key, .int .i64 x.at2, .slice a1 n n]) ∧ Own w.heap.size w' a1 n n x.sg ∧ Below w.heap.size w w' := by
  obtain ⟨w1, hw1⟩ : ∃ w1, w1 = ((w.alloc (.cells #[.int .u64 x.key, .int .i64 x.at2, .slice a n c] 49)).alloc (.cells #[.int .u64 0, .int .i64 0, .slice none 0 0] 55)).alloc (.cells #[.int .u64 x.key, .int .i64 x.at2, .slice none 0 0] 55) := ⟨_, rfl⟩
  have hbb : Below w.heap.size w w1 := by rw [hw1]; exact (((Below.refl _ _).alloc (Nat.le_refl _) _).alloc (by simp) _).alloc (by simp; omega) _
  have hsz : w1.heap.size = w.heap.size + 3 := by rw [hw1]; simp
  obtain ⟨B0, B1, B2⟩ := heap_alloc2_newH w (.cells #[.int .u64 x.key, .int .i64 x.at2, .slice a n c] 49) (.cells #[.int .u64 0, .int .i64 0, .slice none 0 0] 55) (.cells #[.int .u64 x.key, .int .i64 x.at2, .slice none 0 0] 55)
  rw [← hw1] at B0 B1 B2
  have HW : Hid (_ = _) := hw1
  have HE : Hid (Row w a n x.sg) := h
  clear hw1 h
  have l0 : w1.cell? ⟨w.heap.size, 2, none⟩ = some (.slice a n c) := (cell_of_row _ _ 2 _ 49 (0, 0) B0).trans rfl
  go_enter Tryz.func25, Tryz.ntmps25
  go_upto_region 4 with fail
  rw [← HW.out]
  clear HW
  go_wp2_with fail
  refine (toByteS_any a n c x.sg _ (HE.out.kept hbb) (by omega)).mono ?_
  rintro e w2 ⟨a1, rfl, hr1, hb2⟩
  clear l0
  have B12 := (hb2.block _ (by omega)).trans B1
  have B22 := (hb2.block _ (by omega)).trans B2
  have x0 : w2.cell? ⟨w.heap.size + 1 + 1, 0, none⟩ = some (.int .u64 x.key) := (cell_of_row _ _ 0 _ 55 (0, 0) B22).trans rfl
  have x1 : w2.cell? ⟨w.heap.size + 1 + 1, 1, none⟩ = some (.int .i64 x.at2) := (cell_of_row _ _ 1 _ 55 (0, 0) B22).trans rfl
  have x2 : w2.cell? ⟨w.heap.size + 1 + 1, 2, none⟩ = some (.slice none 0 0) := (cell_of_row _ _ 2 _ 55 (0, 0) B22).trans rfl
  have y2 : w2.frozen? ⟨w.heap.size + 1 + 1, 2, none⟩ = false := frozen_of_row w2 _ 2 _ 55 B22
  have r0 : w2.cell? ⟨w.heap.size + 1, 0, none⟩ = some (.int .u64 0) := (cell_of_row _ _ 0 _ 55 (0, 0) B12).trans rfl
  have f0 : w2.frozen? ⟨w.heap.size + 1, 0, none⟩ = false := frozen_of_row w2 _ 0 _ 55 B12
  have r1 : w2.cell? ⟨w.heap.size + 1, 1, none⟩ = some (.int .i64 0) := (cell_of_row _ _ 1 _ 55 (0, 0) B12).trans rfl
  have f1 : w2.frozen? ⟨w.heap.size + 1, 1, none⟩ = false := frozen_of_row w2 _ 1 _ 55 B12
  have r2 : w2.cell? ⟨w.heap.size + 1, 2, none⟩ = some (.slice none 0 0) := (cell_of_row _ _ 2 _ 55 (0, 0) B12).trans rfl
  have f2 : w2.frozen? ⟨w.heap.size + 1, 2, none⟩ = false := frozen_of_row w2 _ 2 _ 55 B12
  have HD1 : Hid (_ = _) := B12
  have HR2 : Hid (Own w1.heap.size w2 a1 n n x.sg) := hr1
  have HB2 : Hid (Below w.heap.size w w2) := keepT hbb hb2
  have hs2 := hb2.size
  clear hr1 hb2 B12 B22 B0 B1 B2
  go_wp2_with fail
  try simp only [Exit.inBlock, Exit.then]
  have T1 : Touch (w.heap.size + 1) (w.heap.size + 3) w2 (w2.setCell ⟨w.heap.size + 1 + 1, 2, none⟩ (.slice a1 n n)) := (touch_set1 w2 (w.heap.size + 1 + 1) 2 _).mono (by omega) (by omega)
  have T2 : Touch (w.heap.size + 1) (w.heap.size + 3) w2 (putCg (w2.setCell ⟨w.heap.size + 1 + 1, 2, none⟩ (.slice a1 n n)) (w.heap.size + 1) 0 (.int .u64 x.key) (.int .i64 x.at2) (.slice a1 n n)) := T1.trans ((putCg_touch _ (w.heap.size + 1) 0 _ _ _).mono (by omega) (by omega))
  refine bodyPost_ret (results_Cg rfl _ (w.heap.size + 1) rfl _ _ _ _ (putCg_heap ((Below.heap_setCell _ _ _ _ (by simp)).trans HD1.out) _ _ _)) rfl ⟨_, rfl, ?_, ?_⟩
  · exact (HR2.out.touch5 T2 (by omega)).mono (by omega)
  · exact HB2.out.trans (T2.below (by omega) (by omega))

set_option maxRecDepth 10000 in
set_option maxHeartbeats 2000000 in
theorem eqCosig_same (x : CgP) (a b : Option Addr) (n ca cb : Nat) (w : World) (h : Row w a n x.sg) (h2 : Row w b n x.sg) (hn : n ≤ maxLen) :
    Calls Tryz.prog 31 #[.agg #[.int .u64 x.key, .int .i64 x.at2, .slice a n ca], .agg #[.int .u64 x.key, .int .i64 x.at2, .slice b n cb]] w fun e w' => e = .returned (.bool true) ∧ Below w.heap.size w w' := by
  obtain ⟨w1, hw1⟩ : ∃ w1, w1 = (w.alloc (.cells #[.int .u64 x.key, .int .i64 x.at2, .slice a n ca] 55)).alloc (.cells #[.int .u64 x.key, .int .i64 x.at2, .slice b n cb] 55) := ⟨_, rfl⟩
  have hbb : Below w.heap.size w w1 := by rw [hw1]; exact ((Below.refl _ _).alloc (Nat.le_refl _) _).alloc (by simp) _
  have HA : Hid (Row w1 a n x.sg) := h.kept hbb
  have HB : Hid (Row w1 b n x.sg) := h2.kept hbb
  have s1 : (w.alloc (.cells #[.int .u64 x.key, .int .i64 x.at2, .slice a n ca] 55)).heap.size = w.heap.size + 1 := by simp
  have B0 : w1.heap[w.heap.size]? = some (.cells #[.int .u64 x.key, .int .i64 x.at2, .slice a n ca] 55 (0, 0)) := by rw [hw1]; exact (alloc_oldT _ _ _ (by simp)).trans (heap_alloc_new w _)
  have B1 : w1.heap[w.heap.size + 1]? = some (.cells #[.int .u64 x.key, .int .i64 x.at2, .slice b n cb] 55 (0, 0)) := by rw [hw1, ← s1]; exact heap_alloc_new _ _
  have x0 : w1.cell? ⟨w.heap.size, 0, none⟩ = some (.int .u64 x.key) := (cell_of_row _ _ 0 _ 55 (0, 0) B0).trans rfl
  have y0 : w1.cell? ⟨w.heap.size + 1, 0, none⟩ = some (.int .u64 x.key) := (cell_of_row _ _ 0 _ 55 (0, 0) B1).trans rfl
  have x1 : w1.cell? ⟨w.heap.size, 1, none⟩ = some (.int .i64 x.at2) := (cell_of_row _ _ 1 _ 55 (0, 0) B0).trans rfl
  have y1 : w1.cell? ⟨w.heap.size + 1, 1, none⟩ = some (.int .i64 x.at2) := (cell_of_row _ _ 1 _ 55 (0, 0) B1).trans rfl
  have x2 : w1.cell? ⟨w.heap.size, 2, none⟩ = some (.slice a n ca) := (cell_of_row _ _ 2 _ 55 (0, 0) B0).trans rfl
  have y2 : w1.cell? ⟨w.heap.size + 1, 2, none⟩ = some (.slice b n cb) := (cell_of_row _ _ 2 _ 55 (0, 0) B1).trans rfl
  have z0 : (x.key != x.key) = false := by simp
  have z1 : (x.at2 != x.at2) = false := by simp
  have HW : Hid (_ = _) := hw1
  clear hw1 s1 B0 B1 h h2
  go_enter Tryz.func31, Tryz.ntmps31
  go_upto_region 1 with fail
  rw [← HW.out]
  clear HW
  go_wp2_with fail
  refine (eqByteS_any a b n n ca cb x.sg x.sg _ HA.out HB.out hn hn).mono ?_
  rintro e w2 ⟨rfl, hb2⟩
  rw [decide_eq_true (rfl : x.sg = x.sg)]
  go_wp2
  go_ret
  exact ⟨rfl, keepT hbb hb2⟩

end Go.Proofs.YtambgfmipfmkdaaGreat

namespace Go.Proofs.YtambgfmipfmkdaaGreat
open Go.RowKit

structure CellsCg (w : World) (b o : Nat) (a : Option Addr) (n c : Nat) (x : CgP) : Prop where
  c0 : w.cell? ⟨b, o, none⟩ = some (.int .u64 x.key)
  c1 : w.cell? ⟨b, o + 1, none⟩ = some (.int .i64 x.at2)
  c2 : w.cell? ⟨b, o + 2, none⟩ = some (.slice a n c)
theorem CellsCg.of {w w' : World} {b o : Nat} {a : Option Addr} {n c : Nat} {x : CgP} (h : CellsCg w b o a n c x) (hc : ∀ i, w'.cell? ⟨b, i, none⟩ = w.cell? ⟨b, i, none⟩) : CellsCg w' b o a n c x :=
  ⟨(hc _).trans h.c0, (hc _).trans h.c1, (hc _).trans h.c2⟩
/-- The slice at a reads as these. -/
structure Cgs (K : Nat → Nat → Prop) (w : World) (a : Option Addr) (n : Nat) (xs : List CgP) : Prop where
  len : xs.length = n
  max : n ≤ 9223372036854775807
  get : ∀ k, k < n → ∃ b off a1 n1 c1, a = some ⟨b, off, none⟩ ∧ b < w.heap.size ∧ CellsCg w b (off + k * 3) a1 n1 c1 (xs.getD k default) ∧ Row w a1 n1 (xs.getD k default).sg ∧ n1 ≤ 9223372036854775807 ∧ (U64 (xs.getD k default).key) ∧ K n1 c1
theorem Cgs.kept {K : Nat → Nat → Prop} {w w' : World} {a : Option Addr} {n : Nat} {xs : List CgP} (h : Cgs K w a n xs) (hb : Below w.heap.size w w') : Cgs K w' a n xs := by
  refine ⟨h.len, h.max, fun k hk => ?_⟩
  obtain ⟨b, off, a1, n1, c1, ha, hlt, hc, hp, hm⟩ := h.get k hk
  exact ⟨b, off, a1, n1, c1, ha, Nat.lt_of_lt_of_le hlt hb.size, hc.of (fun i => hb.cell (p := ⟨b, i, none⟩) hlt), hp.kept hb, hm⟩

set_option maxRecDepth 10000 in
set_option maxHeartbeats 2000000 in
theorem szCosigS_any (K : Nat → Nat → Prop) (a : Option Addr) (n cap : Nat) (xs : List CgP) (lf : Int) (w : World) (h : Cgs K w a n xs) (hl0 : 0 ≤ lf) (hl1 : lf ≤ 1048576) :
    Calls Tryz.prog 5 #[.slice a n cap, .int .i64 lf] w fun e w' => ∃ r, e = .returned (.int .i64 r) ∧ (r < 0 ∨ (0 ≤ r ∧ r ≤ 1048576 ∧ n ≤ 1048576 ∧ ∀ k, k < n → (xs.getD k default).sg.length ≤ 1048576)) ∧ Below w.heap.size w w' := by
  have H0 : Hid (Cgs K w a n xs) := h
  have hn := h.max
  clear h
  by_cases hlt : (n : Int) ≤ lf
  · go_enter Tryz.func5, Tryz.ntmps5
    go_wp2
    go_loopw [1, 5] (fun l i wr => ∃ (k : Nat) (left : Int), k ≤ n ∧ i = .int .i64 k ∧ l = .int .i64 left ∧ 0 ≤ left ∧ left ≤ 1048576 ∧ Hid (∀ j, j < k → (xs.getD j default).sg.length ≤ 1048576) ∧ Below w.heap.size w wr) (fun _ i _ => n - (intOf i).toNat)
    case atStart => exact ⟨0, lf - n, Nat.zero_le _, rfl, rfl, by omega, by omega, fun j hj => absurd hj (Nat.not_lt_zero _), Below.refl _ _⟩
    case round =>
      obtain ⟨k, left, hk, rfl, rfl, h0, h1, HA, hbr⟩ := hrel
      by_cases hkn : k < n
      · obtain ⟨b, off, a1, n1, d1, rfl, hlb, hc, hp, hm, _⟩ := H0.out.get k hkn
        obtain ⟨y, hy⟩ : ∃ y, y = xs.getD k default := ⟨_, rfl⟩
        rw [← hy] at hc hp
        have HY : Hid (y = xs.getD k default) := hy
        obtain ⟨c0, c1, c2⟩ := hc.of (w' := wr) (fun i => hbr.cell (p := ⟨b, i, none⟩) hlb)
        have HLN : Hid (y.sg.length = n1) := hp.len
        have hkni : (k : Int) < (n : Int) := by omega
        clear hc hy hp
        go_wp2_with fail
        refine (szCosig_gen y a1 n1 d1 left _ hm h0 h1).mono ?_
        rintro e w2 ⟨r, rfl, hr, hb2⟩
        have hb2' : Below w.heap.size w w2 := hbr.trans (hb2.mono hbr.size)
        by_cases hneg : r < 0
        · clear hr
          go_wp2
          go_ret
          exact ⟨_, rfl, .inl (by decide), hb2'⟩
        · have hr1 : 0 ≤ r := by omega
          have hr2 : r ≤ 1048576 := by omega
          have HR : Hid (y.sg.length ≤ 1048576) := by show _ ≤ _; rw [HLN.out]; omega
          clear hr
          go_wp2
          go_roundw
          case rel =>
            refine ⟨k + 1, r, by omega, by go_num, rfl, hr1, hr2, fun j hj => ?_, hb2'⟩
            by_cases hjk : j = k
            · subst hjk; rw [← HY.out]; exact HR.out
            · exact HA.out j (by omega)
          case measure => simp [intOf]; omega
      · obtain rfl : n = k := by omega
        go_wp2
        go_ret
        exact ⟨_, rfl, .inr ⟨h0, h1, by omega, HA.out⟩, hbr⟩
  · go_enter Tryz.func5, Tryz.ntmps5
    go_wp2
    go_ret
    exact ⟨_, rfl, .inl (by decide), Below.refl _ _⟩

set_option maxRecDepth 10000 in
set_option maxHeartbeats 4000000 in
theorem eqCosigS_same (K L : Nat → Nat → Prop) (a b : Option Addr) (n ca cb : Nat) (xs : List CgP) (w : World) (h : Cgs K w a n xs) (h2 : Cgs L w b n xs) :
    Calls Tryz.prog 14 #[.slice a n ca, .slice b n cb] w fun e w' => e = .returned (.bool true) ∧ Below w.heap.size w w' := by
  have HK : Hid (Cgs K w a n xs) := h
  have HK2 : Hid (Cgs L w b n xs) := h2
  have hn := h.max
  clear h h2
  go_enter Tryz.func14, Tryz.ntmps14
  go_wp2
  go_loopw [5] (fun i wr => ∃ k : Nat, k ≤ n ∧ i = .int .i64 k ∧ Below w.heap.size w wr) (fun i _ => n - (intOf i).toNat)
  case atStart => exact ⟨0, Nat.zero_le _, rfl, Below.refl _ _⟩
  case round =>
    obtain ⟨k, hk, rfl, hbr⟩ := hrel
    by_cases hkn : k < n
    · obtain ⟨b1, off1, p1, n1, d1, rfl, hl1, hc1, hp1, hm1, _⟩ := HK.out.get k hkn
      obtain ⟨b2, off2, q1, m1, e1, rfl, hl2, hc2, hp2, hm2, _⟩ := HK2.out.get k hkn
      obtain ⟨y, hy⟩ : ∃ y, y = xs.getD k default := ⟨_, rfl⟩
      rw [← hy] at hc1 hc2 hp1 hp2
      clear hy
      obtain rfl : m1 = n1 := by rw [← hp2.len, ← hp1.len]
      obtain ⟨c0, c1, c2⟩ := hc1.of (w' := wr) (fun i => hbr.cell (p := ⟨b1, i, none⟩) hl1)
      obtain ⟨u0, u1, u2⟩ := hc2.of (w' := wr) (fun i => hbr.cell (p := ⟨b2, i, none⟩) hl2)
      have HP1 : Hid (Row wr.drew p1 m1 y.sg) := hp1.kept hbr.drew
      have HP2 : Hid (Row wr.drew q1 m1 y.sg) := hp2.kept hbr.drew
      have hkni : (k : Int) < (n : Int) := by omega
      have hsz := hbr.size
      clear hc1 hc2 hp1 hp2
      go_wp2_with fail
      go_region_with (go_at_call 31; refine (eqCosig_same y p1 q1 m1 d1 e1 _ HP1.out HP2.out (by unfold maxLen; omega)).mono ?_; rintro e w2 ⟨rfl, hb2⟩)
      all_goals
        have b5 : Below w.heap.size w w2 := hbr.drew.trans (hb2.mono hsz)
        go_wp2
        go_roundw
        case rel => exact ⟨k + 1, by omega, by go_num, b5⟩
        case measure => simp [intOf]; omega
    · go_wp2
      go_ret
      exact ⟨rfl, hbr⟩

theorem Tryz.infoCg : (Tryz.prog.info? 55).map (fun i => (i.zero, i.size, i.bytes)) = some (some (.agg #[.int .u64 0, .int .i64 0, .slice none 0 0]), 3, 40) := by kernel_rfl
/-- The first k lie in the row g, what they have behind it. -/
def CgPre (w : World) (g k : Nat) (xs : List CgP) : Prop := ∀ j, j < k → ∃ p n, CellsCg w g (j * 3) p n n (xs.getD j default) ∧ Own (g + 1) w p n n (xs.getD j default).sg ∧ n ≤ 1048576 ∧ (U64 (xs.getD j default).key)
theorem CgPre.kept {w w' : World} {g k : Nat} {xs : List CgP} (h : CgPre w g k xs) (hg : g < w.heap.size) (hb : Below w.heap.size w w') : CgPre w' g k xs := fun j hj => by
  obtain ⟨p, n, h3, h4, h5⟩ := h j hj
  exact ⟨p, n, h3.of (fun i => hb.cell (p := ⟨g, i, none⟩) hg), h4.kept hb, h5⟩
structure PutCgS (B : Nat) (w w' : World) (g n cap i : Nat) (a1 : Option Addr) (n1 d1 : Nat) (x : CgP) : Prop where
  own : ∃ vs, w'.ownsRow B 55 3 (.slice (some ⟨g, 0, none⟩) n cap) n vs
  old : ∀ j, j < n * 3 → j < i * 3 ∨ i * 3 + 3 ≤ j → w'.cell? ⟨g, j, none⟩ = w.cell? ⟨g, j, none⟩
  cells : CellsCg w' g (i * 3) a1 n1 d1 x
theorem putCg_is {B : Nat} {w : World} {g n cap : Nat} {vs : List Value} (h : w.ownsRow B 55 3 (.slice (some ⟨g, 0, none⟩) n cap) n vs) (i : Nat) (hi : i < n) (a1 : Option Addr) (n1 d1 : Nat) (x : CgP) : PutCgS B w (putCg w g (i * 3) (.int .u64 x.key) (.int .i64 x.at2) (.slice a1 n1 d1)) g n cap i a1 n1 d1 x := by
  have h1 := (((h.stored (i * 3) (.int .u64 x.key)).1.stored (i * 3 + 1) (.int .i64 x.at2)).1.stored (i * 3 + 2) (.slice a1 n1 d1)).1
  have hl : vs.length = n * 3 := h.1
  have cc := fun j (hj : j < n * 3) => h1.cellAt j hj
  refine ⟨⟨_, h1⟩, fun j hj ho => ?_, ⟨?_, ?_, ?_⟩⟩
  · refine (cc j hj).trans ?_
    rw [h.cellAt j hj]
    rw [List.getElem?_set_ne (by omega), List.getElem?_set_ne (by omega), List.getElem?_set_ne (by omega)]
  · refine (cc _ (by omega)).trans ?_
    rw [List.getElem?_set_ne (by omega), List.getElem?_set_ne (by omega), List.getElem?_set_self (by omega)]
  · refine (cc _ (by omega)).trans ?_
    rw [List.getElem?_set_ne (by omega), List.getElem?_set_self (by simp; omega)]
  · refine (cc _ (by omega)).trans ?_
    rw [List.getElem?_set_self (by simp; omega)]

set_option maxRecDepth 10000 in
set_option maxHeartbeats 4000000 in
theorem toCosigS_any (K : Nat → Nat → Prop) (a : Option Addr) (n cap : Nat) (xs : List CgP) (w : World) (h : Cgs K w a n xs) (hn : n ≤ 1048576) (hz : ∀ k, k < n → (xs.getD k default).sg.length ≤ 1048576) :
    Calls Tryz.prog 10 #[.slice a n cap] w fun e w' => ∃ a', e = .returned (.slice a' n n) ∧ Cgs (fun n c => n ≤ c ∧ n ≤ 1048576) w' a' n xs ∧ Below w.heap.size w w' := by
  obtain ⟨i0, hi, hz0, hz1, hz2⟩ := info_parts Tryz.infoCg
  have HK : Hid (Cgs K w a n xs) := h
  have HZ : Hid (∀ k, k < n → (xs.getD k default).sg.length ≤ 1048576) := hz
  have hlen : Hid (xs.length = n) := h.len
  clear h hz
  go_enter Tryz.func10, Tryz.ntmps10
  go_wp2_with (first | (at_make; refine wpList_make_full _ rfl _ _ 38 rfl w.heap.size 55 i0 _ 3 Tryz.underlying38 hi hz0 hz1 _ _ _ _ n rfl rfl rfl rfl (by rw [hz2]; omega) (by unfold maxLen; omega) (by exact Nat.le_refl _) ?_; intro w1 hown hgrow))
  have hbl : Below w.heap.size w w1 := (Below.refl _ _).grown hgrow (Nat.le_refl _) (by simp)
  clear hgrow hi hz0 hz1 hz2
  go_loopw [4] (fun i wr => ∃ k : Nat, k ≤ n ∧ i = .int .i64 k ∧ Hid (∃ vs, wr.ownsRow w.heap.size 55 3 (.slice (some ⟨w.heap.size, 0, none⟩) n n) n vs) ∧ Hid (CgPre wr w.heap.size k xs) ∧ Below w.heap.size w wr) (fun i _ => n - (intOf i).toNat)
  case atStart => exact ⟨0, Nat.zero_le _, rfl, ⟨_, hown⟩, fun j hj => absurd hj (Nat.not_lt_zero _), hbl⟩
  case round =>
    obtain ⟨k, hk, rfl, HOR, HPRE, hbr⟩ := hrel
    obtain ⟨vs, hor⟩ := HOR.out
    have hgl := (hor.lt _ rfl).2
    have HOV : Hid (_) := hor
    clear HOR hor hown hbl
    by_cases hkn : k < n
    · obtain ⟨b, off, a1, n1, d1, rfl, hlb, hc, hp, hm, hu, _⟩ := HK.out.get k hkn
      have hgp := HZ.out k hkn
      obtain ⟨y, hy⟩ : ∃ y, y = xs.getD k default := ⟨_, rfl⟩
      rw [← hy] at hc hp hgp hu
      have HY : Hid (y = xs.getD k default) := hy
      have HU : Hid (U64 y.key) := hu
      have hn1 : n1 ≤ 1048576 := by rw [← hp.len]; exact hgp
      obtain ⟨c0, c1, c2⟩ := hc.of (w' := wr) (fun i => hbr.cell (p := ⟨b, i, none⟩) hlb)
      have HP : Hid (Row wr a1 n1 y.sg) := hp.kept hbr
      have hkni : (k : Int) < (n : Int) := by omega
      have hsz := hbr.size
      clear hc hy hp hgp hu
      go_wp2_with fail
      refine (toCosig_any y a1 n1 d1 _ HP.out hn1).mono ?_
      rintro e w2 ⟨p1, rfl, hp2, hb2⟩
      have hor2 : w2.ownsRow w.heap.size 55 3 (.slice (some ⟨w.heap.size, 0, none⟩) n n) n vs := ownsRow_below HOV.out hb2
      have hs2 := hb2.size
      have fr : ∀ j, w2.frozen? ⟨w.heap.size, j, none⟩ = false := fun j => hor2.frozenAt j
      have hvl : vs.length = n * 3 := hor2.1
      have cx : ∀ j, j < n * 3 → ∃ z, w2.cell? ⟨w.heap.size, j, none⟩ = some z := fun j hj => ⟨_, (hor2.cellAt j hj).trans (List.getElem?_eq_getElem (by omega))⟩
      obtain ⟨z0, x0⟩ := cx (k * 3) (by omega)
      obtain ⟨z1, x1⟩ := cx (k * 3 + 1) (by omega)
      obtain ⟨z2, x2⟩ := cx (k * 3 + 2) (by omega)
      have f0 := fr (k * 3)
      have f1 := fr (k * 3 + 1)
      have f2 := fr (k * 3 + 2)
      have hS := putCg_is hor2 k hkn p1 n1 n1 y
      have hT := putCg_touch w2 w.heap.size (k * 3) (.int .u64 y.key) (.int .i64 y.at2) (.slice p1 n1 n1)
      have hP : CgPre (putCg w2 w.heap.size (k * 3) (.int .u64 y.key) (.int .i64 y.at2) (.slice p1 n1 n1)) w.heap.size (k + 1) xs := by
        intro j hj
        by_cases hjk : j = k
        · subst hjk
          rw [← HY.out]
          exact ⟨p1, n1, hS.cells, (hp2.mono (show w.heap.size + 1 ≤ wr.heap.size by omega)).touch5 hT (Nat.le_refl _), hn1, HU.out⟩
        · obtain ⟨r1, m1, q2, q3, q4⟩ := (HPRE.out.kept hgl hb2) j (by omega)
          have hx := hS.old
          exact ⟨r1, m1, ⟨(hx _ (by omega) (by omega)).trans q2.c0, (hx _ (by omega) (by omega)).trans q2.c1, (hx _ (by omega) (by omega)).trans q2.c2⟩, q3.touch5 hT (Nat.le_refl _), q4⟩
      have hB2 := hbr.trans (hb2.mono hsz)
      have hB4 : Below w.heap.size w (putCg w2 w.heap.size (k * 3) (.int .u64 y.key) (.int .i64 y.at2) (.slice p1 n1 n1)) := hB2.trans (hT.below (Nat.le_refl _) (by omega))
      have FIN : Hid (_ ∧ _ ∧ _) := ⟨hS.own, hP, hB4⟩
      have hgl2 : w.heap.size < w2.heap.size := by omega
      clear fr cx hS hP hB4 hB2 hor2 hp2 hb2 hvl HPRE HOV HP HK hT
      go_wp2
      go_roundw
      case rel => exact ⟨k + 1, by omega, by go_num, FIN.out.1, FIN.out.2.1, FIN.out.2.2⟩
      case measure => simp [intOf]; omega
    · obtain rfl : n = k := by omega
      have HX : Hid (n ≤ 9223372036854775807) := HK.out.max
      clear HOV HK
      go_wp2
      go_ret
      refine ⟨_, rfl, ⟨hlen.out, HX.out, fun j hj => ?_⟩, hbr⟩
      obtain ⟨p1, m1, h3, h4, h5, h6⟩ := HPRE.out j hj
      exact ⟨w.heap.size, 0, _, _, _, rfl, hgl, by rw [Nat.zero_add]; exact h3, h4.toRow, by omega, h6, Nat.le_refl _, h5⟩

end Go.Proofs.YtambgfmipfmkdaaGreat

namespace Go.Proofs.YtambgfmipfmkdaaGreat
open Go.RowKit

def flPu (ps : List (Int × Int × Int)) : List Value := ps.flatMap fun p => [.int .i64 p.1, .int .u64 p.2.1, .int .i64 p.2.2]
theorem flPu_cons (p : Int × Int × Int) (r : List (Int × Int × Int)) : flPu (p :: r) = Value.int .i64 p.1 :: .int .u64 p.2.1 :: .int .i64 p.2.2 :: flPu r := rfl
theorem flPu_append (a b : List (Int × Int × Int)) : flPu (a ++ b) = flPu a ++ flPu b := by simp [flPu, List.flatMap_append]
theorem flPu_len (ps : List (Int × Int × Int)) : (flPu ps).length = ps.length * 3 := by
  induction ps with
  | nil => rfl
  | cons p r ih => rw [flPu_cons]; simp [ih]; omega
theorem flPu_get (ps : List (Int × Int × Int)) : ∀ k, k < ps.length → (flPu ps)[k * 3]? = some (.int .i64 (ps.getD k (0, 0, 0)).1) ∧ (flPu ps)[k * 3 + 1]? = some (.int .u64 (ps.getD k (0, 0, 0)).2.1) ∧ (flPu ps)[k * 3 + 2]? = some (.int .i64 (ps.getD k (0, 0, 0)).2.2) := by
  induction ps with
  | nil => intro k h; simp at h
  | cons p r ih =>
    intro k h
    cases k with
    | zero => simp [flPu_cons]
    | succ k =>
      have := ih k (by simpa using h)
      rw [flPu_cons, show (k + 1) * 3 = k * 3 + 1 + 1 + 1 by omega]
      simpa using this
theorem flPu_set (ps : List (Int × Int × Int)) : ∀ k (u : Int × Int × Int), k < ps.length → (((flPu ps).set (k * 3) (.int .i64 u.1)).set (k * 3 + 1) (.int .u64 u.2.1)).set (k * 3 + 2) (.int .i64 u.2.2) = flPu (ps.set k u) := by
  induction ps with
  | nil => intro k u h; simp at h
  | cons p r ih =>
    intro k u h
    cases k with
    | zero => simp [flPu_cons]
    | succ k =>
      have := ih k u (by simpa using h)
      rw [flPu_cons, show (k + 1) * 3 = k * 3 + 1 + 1 + 1 by omega]
      simp only [List.set_cons_succ, flPu_cons]
      rw [this]
theorem flPu_one (ps : List (Int × Int × Int)) : ∀ u ∈ flPu ps, u.oneCell' = true := by
  induction ps with
  | nil => intro u hu; simp [flPu] at hu
  | cons p r ih =>
    intro u hu
    rw [flPu_cons] at hu
    simp only [List.mem_cons] at hu
    rcases hu with rfl | rfl | rfl | hu
    · rfl
    · rfl
    · rfl
    · exact ih u hu
def UPu (ps : List (Int × Int × Int)) : Prop := ∀ k, U64 (ps.getD k (0, 0, 0)).2.1
structure RowPu (w : World) (a : Option Addr) (n : Nat) (ps : List (Int × Int × Int)) : Prop where
  len : ps.length = n
  get : ∀ k, k < n → ∃ b off, a = some ⟨b, off, none⟩ ∧ b < w.heap.size ∧ w.cell? ⟨b, off + k * 3, none⟩ = some (.int .i64 (ps.getD k (0, 0, 0)).1) ∧ w.cell? ⟨b, off + k * 3 + 1, none⟩ = some (.int .u64 (ps.getD k (0, 0, 0)).2.1) ∧ w.cell? ⟨b, off + k * 3 + 2, none⟩ = some (.int .i64 (ps.getD k (0, 0, 0)).2.2)
  rng : UPu ps
theorem RowPu.kept {w w' : World} {a : Option Addr} {n : Nat} {ps : List (Int × Int × Int)} (h : RowPu w a n ps) (hb : Below w.heap.size w w') : RowPu w' a n ps := by
  refine ⟨h.len, fun k hk => ?_, h.rng⟩
  obtain ⟨b, off, ha, hlt, h0, h1, h2⟩ := h.get k hk
  exact ⟨b, off, ha, Nat.lt_of_lt_of_le hlt hb.size, (hb.cell (p := ⟨b, off + k * 3, none⟩) hlt).trans h0, (hb.cell (p := ⟨b, off + k * 3 + 1, none⟩) hlt).trans h1, (hb.cell (p := ⟨b, off + k * 3 + 2, none⟩) hlt).trans h2⟩
theorem RowPu.in_ {w : World} {a : Option Addr} {n : Nat} {ps : List (Int × Int × Int)} (h : RowPu w a n ps) : In a n 0 w.heap.size := by
  intro b off ha hn
  obtain ⟨b', off', ha', hb, _⟩ := h.get 0 hn
  rw [ha'] at ha
  simp at ha
  omega
theorem RowPu.touch {lo hi p q : Nat} {w w' : World} {a : Option Addr} {n : Nat} {ps : List (Int × Int × Int)} (h : RowPu w a n ps) (hi' : In a n p q) (hd : q ≤ lo ∨ hi ≤ p) (ht : Touch lo hi w w') : RowPu w' a n ps := by
  refine ⟨h.len, fun k hk => ?_, h.rng⟩
  obtain ⟨b, off, ha, hlt, h0, h1, h2⟩ := h.get k hk
  have hp := hi' b off ha (by omega)
  exact ⟨b, off, ha, Nat.lt_of_lt_of_le hlt ht.size, (World.cell?_of_block (a := ⟨b, off + k * 3, none⟩) (ht.block b hlt (by omega))).trans h0, (World.cell?_of_block (a := ⟨b, off + k * 3 + 1, none⟩) (ht.block b hlt (by omega))).trans h1, (World.cell?_of_block (a := ⟨b, off + k * 3 + 2, none⟩) (ht.block b hlt (by omega))).trans h2⟩
structure OwnPu (B : Nat) (w : World) (a : Option Addr) (n cap : Nat) (ps : List (Int × Int × Int)) : Prop where
  row : w.ownsRow B 36 3 (.slice a n cap) n (flPu ps)
  rng : UPu ps
theorem OwnPu.len {B : Nat} {w : World} {a : Option Addr} {n cap : Nat} {ps : List (Int × Int × Int)} (h : OwnPu B w a n cap ps) : ps.length = n := by
  have := h.row.1
  rw [flPu_len] at this
  omega
theorem OwnPu.shape {B : Nat} {w : World} {a : Option Addr} {n cap : Nat} {ps : List (Int × Int × Int)} (h : OwnPu B w a n cap ps) (hn : 0 < n) : ∃ g, a = some ⟨g, 0, none⟩ ∧ B ≤ g ∧ g < w.heap.size := by
  rcases h.row.2 with ⟨_, h0⟩ | ⟨g, cap', cur, hv, hb, hg, _⟩
  · omega
  · simp only [Value.slice.injEq] at hv
    exact ⟨g, hv.1, hb, (Array.getElem?_eq_some_iff.1 hg).1⟩
theorem OwnPu.in_ {B : Nat} {w : World} {a : Option Addr} {n cap : Nat} {ps : List (Int × Int × Int)} (h : OwnPu B w a n cap ps) : In a n B w.heap.size := by
  intro b off ha hn
  obtain ⟨g, hg, h1, h2⟩ := h.shape hn
  rw [hg] at ha
  simp at ha
  omega
theorem OwnPu.toRow {B : Nat} {w : World} {a : Option Addr} {n cap : Nat} {ps : List (Int × Int × Int)} (h : OwnPu B w a n cap ps) : RowPu w a n ps := by
  refine ⟨h.len, fun k hk => ?_, h.rng⟩
  obtain ⟨g, rfl, _, hg⟩ := h.shape (by omega)
  have hf := flPu_get ps k (by rw [h.len]; exact hk)
  exact ⟨g, 0, rfl, hg, by rw [Nat.zero_add, h.row.cellAt _ (by omega)]; exact hf.1, by rw [Nat.zero_add, h.row.cellAt _ (by omega)]; exact hf.2.1, by rw [Nat.zero_add, h.row.cellAt _ (by omega)]; exact hf.2.2⟩
theorem OwnPu.kept {B : Nat} {w w' : World} {a : Option Addr} {n cap : Nat} {ps : List (Int × Int × Int)} (h : OwnPu B w a n cap ps) (hb : Below w.heap.size w w') : OwnPu B w' a n cap ps := ⟨ownsRow_below h.row hb, h.rng⟩
theorem OwnPu.mono {B B' : Nat} {w : World} {a : Option Addr} {n cap : Nat} {ps : List (Int × Int × Int)} (h : OwnPu B w a n cap ps) (hB : B' ≤ B) : OwnPu B' w a n cap ps :=
  ⟨⟨h.row.1, by rcases h.row.2 with h | ⟨g, cap, cur, hv, hb, r⟩; exact .inl h; exact .inr ⟨g, cap, cur, hv, by omega, r⟩⟩, h.rng⟩
theorem OwnPu.touch {lo hi p q B : Nat} {w w' : World} {a : Option Addr} {n cap : Nat} {ps : List (Int × Int × Int)} (h : OwnPu B w a n cap ps) (hi' : In a n p q) (hd : q ≤ lo ∨ hi ≤ p) (ht : Touch lo hi w w') (hn : 0 < n) : OwnPu B w' a n cap ps := by
  refine ⟨⟨h.row.1, ?_⟩, h.rng⟩
  rcases h.row.2 with hn' | ⟨g, cap', cur, hv, hbb, hgg, rest⟩
  · exact .inl hn'
  · simp only [Value.slice.injEq] at hv
    obtain ⟨rfl, _, rfl⟩ := hv
    have hp := hi' g 0 rfl hn
    exact .inr ⟨g, cap, cur, rfl, hbb, (ht.block g (Array.getElem?_eq_some_iff.1 hgg).1 (by omega)).trans hgg, rest⟩
theorem OwnPu.nil {B : Nat} {w : World} {a : Option Addr} {n cap : Nat} {ps : List (Int × Int × Int)} (h : OwnPu B w a n cap ps) : a = none → cap = 0 := by
  intro e
  subst e
  rcases h.row.2 with ⟨h0, _⟩ | ⟨g, cap', cur, hv, _⟩
  · simp only [Value.slice.injEq] at h0
    exact h0.2.2
  · simp at hv
theorem UPu.nil : UPu [] := by intro k; simp [U64]
theorem UPu.append {a b : List (Int × Int × Int)} (h : UPu a) (k : UPu b) : UPu (a ++ b) := by
  intro i
  by_cases hi : i < a.length
  · have e : (a ++ b).getD i (0, 0, 0) = a.getD i (0, 0, 0) := by rw [List.getD_eq_getElem?_getD, List.getElem?_append_left hi, ← List.getD_eq_getElem?_getD]
    rw [e]; exact h i
  · have e : (a ++ b).getD i (0, 0, 0) = b.getD (i - a.length) (0, 0, 0) := by simp [List.getElem?_append_right (Nat.le_of_not_lt hi)]
    rw [e]; exact k _
theorem UPu.set {a : List (Int × Int × Int)} (h : UPu a) (i : Nat) (u : Int × Int × Int) (hu : U64 u.2.1) : UPu (a.set i u) := by
  intro k
  by_cases e : i = k
  · subst e
    by_cases hl : i < a.length
    · have e2 : (a.set i u).getD i (0, 0, 0) = u := by simp [hl]
      rw [e2]; exact hu
    · have e2 : (a.set i u).getD i (0, 0, 0) = a.getD i (0, 0, 0) := by simp [List.set_eq_of_length_le (Nat.le_of_not_lt hl)]
      rw [e2]; exact h i
  · have e2 : (a.set i u).getD k (0, 0, 0) = a.getD k (0, 0, 0) := by simp [List.getElem?_set_ne e]
    rw [e2]; exact h k
theorem UPu.one {u : Int × Int × Int} (hu : U64 u.2.1) : UPu [u] := by
  intro k
  cases k with
  | zero => exact hu
  | succ k => simp [U64]
theorem ownPu_none (B : Nat) (w : World) : OwnPu B w none 0 0 [] := ⟨World.ownsRow_nil _ _ _ _, UPu.nil⟩
theorem ownPu_appended {B : Nat} {w : World} {v : Value} {m : Nat} {xs ys : List (Int × Int × Int)} (hx : UPu xs) (hy : UPu ys) (h : w.ownsRow B 36 3 v m (flPu xs ++ flPu ys)) : ∃ a cap, v = .slice a m cap ∧ OwnPu B w a m cap (xs ++ ys) := by
  rw [← flPu_append] at h
  rcases h.2 with ⟨rfl, rfl⟩ | ⟨g, cap, cur, rfl, _⟩
  · exact ⟨_, _, rfl, h, hx.append hy⟩
  · exact ⟨_, _, rfl, h, hx.append hy⟩
theorem Tryz.infoPu : (Tryz.prog.info? 36).map (fun i => (i.zero, i.size, i.bytes)) = some (some (.agg #[.int .i64 0, .int .u64 0, .int .i64 0]), 3, 24) := by kernel_rfl
theorem cell_onePu (w : World) (p : Int × Int × Int) : ∀ jj uu, (flPu [p])[jj]? = some uu → (w.alloc (.cells #[.int .i64 p.1, .int .u64 p.2.1, .int .i64 p.2.2] 36)).cell? ((⟨w.heap.size, 0, none⟩ : Addr).add jj) = some uu := by
  intro jj uu hju
  rw [Addr.add_lit, Nat.zero_add, cell_of_row _ w.heap.size jj _ 36 _ (heap_alloc_new w _), ← hju]
  simp [flPu]
theorem OwnPu.store {B : Nat} {w : World} {g n cap : Nat} {ps : List (Int × Int × Int)} (h : OwnPu B w (some ⟨g, 0, none⟩) n cap ps) (k : Nat) (hk : k < n) (u : Int × Int × Int) (hu : U64 u.2.1) :
    OwnPu B (((w.setCell ⟨g, k * 3, none⟩ (.int .i64 u.1)).setCell ⟨g, k * 3 + 1, none⟩ (.int .u64 u.2.1)).setCell ⟨g, k * 3 + 2, none⟩ (.int .i64 u.2.2)) (some ⟨g, 0, none⟩) n cap (ps.set k u) := by
  refine ⟨?_, h.rng.set k u hu⟩
  have := (((h.row.stored (k * 3) (.int .i64 u.1)).1.stored (k * 3 + 1) (.int .u64 u.2.1)).1.stored (k * 3 + 2) (.int .i64 u.2.2)).1
  rwa [flPu_set ps k u (by rw [h.len]; exact hk)] at this
def aggPu (p : Int × Int × Int) : Value := .agg #[.int .i64 p.1, .int .u64 p.2.1, .int .i64 p.2.2]

set_option maxRecDepth 10000 in
set_option maxHeartbeats 400000 in
theorem eqPu_same (p : Int × Int × Int) (w : World) :
    Calls Tryz.prog 32 #[aggPu p, aggPu p] w fun e w' => e = .returned (.bool true) ∧ Below w.heap.size w w' := by
  obtain ⟨a0, a1, a2⟩ := p
  unfold aggPu
  have z0 : (a0 != a0) = false := by simp
  have z1 : (a1 != a1) = false := by simp
  have z2 : (a2 != a2) = false := by simp
  go_enter Tryz.func32, Tryz.ntmps32
  go_wp2
  go_ret
  exact ⟨rfl, ((Below.refl _ _).alloc (Nat.le_refl _) _).alloc (by simp) _⟩

set_option maxRecDepth 10000 in
set_option maxHeartbeats 2000000 in
theorem eqPuS_same (a b : Option Addr) (n ca cb : Nat) (ps : List (Int × Int × Int)) (w : World) (hx : RowPu w a n ps) (hy : RowPu w b n ps) (hn : n ≤ 9223372036854775807) :
    Calls Tryz.prog 15 #[.slice a n ca, .slice b n cb] w fun e w' => e = .returned (.bool true) ∧ Below w.heap.size w w' := by
  have HX : Hid (RowPu w a n ps) := hx
  have HY : Hid (RowPu w b n ps) := hy
  clear hx hy
  have zn : ((n : Int) != (n : Int)) = false := by simp
  go_enter Tryz.func15, Tryz.ntmps15
  go_wp2
  go_loopw [5] (fun i wr => ∃ k : Nat, k ≤ n ∧ i = .int .i64 k ∧ Below w.heap.size w wr) (fun i _ => n - (intOf i).toNat)
  case atStart => exact ⟨0, Nat.zero_le _, rfl, Below.refl _ _⟩
  case round =>
    obtain ⟨k, hk, rfl, hbr⟩ := hrel
    by_cases hlt : k < n
    · obtain ⟨b1, o1, rfl, hl1, x0, x1, x2⟩ := (HX.out.kept hbr).get k hlt
      obtain ⟨b2, o2, rfl, hl2, y0, y1, y2⟩ := (HY.out.kept hbr).get k hlt
      obtain ⟨q, hq⟩ : ∃ q, q = ps.getD k (0, 0, 0) := ⟨_, rfl⟩
      rw [← hq] at x0 x1 x2 y0 y1 y2
      clear hq
      have hlti : (k : Int) < (n : Int) := by omega
      go_wp2_with fail
      have EQ : Hid (Calls Tryz.prog 32 #[aggPu q, aggPu q] wr.drew fun e w' => e = .returned (.bool true) ∧ Below wr.drew.heap.size wr.drew w') := eqPu_same q wr.drew
      unfold aggPu at EQ
      have e0 : wr.drew.cell? ⟨b1, o1 + k * 3, none⟩ = some (.int .i64 q.1) := x0
      go_region_with ((go_at_call 32; refine Calls.mono EQ.out ?_; rintro e w2 ⟨rfl, hb2⟩))
      all_goals
        go_wp2
        go_roundw
        case rel => exact ⟨k + 1, by omega, by go_num, keepT hbr.drew hb2⟩
        case measure => simp [intOf]; omega
    · go_wp2
      go_ret
      exact ⟨rfl, hbr⟩

def Pre_Pu (vs : List Value) (ps : List (Int × Int × Int)) (k : Nat) : Prop := ∀ j, j < k → vs[j * 3]? = some (.int .i64 (ps.getD j (0, 0, 0)).1) ∧ vs[j * 3 + 1]? = some (.int .u64 (ps.getD j (0, 0, 0)).2.1) ∧ vs[j * 3 + 2]? = some (.int .i64 (ps.getD j (0, 0, 0)).2.2)
theorem Pre_Pu.set {vs : List Value} {ps : List (Int × Int × Int)} {k : Nat} (h : Pre_Pu vs ps k) (hv : k * 3 + 2 < vs.length) : Pre_Pu (((vs.set (k * 3) (.int .i64 (ps.getD k (0, 0, 0)).1)).set (k * 3 + 1) (.int .u64 (ps.getD k (0, 0, 0)).2.1)).set (k * 3 + 2) (.int .i64 (ps.getD k (0, 0, 0)).2.2)) ps (k + 1) := by
  intro j hj
  by_cases e : j = k
  · subst e
    exact ⟨by simp [List.getElem?_set]; omega, by simp [List.getElem?_set]; omega, by simp [List.getElem?_set]; omega⟩
  · have := h j (by omega)
    exact ⟨by simp only [List.getElem?_set]; rw [if_neg (by omega)]; rw [if_neg (by omega)]; rw [if_neg (by omega)]; exact this.1, by simp only [List.getElem?_set]; rw [if_neg (by omega)]; rw [if_neg (by omega)]; rw [if_neg (by omega)]; exact this.2.1, by simp only [List.getElem?_set]; rw [if_neg (by omega)]; rw [if_neg (by omega)]; rw [if_neg (by omega)]; exact this.2.2⟩
theorem Pre_Pu.all {vs : List Value} {ps : List (Int × Int × Int)} {n : Nat} (h : Pre_Pu vs ps n) (hv : vs.length = n * 3) (hl : ps.length = n) : vs = flPu ps := by
  apply List.ext_getElem?
  intro i
  by_cases hi : i < n * 3
  · have hk : i / 3 < n := by omega
    have h1 := h (i / 3) hk
    have h2 := flPu_get ps (i / 3) (by omega)
    rcases (show i = i / 3 * 3 ∨ i = i / 3 * 3 + 1 ∨ i = i / 3 * 3 + 2 by omega) with e | e | e
    · rw [e, h1.1, h2.1]
    · rw [e, h1.2.1, h2.2.1]
    · rw [e, h1.2.2, h2.2.2]
  · rw [List.getElem?_eq_none (by omega), List.getElem?_eq_none (by rw [flPu_len]; omega)]

theorem results_Pu {fn : Func} {t : Tmp} (h : fn.results = #[.cell t 36]) (tmps : Array Value) (g : Nat) (ht : tmps.getD t undef = .pointer (some ⟨g, 0, none⟩)) (w : World) (p : Int × Int × Int)
    (hb : w.heap[g]? = some (.cells #[.int .i64 p.1, .int .u64 p.2.1, .int .i64 p.2.2] 36 (0, 0))) : (results fn tmps).run Tryz.prog w = .ok (aggPu p) w := by
  have d0 : w.cell? ⟨g, 0, none⟩ = some (.int .i64 p.1) := (cell_of_row _ g 0 _ 36 (0, 0) hb).trans rfl
  have d1 : w.cell? ⟨g, 1, none⟩ = some (.int .u64 p.2.1) := (cell_of_row _ g 1 _ 36 (0, 0) hb).trans rfl
  have d2 : w.cell? ⟨g, 2, none⟩ = some (.int .i64 p.2.2) := (cell_of_row _ g 2 _ 36 (0, 0) hb).trans rfl
  clear hb
  have ht' : tmps[t]?.getD undef = .pointer (some ⟨g, 0, none⟩) := by rw [← ht]; simp
  simp [results, h, go_sem, ht', d0, d1, d2, aggPu]

set_option maxRecDepth 10000 in
set_option maxHeartbeats 1000000 in
theorem toPu_any (p : Int × Int × Int) (w : World) :
    Calls Tryz.prog 9 #[aggPu p] w fun e w' => e = .returned (aggPu p) ∧ Below w.heap.size w w' := by
  have s1 : (w.alloc (.cells #[.int .i64 p.1, .int .u64 p.2.1, .int .i64 p.2.2] 27)).heap.size = w.heap.size + 1 := by simp
  have HB1 : Hid (((((w.alloc (.cells #[.int .i64 p.1, .int .u64 p.2.1, .int .i64 p.2.2] 27)).alloc (.cells #[.int .i64 p.1, .int .u64 p.2.1, .int .i64 p.2.2] 36)).alloc (.cells #[.int .i64 p.1, .int .u64 p.2.1, .int .i64 p.2.2] 36))).heap[w.heap.size + 1]? = some (.cells #[.int .i64 p.1, .int .u64 p.2.1, .int .i64 p.2.2] 36)) := by
    show _ = _
    exact (heap_alloc_old _ _ (by simp)).trans (by rw [← s1]; exact heap_alloc_new _ _)
  clear s1
  rw [aggPu]
  go_enter Tryz.func9, Tryz.ntmps9
  go_wp2
  try simp only [Exit.inBlock, Exit.then]
  exact bodyPost_ret (results_Pu rfl _ (w.heap.size + 1) rfl _ p HB1.out) rfl ⟨rfl, (((Below.refl _ _).alloc (Nat.le_refl _) _).alloc (by simp) _).alloc (by simp; omega) _⟩

set_option maxRecDepth 10000 in
set_option maxHeartbeats 2000000 in
theorem toPuS_any (a : Option Addr) (n c : Nat) (ps : List (Int × Int × Int)) (w : World) (h : RowPu w a n ps) (hn : n ≤ 1048576) :
    Calls Tryz.prog 11 #[.slice a n c] w fun e w' => ∃ ar, e = .returned (.slice ar n n) ∧ OwnPu w.heap.size w' ar n n ps ∧ Below w.heap.size w w' := by
  obtain ⟨i0, hi, hz0, hz1, hz2⟩ := info_parts Tryz.infoPu
  have H0 : Hid (RowPu w a n ps) := h
  have HL : Hid (ps.length = n) := h.len
  have HR : Hid (UPu ps) := h.rng
  clear h
  go_enter Tryz.func11, Tryz.ntmps11
  go_wp2_with (first | (at_make; refine wpList_make_full _ rfl _ _ 40 rfl w.heap.size 36 i0 _ 3 Tryz.underlying40 hi hz0 hz1 _ _ _ _ n rfl rfl rfl rfl (by rw [hz2]; omega) (by unfold maxLen; omega) (by exact Nat.le_refl _) ?_; intro w2 hown hgrow))
  have hbl : Below w.heap.size w w2 := (Below.refl _ _).grown hgrow (Nat.le_refl _) (by simp)
  clear hgrow hi hz0 hz1 hz2
  go_loopw [4] (fun i wr => ∃ k : Nat, k ≤ n ∧ i = .int .i64 k ∧ (∃ vs, wr.ownsRow w.heap.size 36 3 (.slice (some ⟨w.heap.size, 0, none⟩) n n) n vs ∧ Pre_Pu vs ps k) ∧ Below w.heap.size w wr) (fun i _ => n - (intOf i).toNat)
  case atStart => exact ⟨0, Nat.zero_le _, rfl, ⟨_, hown, fun j hj => absurd hj (Nat.not_lt_zero _)⟩, hbl⟩
  case round =>
    obtain ⟨k, hk, rfl, ⟨vs, hor, hpre⟩, hbr⟩ := hrel
    by_cases hkn : k < n
    · obtain ⟨b, off, rfl, hlb, x0, x1, x2⟩ := (H0.out.kept hbr).get k hkn
      obtain ⟨p, hp⟩ : ∃ p, p = ps.getD k (0, 0, 0) := ⟨_, rfl⟩
      rw [← hp] at x0 x1 x2
      have HP : Hid (ps.getD k (0, 0, 0) = p) := hp.symm
      have hkni : (k : Int) < (n : Int) := by omega
      have HPRE : Hid (Pre_Pu vs ps k) := hpre
      have HOR : Hid (wr.ownsRow w.heap.size 36 3 (.slice (some ⟨w.heap.size, 0, none⟩) n n) n vs) := hor
      have hws := hbr.size
      have TO := fun W => toPu_any p W
      unfold aggPu at TO
      clear hp hpre hor hown hbl
      go_wp2_with fail
      refine (TO _).mono ?_
      rintro e w3 ⟨rfl, hb3⟩
      have hor3 := ownsRow_below HOR.out hb3
      have hvl : vs.length = n * 3 := hor3.1
      have f0 : w3.frozen? ⟨w.heap.size, k * 3, none⟩ = false := hor3.frozenAt _
      have f1 : w3.frozen? ⟨w.heap.size, k * 3 + 1, none⟩ = false := hor3.frozenAt _
      have f2 : w3.frozen? ⟨w.heap.size, k * 3 + 2, none⟩ = false := hor3.frozenAt _
      obtain ⟨y0, hy0⟩ : ∃ y, w3.cell? ⟨w.heap.size, k * 3, none⟩ = some y := ⟨_, (hor3.cellAt _ (by omega)).trans (List.getElem?_eq_getElem (by omega))⟩
      obtain ⟨y1, hy1⟩ : ∃ y, w3.cell? ⟨w.heap.size, k * 3 + 1, none⟩ = some y := ⟨_, (hor3.cellAt _ (by omega)).trans (List.getElem?_eq_getElem (by omega))⟩
      obtain ⟨y2, hy2⟩ : ∃ y, w3.cell? ⟨w.heap.size, k * 3 + 2, none⟩ = some y := ⟨_, (hor3.cellAt _ (by omega)).trans (List.getElem?_eq_getElem (by omega))⟩
      have hP := HPRE.out.set (by omega)
      rw [HP.out] at hP
      have hO := (((hor3.stored (k * 3) (.int .i64 p.1)).1.stored (k * 3 + 1) (.int .u64 p.2.1)).1.stored (k * 3 + 2) (.int .i64 p.2.2)).1
      have hB : Below w.heap.size w (((w3.setCell ⟨w.heap.size, k * 3, none⟩ (.int .i64 p.1)).setCell ⟨w.heap.size, k * 3 + 1, none⟩ (.int .u64 p.2.1)).setCell ⟨w.heap.size, k * 3 + 2, none⟩ (.int .i64 p.2.2)) := ((((keepT hbr hb3).setCell (Nat.le_refl _) _).setCell (Nat.le_refl _) _).setCell (Nat.le_refl _) _)
      have FIN : Hid (_ ∧ _ ∧ _) := ⟨hO, hP, hB⟩
      clear hP hO hB hor3 hb3 hbr HPRE HOR TO
      go_wp2
      go_roundw
      case rel => exact ⟨k + 1, by omega, by go_num, ⟨_, FIN.out.1, FIN.out.2.1⟩, FIN.out.2.2⟩
      case measure => simp [intOf]; omega
    · obtain rfl : k = n := by omega
      have hvs := hpre.all hor.1 HL.out
      rw [hvs] at hor
      have FIN : Hid (OwnPu w.heap.size wr (some ⟨w.heap.size, 0, none⟩) k k ps ∧ Below w.heap.size w wr) := ⟨⟨hor, HR.out⟩, hbr⟩
      clear hor hpre hbr hvs hown hbl
      go_wp2
      go_ret
      exact ⟨_, rfl, FIN.out.1, FIN.out.2⟩

set_option maxRecDepth 10000 in
set_option maxHeartbeats 1000000 in
theorem szPuS_any (a : Option Addr) (n c : Nat) (l : Int) (w : World) (hn : n ≤ 9223372036854775807) (h0 : 0 ≤ l) (h1 : l ≤ 1048576) :
    Calls Tryz.prog 6 #[.slice a n c, .int .i64 l] w fun e w' => e = .returned (.int .i64 (if l < n then -1 else l - n)) ∧ w' = w := by
  by_cases hlt : l < n
  · have h' : l - (n : Int) < 0 := by omega
    rw [if_pos hlt]
    go_enter Tryz.func6, Tryz.ntmps6
    go_wp2
    go_ret
    exact ⟨rfl, rfl⟩
  · have h' : 0 ≤ l - (n : Int) := by omega
    rw [if_neg hlt]
    go_enter Tryz.func6, Tryz.ntmps6
    go_wp2
    go_ret
    exact ⟨rfl, rfl⟩

theorem touch_onePu {p q : Nat} (w : World) (g j : Nat) (u : Value) (h1 : p ≤ g) (h2 : g < q) : Touch p q w (w.setCell ⟨g, j, none⟩ u) :=
  ⟨rfl, rfl, rfl, by simp, fun k _ hk => heap_setCell_other w ⟨g, j, none⟩ k u (by simp; omega)⟩
def mkPu (k i : Nat) : Int × Int × Int := (((k + 3 * i : Nat) : Int), ((k + 3 * i + 1 : Nat) : Int), ((k + 3 * i + 2 : Nat) : Int))
def marksPu (k n : Nat) : List (Int × Int × Int) := (List.range n).map (mkPu k)
def mkdPu (ps : List (Int × Int × Int)) (k j : Nat) : List (Int × Int × Int) := marksPu k j ++ ps.drop j
theorem mkdPu_zero (ps : List (Int × Int × Int)) (k : Nat) : mkdPu ps k 0 = ps := by simp [mkdPu, marksPu]
theorem mkdPu_all (ps : List (Int × Int × Int)) (k : Nat) : mkdPu ps k ps.length = marksPu k ps.length := by simp [mkdPu]
theorem mkdPu_set (ps : List (Int × Int × Int)) (k j : Nat) (h : j < ps.length) : (mkdPu ps k j).set j (mkPu k j) = mkdPu ps k (j + 1) := by
  unfold mkdPu
  rw [List.drop_eq_getElem_cons h, set_append_mid _ _ _ _ _ (by simp [marksPu]), show marksPu k (j + 1) = marksPu k j ++ [mkPu k j] by simp [marksPu, List.range_succ], List.append_assoc]
  rfl
theorem marksPu_get (k n i : Nat) (h : i < n) : (marksPu k n).getD i (0, 0, 0) = mkPu k i := by simp [marksPu, h]

end Go.Proofs.YtambgfmipfmkdaaGreat

namespace Go.Proofs.YtambgfmipfmkdaaGreat
open Go.RowKit

theorem Row64.take {w : World} {a : Option Addr} {n : Nat} {zs : List Int} (h : Row64 w a n zs) (k : Nat) (hk : k ≤ n) : Row64 w a k (zs.take k) := by
  refine ⟨by rw [List.length_take, h.len]; omega, fun j hj => ?_⟩
  obtain ⟨b, off, ha, hb, hc⟩ := h.get j (by omega)
  exact ⟨b, off, ha, hb, hc.trans (by simp [hj])⟩
theorem mem_next (zs : List Int) (k : Nat) (h : k < zs.length) (x : Int) : x ∈ zs.take (k + 1) ↔ x ∈ zs.take k ∨ x = zs.getD k 0 := by
  have e : zs.getD k 0 = zs[k] := by simp [h]
  rw [List.take_succ_eq_append_getElem h, List.mem_append, List.mem_singleton, e]
theorem mem_all (zs : List Int) (k : Nat) (h : zs.length ≤ k) : zs.take k = zs := List.take_of_length_le h
theorem getD_mem (zs : List Int) (k : Nat) (h : k < zs.length) : zs.getD k 0 ∈ zs := by
  have e : zs.getD k 0 = zs[k] := by simp [h]
  rw [e]; exact List.getElem_mem h

/-- No number stands twice. -/
def unl (zs : List Int) : Prop := ∀ j, j < zs.length → zs.getD j 0 ∉ zs.take j
instance (zs : List Int) : Decidable (unl zs) := by unfold unl; infer_instance

def lenOf : Value → Nat
  | .slice _ n _ => n
  | _ => 0

end Go.Proofs.YtambgfmipfmkdaaGreat

namespace Go.Proofs.YtambgfmipfmkdaaGreat
open Go.RowKit

/-- What is signed of a head. -/
def lOf (x : HP) : List Int := (enc 12 (hdI 6 x.lg x.sz x.rt x.at2)).getD []
theorem lOf_enc (x : HP) : enc 12 (hdI 6 x.lg x.sz x.rt x.at2) = some (lOf x) ∧ (lOf x).length ≤ 1000 := by
  obtain ⟨l, h1, h2⟩ := hdI_enc 6 x.lg x.sz x.rt x.at2 (by decide) (by decide)
  unfold lOf
  rw [h1]
  exact ⟨rfl, h2⟩
/-- Whether a head is signed. -/
def sgB (sc y hh : Int) (x : HP) : Bool := hsR x.lg x.sz x.rt x.at2 sc y hh (lOf x) x.sg
/-- Whether two heads tell unlike things. -/
def ctB (x z : HP) : Bool := decide (x.lg = z.lg) && decide (x.sz = z.sz) && !decide (x.rt = z.rt)
def fkB (sc y hh : Int) (xs : List HP) (i k : Nat) : Bool := sgB sc y hh (xs.getD i default) && sgB sc y hh (xs.getD k default) && ctB (xs.getD i default) (xs.getD k default)
/-- The first two that are so. -/
def FkR (f : Nat → Nat → Bool) (n : Nat) (i k : Int) (ok : Bool) : Prop :=
  (n ≤ 20 ∧ ok = true ∧ ∃ p q : Nat, i = p ∧ k = q ∧ p < q ∧ q < n ∧ f p q = true ∧ ∀ a b, a < b → b < n → (a < p ∨ (a = p ∧ b < q)) → f a b = false) ∨ (ok = false ∧ i = 0 ∧ k = 0 ∧ (20 < n ∨ ∀ a b, a < b → b < n → f a b = false))
theorem FkR.eq {f : Nat → Nat → Bool} {n : Nat} {i k i' k' : Int} {ok ok' : Bool} (h : FkR f n i k ok) (h' : FkR f n i' k' ok') : i = i' ∧ k = k' ∧ ok = ok' := by
  rcases h with ⟨hn, rfl, p, q, rfl, rfl, h1, h2, h3, h4⟩ | ⟨rfl, rfl, rfl, h4⟩
  · rcases h' with ⟨_, rfl, p', q', rfl, rfl, g1, g2, g3, g4⟩ | ⟨rfl, rfl, rfl, g4⟩
    · by_cases e : p = p' ∧ q = q'
      · obtain ⟨rfl, rfl⟩ := e; exact ⟨rfl, rfl, rfl⟩
      · by_cases l : p < p' ∨ (p = p' ∧ q < q')
        · have := g4 p q h1 h2 l; rw [h3] at this; cases this
        · have := h4 p' q' g1 g2 (by omega); rw [g3] at this; cases this
    · rcases g4 with g4 | g4
      · omega
      · have := g4 p q h1 h2; rw [h3] at this; cases this
  · rcases h' with ⟨hn, rfl, p', q', rfl, rfl, g1, g2, g3, g4⟩ | ⟨rfl, rfl, rfl, g4⟩
    · rcases h4 with h4 | h4
      · omega
      · have := h4 p' q' g1 g2; rw [g3] at this; cases this
    · exact ⟨rfl, rfl, rfl⟩
/-- A Pub in its box. -/
structure PubB (w : World) (g : Nat) (sc y hh : Int) : Prop where
  lt : g < w.heap.size
  c0 : w.cell? ⟨g, 0, none⟩ = some (.int .i64 sc)
  c1 : w.cell? ⟨g, 1, none⟩ = some (.int .u64 y)
  c2 : w.cell? ⟨g, 2, none⟩ = some (.int .i64 hh)
theorem PubB.kept {w w' : World} {g : Nat} {sc y hh : Int} (h : PubB w g sc y hh) (hb : Below w.heap.size w w') : PubB w' g sc y hh :=
  ⟨Nat.lt_of_lt_of_le h.lt hb.size, (hb.cell (p := ⟨g, 0, none⟩) h.lt).trans h.c0, (hb.cell (p := ⟨g, 1, none⟩) h.lt).trans h.c1, (hb.cell (p := ⟨g, 2, none⟩) h.lt).trans h.c2⟩
theorem implSigned_hp (x : HP) (a : Option Addr) (n c : Nat) (sc y hh : Int) (w : World) (h3 : U64 x.rt) (hy : U64 y) (hg : Row w a n x.sg) (hng : n ≤ 1048576) (hcg : n ≤ c) :
    Calls Tryz.prog 26 #[.agg #[.int .i64 x.lg, .int .i64 x.sz, .int .u64 x.rt, .int .i64 x.at2, .slice a n c], .agg #[.int .i64 sc, .int .u64 y, .int .i64 hh]] w fun e w' => e = .returned (.bool (sgB sc y hh x)) ∧ Below w.heap.size w w' := implHeadSigned_any x.lg x.sz x.rt x.at2 a n c x.sg sc y hh (lOf x) w h3 hy hg hng hcg (lOf_enc x).1 (lOf_enc x).2
theorem specSigned_hp (x : HP) (a : Option Addr) (n c : Nat) (sc y hh : Int) (w : World) (h3 : U64 x.rt) (hy : U64 y) (hg : Row w a n x.sg) (hng : n ≤ 1048576) (hcg : n ≤ c) :
    Calls Tryz.prog 18 #[.agg #[.int .i64 x.lg, .int .i64 x.sz, .int .u64 x.rt, .int .i64 x.at2, .slice a n c], .agg #[.int .i64 sc, .int .u64 y, .int .i64 hh]] w fun e w' => e = .returned (.bool (sgB sc y hh x)) ∧ Below w.heap.size w w' := specHeadSigned_any x.lg x.sz x.rt x.at2 a n c x.sg sc y hh (lOf x) w h3 hy hg hng hcg (lOf_enc x).1 (lOf_enc x).2

theorem Tryz.infoBl : (Tryz.prog.info? 4).map (fun i => (i.zero, i.size, i.bytes)) = some (some (.bool false), 1, 1) := by kernel_rfl
theorem blOne (bs : List Bool) : ∀ u ∈ bs.map Value.bool, u.oneCell' = true := by
  intro u hu
  obtain ⟨b, _, rfl⟩ := List.mem_map.1 hu
  rfl
theorem blShape {w : World} {B n : Nat} {v : Value} {xs : List Value} (h : w.ownsRow B 4 1 v n xs) : ∃ a c, v = .slice a n c := by
  rcases h.2 with ⟨rfl, rfl⟩ | ⟨g, cap, cur, rfl, _⟩
  · exact ⟨_, _, rfl⟩
  · exact ⟨_, _, rfl⟩
theorem cell_oneBl (w : World) (q : Bool) : ∀ j u, ([q].map Value.bool)[j]? = some u → (w.alloc (.cells #[.bool q] 4)).cell? ((⟨w.heap.size, 0, none⟩ : Addr).add j) = some u := cell_one_new w (.bool q) 4
/-- A row of flags. -/
structure RowB (w : World) (a : Option Addr) (n : Nat) (bs : List Bool) : Prop where
  get : ∀ k, k < n → ∃ b off, a = some ⟨b, off, none⟩ ∧ b < w.heap.size ∧ w.cell? ⟨b, off + k, none⟩ = some (.bool (bs.getD k false))
theorem RowB.kept {w w' : World} {a : Option Addr} {n : Nat} {bs : List Bool} (h : RowB w a n bs) (hb : Below w.heap.size w w') : RowB w' a n bs := by
  refine ⟨fun k hk => ?_⟩
  obtain ⟨b, off, ha, hl, hc⟩ := h.get k hk
  exact ⟨b, off, ha, Nat.lt_of_lt_of_le hl hb.size, (hb.cell (p := ⟨b, off + k, none⟩) hl).trans hc⟩
theorem rowB_of {w : World} {B n c : Nat} {a : Option Addr} {bs : List Bool} (h : w.ownsRow B 4 1 (.slice a n c) n (bs.map Value.bool)) : RowB w a n bs := by
  refine ⟨fun k hk => ?_⟩
  have hl : bs.length = n := by have := h.1; simpa using this
  rcases h.2 with ⟨_, h0⟩ | ⟨g, cap', cur, hv, hb, hg, _⟩
  · omega
  · simp only [Value.slice.injEq] at hv
    obtain ⟨rfl, _, _⟩ := hv
    refine ⟨g, 0, rfl, (Array.getElem?_eq_some_iff.1 hg).1, ?_⟩
    rw [Nat.zero_add, World.ownsRow.cellAt h k (by omega)]
    have hk2 : k < bs.length := by omega
    simp [hk2]

end Go.Proofs.YtambgfmipfmkdaaGreat

