import Derived.Test.YtaiflnccpgcklaaDoorS1
namespace Go.Proofs.YtaiflnccpgcklaaDoor
open Go.RowKit

theorem Tryd.infoSType : (Tryd.prog.info? 35).map (fun i => (i.zero, i.size, i.bytes)) = some (some (.agg #[.int .i64 0, .int .i64 0, .int .i64 0, .bool false, .bool false, .slice none 0 0]), 6, 56) := by kernel_rfl

theorem alloc_old (w : World) (o : Obj) (g : Nat) (hg : g < w.heap.size) : (w.alloc o).heap[g]? = w.heap[g]? := ((Below.refl w.heap.size w).alloc (Nat.le_refl _) o).block g hg
theorem three_blocks (w : World) (o0 o1 o2 : Obj) : (((w.alloc o0).alloc o1).alloc o2).heap[w.heap.size]? = some o0 ∧ (((w.alloc o0).alloc o1).alloc o2).heap[w.heap.size + 1]? = some o1 ∧ (((w.alloc o0).alloc o1).alloc o2).heap[w.heap.size + 2]? = some o2 := by
  have s1 : (w.alloc o0).heap.size = w.heap.size + 1 := by simp
  have s2 : ((w.alloc o0).alloc o1).heap.size = w.heap.size + 2 := by simp
  exact ⟨(alloc_old _ o2 _ (by omega)).trans ((alloc_old _ o1 _ (by omega)).trans (heap_alloc_new w o0)), (alloc_old _ o2 _ (by omega)).trans (by rw [← s1]; exact heap_alloc_new _ o1), by rw [← s2]; exact heap_alloc_new _ o2⟩
theorem touch_set {p q : Nat} (w : World) (g j : Nat) (u : Value) (h1 : p ≤ g) (h2 : g < q) : Touch p q w (w.setCell ⟨g, j, none⟩ u) :=
  ⟨rfl, rfl, rfl, by simp, fun k _ hk => heap_setCell_other w ⟨g, j, none⟩ k u (by simp; omega)⟩
theorem heap_kept {B : Nat} {w w' : World} (h : Below B w w') {g : Nat} (hg : g < B) {o : Obj} (e : w.heap[g]? = some o) : w'.heap[g]? = some o := (h.block g hg).trans e

theorem results_st {fn : Func} {t : Tmp} (h : fn.results = #[.cell t 35]) (tmps : Array Value) (g : Nat) (ht : tmps.getD t undef = .pointer (some ⟨g, 0, none⟩)) (w : World) (c0 c1 c2 c3 c4 c5 : Value)
    (hb : w.heap[g]? = some (.cells #[c0, c1, c2, c3, c4, c5] 35 (0, 0))) : (results fn tmps).run Tryd.prog w = .ok (.agg #[c0, c1, c2, c3, c4, c5]) w := by
  have d0 : w.cell? ⟨g, 0, none⟩ = some c0 := (cell_of_row _ g 0 _ 35 (0, 0) hb).trans rfl
  have d1 : w.cell? ⟨g, 1, none⟩ = some c1 := (cell_of_row _ g 1 _ 35 (0, 0) hb).trans rfl
  have d2 : w.cell? ⟨g, 2, none⟩ = some c2 := (cell_of_row _ g 2 _ 35 (0, 0) hb).trans rfl
  have d3 : w.cell? ⟨g, 3, none⟩ = some c3 := (cell_of_row _ g 3 _ 35 (0, 0) hb).trans rfl
  have d4 : w.cell? ⟨g, 4, none⟩ = some c4 := (cell_of_row _ g 4 _ 35 (0, 0) hb).trans rfl
  have d5 : w.cell? ⟨g, 5, none⟩ = some c5 := (cell_of_row _ g 5 _ 35 (0, 0) hb).trans rfl
  clear hb
  have ht' : tmps[t]?.getD undef = .pointer (some ⟨g, 0, none⟩) := by rw [← ht]; simp
  simp [results, h, go_sem, ht', d0, d1, d2, d3, d4, d5]

/-- A variable that holds a type. -/
structure BoxS (t g : Nat) (W : World) (x : ST) (a : Option Addr) (n c : Nat) : Prop where
  heap : W.heap[g]? = some (.cells #[.int .i64 x.kind, .int .i64 x.lo, .int .i64 x.hi, .bool x.ext, .bool x.opt, .slice a n c] t (0, 0))
theorem BoxS.cells {t g : Nat} {W : World} {x : ST} {a : Option Addr} {n c : Nat} (h : BoxS t g W x a n c) : Cells6 W g 0 x a n c :=
  ⟨(cell_of_row _ g 0 _ t (0, 0) h.heap).trans rfl, (cell_of_row _ g 1 _ t (0, 0) h.heap).trans rfl, (cell_of_row _ g 2 _ t (0, 0) h.heap).trans rfl, (cell_of_row _ g 3 _ t (0, 0) h.heap).trans rfl, (cell_of_row _ g 4 _ t (0, 0) h.heap).trans rfl, (cell_of_row _ g 5 _ t (0, 0) h.heap).trans rfl⟩
theorem BoxS.kept {t g : Nat} {W W' : World} {x : ST} {a : Option Addr} {n c : Nat} (h : BoxS t g W x a n c) (hb : Below W.heap.size W W') : BoxS t g W' x a n c := ⟨(hb.block _ (Array.getElem?_eq_some_iff.1 h.heap).1).trans h.heap⟩
theorem boxS_new (t : Nat) (w : World) (x : ST) (a : Option Addr) (n c : Nat) : BoxS t w.heap.size (w.alloc (.cells #[.int .i64 x.kind, .int .i64 x.lo, .int .i64 x.hi, .bool x.ext, .bool x.opt, .slice a n c] t)) x a n c := ⟨heap_alloc_new w _⟩
theorem BoxS.lt {t g : Nat} {W : World} {x : ST} {a : Option Addr} {n c : Nat} (h : BoxS t g W x a n c) : g < W.heap.size := (Array.getElem?_eq_some_iff.1 h.heap).1

set_option maxHeartbeats 1000000 in
theorem toSType_any (x : ST) (a : Option Addr) (n c : Nat) (w : World) (hr : Row64 w a n x.kids) (hn : n ≤ 1048576) :
    Calls Tryd.prog 13 #[stv x a n c] w fun e w' => ∃ a' hi, e = .returned (stv x a' n n) ∧ Own64 (w.heap.size + 1) hi w' a' n n x.kids ∧ Below w.heap.size w w' := by
  have HR : Hid (Row64 w a n x.kids) := hr
  clear hr
  unfold stv
  go_enter Tryd.func13, Tryd.ntmps13
  go_wp2_with fail
  obtain ⟨W0, hW0⟩ : ∃ W0, W0 = (((w.alloc (.cells #[.int .i64 x.kind, .int .i64 x.lo, .int .i64 x.hi, .bool x.ext, .bool x.opt, .slice a n c] 33)).alloc (.cells #[.int .i64 0, .int .i64 0, .int .i64 0, .bool false, .bool false, .slice none 0 0] 35)).alloc (.cells #[.int .i64 x.kind, .int .i64 x.lo, .int .i64 x.hi, .bool x.ext, .bool x.opt, .slice none 0 0] 35)) := ⟨_, rfl⟩
  have hB0 : Below w.heap.size w W0 := by rw [hW0]; exact (((Below.refl _ _).alloc (Nat.le_refl _) _).alloc (by simp) _).alloc (by simp; omega) _
  have hS0 : W0.heap.size = w.heap.size + 3 := by rw [hW0]; simp
  obtain ⟨b0, b1, b2⟩ := three_blocks w (.cells #[.int .i64 x.kind, .int .i64 x.lo, .int .i64 x.hi, .bool x.ext, .bool x.opt, .slice a n c] 33) (.cells #[.int .i64 0, .int .i64 0, .int .i64 0, .bool false, .bool false, .slice none 0 0] 35) (.cells #[.int .i64 x.kind, .int .i64 x.lo, .int .i64 x.hi, .bool x.ext, .bool x.opt, .slice none 0 0] 35)
  rw [← hW0] at b0 b1 b2 ⊢
  clear hW0
  refine (toInt64S_any a n c x.kids _ (HR.out.kept hB0) hn).mono ?_
  rintro e w1 ⟨a1, rfl, ho1, hb1⟩
  have hs1 := hb1.size
  replace b1 := heap_kept hb1 (by omega) b1
  replace b2 := heap_kept hb1 (by omega) b2
  have hB1 : Below w.heap.size w w1 := hB0.trans (hb1.mono (by omega))
  have cr (j : Nat) (v : Value) (hv : (#[Value.int .i64 x.kind, .int .i64 x.lo, .int .i64 x.hi, .bool x.ext, .bool x.opt, .slice none 0 0] : Array Value)[j]? = some v) : w1.cell? ⟨w.heap.size + 1 + 1, j, none⟩ = some v := (cell_of_row _ (w.heap.size + 1 + 1) j _ 35 (0, 0) b2).trans hv
  have cs (j : Nat) (v : Value) (hv : (#[Value.int .i64 0, .int .i64 0, .int .i64 0, .bool false, .bool false, .slice none 0 0] : Array Value)[j]? = some v) : w1.cell? ⟨w.heap.size + 1, j, none⟩ = some v := (cell_of_row _ (w.heap.size + 1) j _ 35 (0, 0) b1).trans hv
  have r0 := cr 0 _ rfl
  have r1 := cr 1 _ rfl
  have r2 := cr 2 _ rfl
  have r3 := cr 3 _ rfl
  have r4 := cr 4 _ rfl
  have r5 := cr 5 _ rfl
  have s0 := cs 0 _ rfl
  have s1 := cs 1 _ rfl
  have s2 := cs 2 _ rfl
  have s3 := cs 3 _ rfl
  have s4 := cs 4 _ rfl
  have s5 := cs 5 _ rfl
  have fr5 : w1.frozen? ⟨w.heap.size + 1 + 1, 5, none⟩ = false := frozen_of_row w1 (w.heap.size + 1 + 1) 5 _ 35 b2
  have fs (j : Nat) : w1.frozen? ⟨w.heap.size + 1, j, none⟩ = false := frozen_of_row w1 (w.heap.size + 1) j _ 35 b1
  have f0 := fs 0
  have f1 := fs 1
  have f2 := fs 2
  have f3 := fs 3
  have f4 := fs 4
  have f5 := fs 5
  have E1 : Hid (_ = _) := b1
  have OB : Hid (_) := ho1
  have HB : Hid (_) := hB1
  clear cr cs fs b0 b1 b2 ho1 hb1 hB0 hB1
  go_wp2
  have q0 := heap_setCell_other w1 ⟨w.heap.size + 1 + 1, 5, none⟩ (w.heap.size + 1) (.slice a1 n n) (by simp)
  have q1 := heap_setCell_same _ (w.heap.size + 1) 0 _ 35 (.int .i64 x.kind) (q0.trans E1.out)
  have q2 := heap_setCell_same _ (w.heap.size + 1) 1 _ 35 (.int .i64 x.lo) q1
  have q3 := heap_setCell_same _ (w.heap.size + 1) 2 _ 35 (.int .i64 x.hi) q2
  have q4 := heap_setCell_same _ (w.heap.size + 1) 3 _ 35 (.bool x.ext) q3
  have q5 := heap_setCell_same _ (w.heap.size + 1) 4 _ 35 (.bool x.opt) q4
  have q6 := heap_setCell_same _ (w.heap.size + 1) 5 _ 35 (.slice a1 n n) q5
  have tt : Touch (w.heap.size + 1) (w.heap.size + 3) w1 (((((((w1.setCell ⟨w.heap.size + 1 + 1, 5, none⟩ (.slice a1 n n)).setCell ⟨w.heap.size + 1, 0, none⟩ (.int .i64 x.kind)).setCell ⟨w.heap.size + 1, 1, none⟩ (.int .i64 x.lo)).setCell ⟨w.heap.size + 1, 2, none⟩ (.int .i64 x.hi)).setCell ⟨w.heap.size + 1, 3, none⟩ (.bool x.ext)).setCell ⟨w.heap.size + 1, 4, none⟩ (.bool x.opt)).setCell ⟨w.heap.size + 1, 5, none⟩ (.slice a1 n n)) :=
    ((((((touch_set _ _ _ _ (by omega) (by omega)).trans (touch_set _ _ _ _ (by omega) (by omega))).trans (touch_set _ _ _ _ (by omega) (by omega))).trans (touch_set _ _ _ _ (by omega) (by omega))).trans (touch_set _ _ _ _ (by omega) (by omega))).trans (touch_set _ _ _ _ (by omega) (by omega))).trans (touch_set _ _ _ _ (by omega) (by omega))
  try simp only [Exit.inBlock, Exit.then]
  refine bodyPost_ret (results_st rfl _ (w.heap.size + 1) rfl _ _ _ _ _ _ _ q6) rfl ?_
  have ob2 := OB.out.touch (.inr (by omega)) tt
  refine ⟨a1, w1.heap.size, rfl, ⟨?_, ob2.lt⟩, HB.out.trans (tt.below (by omega) (by omega))⟩
  refine ⟨ob2.row.1, ?_⟩
  rcases ob2.row.2 with hv | ⟨g, cap, cur, hv, hbb, rest⟩
  · exact .inl hv
  · exact .inr ⟨g, cap, cur, hv, by omega, rest⟩

/-- The first k types lie in the row g. -/
def StPre (w : World) (g k : Nat) (xs : List ST) : Prop := ∀ j, j < k → ∃ ak nk ck lo hi, Cells6 w g (j * 6) (xs.getD j default) ak nk ck ∧ g < lo ∧ Own64 lo hi w ak nk ck (xs.getD j default).kids ∧ nk ≤ 9223372036854775807
theorem StPre.kept {w w' : World} {g k : Nat} {xs : List ST} (h : StPre w g k xs) (hg : g < w.heap.size) (hb : Below w.heap.size w w') : StPre w' g k xs := by
  intro j hj
  obtain ⟨ak, nk, ck, lo, hi, hc, hl, ho, hn⟩ := h j hj
  exact ⟨ak, nk, ck, lo, hi, hc.of (fun i => hb.cell (p := ⟨g, i, none⟩) hg), hl, ho.kept hb, hn⟩

def set6 (w : World) (g i : Nat) (u0 u1 u2 u3 u4 u5 : Value) : World := (((((w.setCell ⟨g, i * 6, none⟩ u0).setCell ⟨g, i * 6 + 1, none⟩ u1).setCell ⟨g, i * 6 + 2, none⟩ u2).setCell ⟨g, i * 6 + 3, none⟩ u3).setCell ⟨g, i * 6 + 4, none⟩ u4).setCell ⟨g, i * 6 + 5, none⟩ u5
structure Set6 (B : Nat) (w w' : World) (g n cap i : Nat) (x : ST) (a : Option Addr) (m c : Nat) : Prop where
  own : ∃ vs, w'.ownsRow B 35 6 (.slice (some ⟨g, 0, none⟩) n cap) n vs
  touch : Touch g (g + 1) w w'
  size : w'.heap.size = w.heap.size
  old : ∀ j, j < n * 6 → j < i * 6 ∨ i * 6 + 6 ≤ j → w'.cell? ⟨g, j, none⟩ = w.cell? ⟨g, j, none⟩
  cells : Cells6 w' g (i * 6) x a m c
theorem set6_is {B : Nat} {w : World} {g n cap : Nat} {vs : List Value} (h : w.ownsRow B 35 6 (.slice (some ⟨g, 0, none⟩) n cap) n vs) (i : Nat) (hi : i < n) (x : ST) (a : Option Addr) (m c : Nat) : Set6 B w (set6 w g i (.int .i64 x.kind) (.int .i64 x.lo) (.int .i64 x.hi) (.bool x.ext) (.bool x.opt) (.slice a m c)) g n cap i x a m c := by
  have h1 := ((((((h.stored (i * 6) (.int .i64 x.kind)).1.stored (i * 6 + 1) (.int .i64 x.lo)).1.stored (i * 6 + 2) (.int .i64 x.hi)).1.stored (i * 6 + 3) (.bool x.ext)).1.stored (i * 6 + 4) (.bool x.opt)).1.stored (i * 6 + 5) (.slice a m c)).1
  have hl : vs.length = n * 6 := h.1
  have cc := fun j (hj : j < n * 6) => h1.cellAt j hj
  refine ⟨⟨_, h1⟩, ?_, by simp [set6], fun j hj ho => ?_, ⟨?_, ?_, ?_, ?_, ?_, ?_⟩⟩
  · exact (((((touch_set _ _ _ _ (Nat.le_refl _) (Nat.lt_succ_self _)).trans (touch_set _ _ _ _ (Nat.le_refl _) (Nat.lt_succ_self _))).trans (touch_set _ _ _ _ (Nat.le_refl _) (Nat.lt_succ_self _))).trans (touch_set _ _ _ _ (Nat.le_refl _) (Nat.lt_succ_self _))).trans (touch_set _ _ _ _ (Nat.le_refl _) (Nat.lt_succ_self _))).trans (touch_set _ _ _ _ (Nat.le_refl _) (Nat.lt_succ_self _))
  · refine (cc j hj).trans ?_
    rw [h.cellAt j hj]
    rw [List.getElem?_set_ne (by omega), List.getElem?_set_ne (by omega), List.getElem?_set_ne (by omega), List.getElem?_set_ne (by omega), List.getElem?_set_ne (by omega), List.getElem?_set_ne (by omega)]
  · refine (cc _ (by omega)).trans ?_
    rw [List.getElem?_set_ne (by omega), List.getElem?_set_ne (by omega), List.getElem?_set_ne (by omega), List.getElem?_set_ne (by omega), List.getElem?_set_ne (by omega), List.getElem?_set_self (by omega)]
  · refine (cc _ (by omega)).trans ?_
    rw [List.getElem?_set_ne (by omega), List.getElem?_set_ne (by omega), List.getElem?_set_ne (by omega), List.getElem?_set_ne (by omega), List.getElem?_set_self (by simp; omega)]
  · refine (cc _ (by omega)).trans ?_
    rw [List.getElem?_set_ne (by omega), List.getElem?_set_ne (by omega), List.getElem?_set_ne (by omega), List.getElem?_set_self (by simp; omega)]
  · refine (cc _ (by omega)).trans ?_
    rw [List.getElem?_set_ne (by omega), List.getElem?_set_ne (by omega), List.getElem?_set_self (by simp; omega)]
  · refine (cc _ (by omega)).trans ?_
    rw [List.getElem?_set_ne (by omega), List.getElem?_set_self (by simp; omega)]
  · refine (cc _ (by omega)).trans ?_
    rw [List.getElem?_set_self (by simp; omega)]

set_option maxHeartbeats 2000000 in
theorem toSTypeS_any (a : Option Addr) (n cap : Nat) (xs : List ST) (w : World) (h : Sts w a n xs) (hn : n ≤ 1048576) (hk : ∀ k, k < n → (xs.getD k default).kids.length ≤ 1048576) :
    Calls Tryd.prog 6 #[.slice a n cap] w fun e w' => ∃ a', e = .returned (.slice a' n n) ∧ Sts w' a' n xs ∧ Below w.heap.size w w' := by
  obtain ⟨i0, hi, hz0, hz1, hz2⟩ := info_parts Tryd.infoSType
  have HK : Hid (Sts w a n xs) := h
  have hlen : Hid (xs.length = n) := h.len
  have HKK : Hid (∀ k, k < n → (xs.getD k default).kids.length ≤ 1048576) := hk
  clear h hk
  go_enter Tryd.func6, Tryd.ntmps6
  go_wp2_with (first | (at_make; refine wpList_make_full _ rfl _ _ 26 rfl w.heap.size 35 i0 _ 6 Tryd.underlying26 hi hz0 hz1 _ _ _ _ n rfl rfl rfl rfl (by rw [hz2]; omega) (by unfold maxLen; omega) (by exact Nat.le_refl _) ?_; intro w1 hown hgrow))
  have hbl : Below w.heap.size w w1 := (Below.refl _ _).grown hgrow (Nat.le_refl _) (by simp)
  clear hgrow hi hz0 hz1 hz2
  go_loopw [4] (fun i wr => ∃ k : Nat, k ≤ n ∧ i = .int .i64 k ∧ (∃ vs, wr.ownsRow w.heap.size 35 6 (.slice (some ⟨w.heap.size, 0, none⟩) n n) n vs) ∧ StPre wr w.heap.size k xs ∧ Below w.heap.size w wr) (fun i _ => n - (intOf i).toNat)
  case atStart => exact ⟨0, Nat.zero_le _, rfl, ⟨_, hown⟩, fun j hj => absurd hj (Nat.not_lt_zero _), hbl⟩
  case round =>
    obtain ⟨k, hk, rfl, ⟨vs, hor⟩, hpre, hbr⟩ := hrel
    have hgl := (hor.lt _ rfl).2
    by_cases hkn : k < n
    · obtain ⟨b, off, rfl, hlb, ak, nk, ck, hc, hr, hnk⟩ := HK.out.get k hkn
      have hkl := HKK.out k hkn
      rw [hr.len] at hkl
      obtain ⟨y, hy⟩ : ∃ y, y = xs.getD k default := ⟨_, rfl⟩
      rw [← hy] at hc hr
      have HY : Hid (y = xs.getD k default) := hy
      obtain ⟨c0, c1, c2, c3, c4, c5⟩ := hc.of (w' := wr) (fun i => hbr.cell (p := ⟨b, i, none⟩) hlb)
      have hkni : (k : Int) < (n : Int) := by omega
      have hs := hbr.size
      have R1 : Hid (_) := hr.kept hbr
      have HPRE : Hid (StPre wr w.heap.size k xs) := hpre
      have HOR : Hid (_) := hor
      clear hc hr hy hpre hor
      go_wp2_with fail
      refine (toSType_any y ak nk ck _ R1.out hkl).mono ?_
      rintro e w2 ⟨a2, h2i, rfl, ho2, hb2⟩
      have hor2 : w2.ownsRow w.heap.size 35 6 (.slice (some ⟨w.heap.size, 0, none⟩) n n) n vs := ownsRow_below HOR.out hb2
      have hs2 := hb2.size
      have fr : ∀ j, w2.frozen? ⟨w.heap.size, j, none⟩ = false := fun j => hor2.frozenAt j
      have hvl : vs.length = n * 6 := hor2.1
      have cx : ∀ j, j < n * 6 → ∃ z, w2.cell? ⟨w.heap.size, j, none⟩ = some z := fun j hj => ⟨_, (hor2.cellAt j hj).trans (List.getElem?_eq_getElem (by omega))⟩
      obtain ⟨z0, x0⟩ := cx (k * 6) (by omega)
      obtain ⟨z1, x1⟩ := cx (k * 6 + 1) (by omega)
      obtain ⟨z2, x2⟩ := cx (k * 6 + 2) (by omega)
      obtain ⟨z3, x3⟩ := cx (k * 6 + 3) (by omega)
      obtain ⟨z4, x4⟩ := cx (k * 6 + 4) (by omega)
      obtain ⟨z5, x5⟩ := cx (k * 6 + 5) (by omega)
      have f0 := fr (k * 6)
      have f1 := fr (k * 6 + 1)
      have f2 := fr (k * 6 + 2)
      have f3 := fr (k * 6 + 3)
      have f4 := fr (k * 6 + 4)
      have f5 := fr (k * 6 + 5)
      have hS := set6_is hor2 k hkn y a2 nk nk
      have hP : StPre (set6 w2 w.heap.size k (.int .i64 y.kind) (.int .i64 y.lo) (.int .i64 y.hi) (.bool y.ext) (.bool y.opt) (.slice a2 nk nk)) w.heap.size (k + 1) xs := by
        intro j hj
        by_cases hjk : j = k
        · subst hjk
          rw [← HY.out]
          exact ⟨a2, nk, nk, wr.heap.size + 1, h2i, hS.cells, by omega, ho2.touch (.inr (by omega)) hS.touch, by omega⟩
        · obtain ⟨ak', nk', ck', lo, hi', hc', hl', ho', hn'⟩ := (HPRE.out.kept hgl hb2) j (by omega)
          have hx := hS.old
          exact ⟨ak', nk', ck', lo, hi', ⟨(hx _ (by omega) (by omega)).trans hc'.c0, (hx _ (by omega) (by omega)).trans hc'.c1, (hx _ (by omega) (by omega)).trans hc'.c2, (hx _ (by omega) (by omega)).trans hc'.c3, (hx _ (by omega) (by omega)).trans hc'.c4, (hx _ (by omega) (by omega)).trans hc'.c5⟩, hl', ho'.touch (.inr (by omega)) hS.touch, hn'⟩
      have hB4 := (hbr.trans (hb2.mono hs)).trans (hS.touch.below (Nat.le_refl _) (by omega))
      have FIN : Hid (_ ∧ _ ∧ _) := ⟨hS.own, hP, hB4⟩
      clear fr cx hS hP hB4
      unfold stv
      go_wp2
      go_roundw
      case rel => exact ⟨k + 1, by omega, by go_num, FIN.out.1, FIN.out.2.1, FIN.out.2.2⟩
      case measure => simp [intOf]; omega
    · obtain rfl : n = k := by omega
      have HPRE : Hid (StPre wr w.heap.size n xs) := hpre
      clear hpre hor
      go_wp2
      go_ret
      refine ⟨_, rfl, ⟨hlen.out, by omega, fun k hk => ?_⟩, hbr⟩
      obtain ⟨ak, nk, ck, lo, hi, hc, hl, ho, hn⟩ := HPRE.out k hk
      exact ⟨w.heap.size, 0, rfl, hgl, ak, nk, ck, by rw [Nat.zero_add]; exact hc, ho.toRow, hn⟩

end Go.Proofs.YtaiflnccpgcklaaDoor
