import Derived.Test.YtbfjkmlmnhphoaaDoorGTouchN1
namespace Go.Proofs.YtbfjkmlmnhphoaaDoor
open Go.RowKit

theorem alloc_old' (w : World) (o : Obj) (g : Nat) (hg : g < w.heap.size) : (w.alloc o).heap[g]? = w.heap[g]? := ((Below.refl w.heap.size w).alloc (Nat.le_refl _) o).block g hg
theorem three_blocks' (w : World) (o0 o1 o2 : Obj) : (((w.alloc o0).alloc o1).alloc o2).heap[w.heap.size]? = some o0 ∧ (((w.alloc o0).alloc o1).alloc o2).heap[w.heap.size + 1]? = some o1 ∧ (((w.alloc o0).alloc o1).alloc o2).heap[w.heap.size + 2]? = some o2 := by
  have s1 : (w.alloc o0).heap.size = w.heap.size + 1 := by simp
  have s2 : ((w.alloc o0).alloc o1).heap.size = w.heap.size + 2 := by simp
  exact ⟨(alloc_old' _ o2 _ (by omega)).trans ((alloc_old' _ o1 _ (by omega)).trans (heap_alloc_new w o0)), (alloc_old' _ o2 _ (by omega)).trans (by rw [← s1]; exact heap_alloc_new _ o1), by rw [← s2]; exact heap_alloc_new _ o2⟩
theorem touch_set' {p q : Nat} (w : World) (g j : Nat) (u : Value) (h1 : p ≤ g) (h2 : g < q) : Touch p q w (w.setCell ⟨g, j, none⟩ u) :=
  ⟨rfl, rfl, rfl, by simp, fun k _ hk => heap_setCell_other w ⟨g, j, none⟩ k u (by simp; omega)⟩
theorem heap_kept' {B : Nat} {w w' : World} (h : Below B w w') {g : Nat} (hg : g < B) {o : Obj} (e : w.heap[g]? = some o) : w'.heap[g]? = some o := (h.block g hg).trans e
theorem three_below (w : World) (o0 o1 o2 : Obj) : Below w.heap.size w (((w.alloc o0).alloc o1).alloc o2) := (((Below.refl _ _).alloc (Nat.le_refl _) _).alloc (by simp) _).alloc (by simp; omega) _

theorem Tryd.infoPart : (Tryd.prog.info? 107).map (fun i => (i.zero, i.size, i.bytes)) = some (some (.agg #[.int .i64 0, .string ByteArray.empty]), 2, 24) := by kernel_rfl

theorem results_pt {fn : Func} {t : Tmp} (h : fn.results = #[.cell t 107]) (tmps : Array Value) (g : Nat) (ht : tmps.getD t undef = .pointer (some ⟨g, 0, none⟩)) (w : World) (c0 c1 : Value)
    (hb : w.heap[g]? = some (.cells #[c0, c1] 107 (0, 0))) : (results fn tmps).run Tryd.prog w = .ok (.agg #[c0, c1]) w := by
  have d0 : w.cell? ⟨g, 0, none⟩ = some c0 := (cell_of_row _ g 0 _ 107 (0, 0) hb).trans rfl
  have d1 : w.cell? ⟨g, 1, none⟩ = some c1 := (cell_of_row _ g 1 _ 107 (0, 0) hb).trans rfl
  clear hb
  have ht' : tmps[t]?.getD undef = .pointer (some ⟨g, 0, none⟩) := by rw [← ht]; simp
  simp [results, h, go_sem, ht', d0, d1]
theorem results_nm {fn : Func} {t : Tmp} (h : fn.results = #[.cell t 33]) (tmps : Array Value) (g : Nat) (ht : tmps.getD t undef = .pointer (some ⟨g, 0, none⟩)) (w : World) (c0 : Value)
    (hb : w.heap[g]? = some (.cells #[c0] 33 (0, 0))) : (results fn tmps).run Tryd.prog w = .ok (.agg #[c0]) w := by
  have d0 : w.cell? ⟨g, 0, none⟩ = some c0 := (cell_of_row _ g 0 _ 33 (0, 0) hb).trans rfl
  clear hb
  have ht' : tmps[t]?.getD undef = .pointer (some ⟨g, 0, none⟩) := by rw [← ht]; simp
  simp [results, h, go_sem, ht', d0]

set_option maxRecDepth 10000 in
set_option maxHeartbeats 1000000 in
theorem toPart_any (x : PT) (w : World) :
    Calls Tryd.prog 83 #[ptv x] w fun e w' => e = .returned (ptv x) ∧ Below w.heap.size w w' := by
  obtain ⟨_, b1, _⟩ := three_blocks' w (.cells #[.int .i64 x.attr, .string x.val] 106) (.cells #[.int .i64 x.attr, .string x.val] 107) (.cells #[.int .i64 x.attr, .string x.val] 107)
  have HB1 : Hid (_ = _) := b1
  clear b1
  unfold ptv
  go_enter Tryd.func83, Tryd.ntmps83
  go_wp2
  try simp only [Exit.inBlock, Exit.then]
  exact bodyPost_ret (results_pt rfl _ (w.heap.size + 1) rfl _ _ _ HB1.out) rfl ⟨rfl, three_below _ _ _ _⟩

/-- The first k parts lie in the row g. -/
def PtPre (w : World) (g k : Nat) (xs : List PT) : Prop := ∀ j, j < k → Cells2 w g (j * 2) (xs.getD j default)
theorem PtPre.kept {w w' : World} {g k : Nat} {xs : List PT} (h : PtPre w g k xs) (hg : g < w.heap.size) (hb : Below w.heap.size w w') : PtPre w' g k xs :=
  fun j hj => (h j hj).of (fun i => hb.cell (p := ⟨g, i, none⟩) hg)

def set2 (w : World) (g i : Nat) (u0 u1 : Value) : World := (w.setCell ⟨g, i * 2, none⟩ u0).setCell ⟨g, i * 2 + 1, none⟩ u1
structure Set2 (B : Nat) (w w' : World) (g n cap i : Nat) (x : PT) : Prop where
  own : ∃ vs, w'.ownsRow B 107 2 (.slice (some ⟨g, 0, none⟩) n cap) n vs
  touch : Touch g (g + 1) w w'
  size : w'.heap.size = w.heap.size
  old : ∀ j, j < n * 2 → j < i * 2 ∨ i * 2 + 2 ≤ j → w'.cell? ⟨g, j, none⟩ = w.cell? ⟨g, j, none⟩
  cells : Cells2 w' g (i * 2) x
theorem set2_is {B : Nat} {w : World} {g n cap : Nat} {vs : List Value} (h : w.ownsRow B 107 2 (.slice (some ⟨g, 0, none⟩) n cap) n vs) (i : Nat) (hi : i < n) (x : PT) : Set2 B w (set2 w g i (.int .i64 x.attr) (.string x.val)) g n cap i x := by
  have h1 := ((h.stored (i * 2) (.int .i64 x.attr)).1.stored (i * 2 + 1) (.string x.val)).1
  have hl : vs.length = n * 2 := h.1
  have cc := fun j (hj : j < n * 2) => h1.cellAt j hj
  refine ⟨⟨_, h1⟩, ?_, by simp [set2], fun j hj ho => ?_, ⟨?_, ?_⟩⟩
  · exact (touch_set' _ _ _ _ (Nat.le_refl _) (Nat.lt_succ_self _)).trans (touch_set' _ _ _ _ (Nat.le_refl _) (Nat.lt_succ_self _))
  · refine (cc j hj).trans ?_
    rw [h.cellAt j hj]
    rw [List.getElem?_set_ne (by omega), List.getElem?_set_ne (by omega)]
  · refine (cc _ (by omega)).trans ?_
    rw [List.getElem?_set_ne (by omega), List.getElem?_set_self (by omega)]
  · refine (cc _ (by omega)).trans ?_
    rw [List.getElem?_set_self (by simp; omega)]

set_option maxRecDepth 10000 in
set_option maxHeartbeats 2000000 in
theorem toPartS_any (a : Option Addr) (n cap : Nat) (xs : List PT) (w : World) (h : Pts w a n xs) (hn : n ≤ 1048576) :
    Calls Tryd.prog 59 #[.slice a n cap] w fun e w' => e = .returned (.slice (some ⟨w.heap.size, 0, none⟩) n n) ∧ Pts w' (some ⟨w.heap.size, 0, none⟩) n xs ∧ Below w.heap.size w w' := by
  obtain ⟨i0, hi, hz0, hz1, hz2⟩ := info_parts Tryd.infoPart
  have HK : Hid (Pts w a n xs) := h
  have hlen : Hid (xs.length = n) := h.len
  clear h
  go_enter Tryd.func59, Tryd.ntmps59
  go_wp2_with (first | (at_make; refine wpList_make_full _ rfl _ _ 31 rfl w.heap.size 107 i0 _ 2 Tryd.underlying31 hi hz0 hz1 _ _ _ _ n rfl rfl rfl rfl (by rw [hz2]; omega) (by unfold maxLen; omega) (by exact Nat.le_refl _) ?_; intro w1 hown hgrow))
  have hbl : Below w.heap.size w w1 := (Below.refl _ _).grown hgrow (Nat.le_refl _) (by simp)
  clear hgrow hi hz0 hz1 hz2
  go_loopw [4] (fun i wr => ∃ k : Nat, k ≤ n ∧ i = .int .i64 k ∧ (∃ vs, wr.ownsRow w.heap.size 107 2 (.slice (some ⟨w.heap.size, 0, none⟩) n n) n vs) ∧ PtPre wr w.heap.size k xs ∧ Below w.heap.size w wr) (fun i _ => n - (intOf i).toNat)
  case atStart => exact ⟨0, Nat.zero_le _, rfl, ⟨_, hown⟩, fun j hj => absurd hj (Nat.not_lt_zero _), hbl⟩
  case round =>
    obtain ⟨k, hk, rfl, ⟨vs, hor⟩, hpre, hbr⟩ := hrel
    have hgl := (hor.lt _ rfl).2
    by_cases hkn : k < n
    · obtain ⟨b, off, rfl, hlb, hc, hnk⟩ := HK.out.get k hkn
      obtain ⟨y, hy⟩ : ∃ y, y = xs.getD k default := ⟨_, rfl⟩
      rw [← hy] at hc
      have HY : Hid (y = xs.getD k default) := hy
      obtain ⟨c0, c1⟩ := hc.of (w' := wr) (fun i => hbr.cell (p := ⟨b, i, none⟩) hlb)
      have hkni : (k : Int) < (n : Int) := by omega
      have hs := hbr.size
      have HPRE : Hid (PtPre wr w.heap.size k xs) := hpre
      have HOR : Hid (_) := hor
      clear hc hy hpre hor
      go_wp2_with fail
      refine (toPart_any y _).mono ?_
      rintro e w2 ⟨rfl, hb2⟩
      have hor2 : w2.ownsRow w.heap.size 107 2 (.slice (some ⟨w.heap.size, 0, none⟩) n n) n vs := ownsRow_below HOR.out hb2
      have hs2 := hb2.size
      have fr : ∀ j, w2.frozen? ⟨w.heap.size, j, none⟩ = false := fun j => hor2.frozenAt j
      have hvl : vs.length = n * 2 := hor2.1
      have cx : ∀ j, j < n * 2 → ∃ z, w2.cell? ⟨w.heap.size, j, none⟩ = some z := fun j hj => ⟨_, (hor2.cellAt j hj).trans (List.getElem?_eq_getElem (by omega))⟩
      obtain ⟨z0, x0⟩ := cx (k * 2) (by omega)
      obtain ⟨z1, x1⟩ := cx (k * 2 + 1) (by omega)
      have f0 := fr (k * 2)
      have f1 := fr (k * 2 + 1)
      have hS := set2_is hor2 k hkn y
      have hP : PtPre (set2 w2 w.heap.size k (.int .i64 y.attr) (.string y.val)) w.heap.size (k + 1) xs := by
        intro j hj
        by_cases hjk : j = k
        · subst hjk
          rw [← HY.out]
          exact hS.cells
        · have hc' := (HPRE.out.kept hgl hb2) j (by omega)
          have hx := hS.old
          exact ⟨(hx _ (by omega) (by omega)).trans hc'.c0, (hx _ (by omega) (by omega)).trans hc'.c1⟩
      have hB4 := (hbr.trans (hb2.mono hs)).trans (hS.touch.below (Nat.le_refl _) (by omega))
      have FIN : Hid (_ ∧ _ ∧ _) := ⟨hS.own, hP, hB4⟩
      clear fr cx hS hP hB4
      unfold ptv
      go_wp2
      go_roundw
      case rel => exact ⟨k + 1, by omega, by go_num, FIN.out.1, FIN.out.2.1, FIN.out.2.2⟩
      case measure => simp [intOf]; omega
    · obtain rfl : n = k := by omega
      have HPRE : Hid (PtPre wr w.heap.size n xs) := hpre
      clear hpre hor
      go_wp2
      go_ret
      refine ⟨rfl, ⟨hlen.out, by omega, fun k hk => ?_⟩, hbr⟩
      obtain ⟨_, _, _, _, _, hn⟩ := HK.out.get k hk
      exact ⟨w.heap.size, 0, rfl, hgl, by rw [Nat.zero_add]; exact HPRE.out k hk, hn⟩

theorem Pts.same {w w' : World} {g n : Nat} {xs : List PT} (h : Pts w (some ⟨g, 0, none⟩) n xs) (hb : w'.heap[g]? = w.heap[g]?) (hs : w.heap.size ≤ w'.heap.size) : Pts w' (some ⟨g, 0, none⟩) n xs := by
  refine ⟨h.len, h.max, fun k hk => ?_⟩
  obtain ⟨b, off, ha, hlt, hc, hn⟩ := h.get k hk
  simp only [Option.some.injEq, Addr.mk.injEq, and_true] at ha
  obtain ⟨rfl, rfl⟩ := ha
  exact ⟨g, 0, rfl, Nat.lt_of_lt_of_le hlt hs, hc.of (fun i => by simp [World.cell?, hb]), hn⟩

set_option maxRecDepth 10000 in
set_option maxHeartbeats 1000000 in
theorem toName_at (a : Option Addr) (n c : Nat) (xs : List PT) (w : World) (h : Pts w a n xs) (hn : n ≤ 1048576) :
    Calls Tryd.prog 22 #[nmv a n c] w fun e w' => ∃ g', e = .returned (nmv (some ⟨g', 0, none⟩) n n) ∧ w.heap.size ≤ g' ∧ Pts w' (some ⟨g', 0, none⟩) n xs ∧ Below w.heap.size w w' := by
  have HK : Hid (Pts w a n xs) := h
  clear h
  unfold nmv
  obtain ⟨W0, hW0⟩ : ∃ W0, W0 = (((w.alloc (.cells #[.slice a n c] 24)).alloc (.cells #[.slice none 0 0] 33)).alloc (.cells #[.slice none 0 0] 33)) := ⟨_, rfl⟩
  have hB0 : Below w.heap.size w W0 := by rw [hW0]; exact three_below _ _ _ _
  have hS0 : W0.heap.size = w.heap.size + 3 := by rw [hW0]; simp
  obtain ⟨_, b1, b2⟩ := three_blocks' w (.cells #[.slice a n c] 24) (.cells #[.slice none 0 0] 33) (.cells #[.slice none 0 0] 33)
  rw [← hW0] at b1 b2
  go_enter Tryd.func22, Tryd.ntmps22
  go_wp2_with fail
  rw [← hW0]
  clear hW0
  refine (toPartS_any a n c xs _ (HK.out.kept hB0) hn).mono ?_
  rintro e w1 ⟨rfl, ho1, hb1⟩
  obtain ⟨g1, hg1⟩ : ∃ g1, g1 = W0.heap.size := ⟨_, rfl⟩
  rw [← hg1] at ho1 ⊢
  have HG1 : Hid (g1 = w.heap.size + 3) := by show _ = _; omega
  have hs1 := hb1.size
  replace b1 := heap_kept' hb1 (by omega) b1
  replace b2 := heap_kept' hb1 (by omega) b2
  have hB1 : Below w.heap.size w w1 := hB0.trans (hb1.mono (by omega))
  have r0 : w1.cell? ⟨w.heap.size + 1 + 1, 0, none⟩ = some (.slice none 0 0) := (cell_of_row _ (w.heap.size + 1 + 1) 0 _ 33 (0, 0) b2).trans rfl
  have s0 : w1.cell? ⟨w.heap.size + 1, 0, none⟩ = some (.slice none 0 0) := (cell_of_row _ (w.heap.size + 1) 0 _ 33 (0, 0) b1).trans rfl
  have fr0 : w1.frozen? ⟨w.heap.size + 1 + 1, 0, none⟩ = false := frozen_of_row w1 (w.heap.size + 1 + 1) 0 _ 33 b2
  have f0 : w1.frozen? ⟨w.heap.size + 1, 0, none⟩ = false := frozen_of_row w1 (w.heap.size + 1) 0 _ 33 b1
  have E1 : Hid (_ = _) := b1
  have OB : Hid (_) := ho1
  have HB : Hid (_) := hB1
  have hgl : g1 ≤ w1.heap.size := by omega
  clear b1 b2 ho1 hb1 hB0 hB1 hg1 hs1 hS0
  go_wp2
  have hgg := HG1.out
  have q0 := heap_setCell_other w1 ⟨w.heap.size + 1 + 1, 0, none⟩ (w.heap.size + 1) (.slice (some ⟨g1, 0, none⟩) n n) (by simp)
  have q1 := heap_setCell_same _ (w.heap.size + 1) 0 _ 33 (.slice (some ⟨g1, 0, none⟩) n n) (q0.trans E1.out)
  have tt : Touch (w.heap.size + 1) (w.heap.size + 3) w1 ((w1.setCell ⟨w.heap.size + 1 + 1, 0, none⟩ (.slice (some ⟨g1, 0, none⟩) n n)).setCell ⟨w.heap.size + 1, 0, none⟩ (.slice (some ⟨g1, 0, none⟩) n n)) := (touch_set' _ _ _ _ (by omega) (by omega)).trans (touch_set' _ _ _ _ (by omega) (by omega))
  try simp only [Exit.inBlock, Exit.then]
  refine bodyPost_ret (results_nm rfl _ (w.heap.size + 1) rfl _ _ q1) rfl ⟨_, rfl, by omega, OB.out.same ?_ (by simp), HB.out.trans (tt.below (by omega) (by omega))⟩
  exact (heap_setCell_other _ _ _ _ (by simp; omega)).trans (heap_setCell_other _ _ _ _ (by simp; omega))

theorem toName_any (a : Option Addr) (n c : Nat) (xs : List PT) (w : World) (h : Pts w a n xs) (hn : n ≤ 1048576) :
    Calls Tryd.prog 22 #[nmv a n c] w fun e w' => ∃ a', e = .returned (nmv a' n n) ∧ Pts w' a' n xs ∧ Below w.heap.size w w' :=
  (toName_at a n c xs w h hn).mono fun _ _ ⟨_, h1, _, h2, h3⟩ => ⟨_, h1, h2, h3⟩

end Go.Proofs.YtbfjkmlmnhphoaaDoor
