import Derived.Test.YtbfjkmlmnhphoaaDoorGMD3MD5
import Derived.Test.YtbfjkmlmnhphoaaDoorGK3K4
set_option linter.unusedVariables false
namespace Go.Proofs.YtbfjkmlmnhphoaaDoor
open Go.RowKit

theorem ownsRow_lower {w : World} {B B' t s n c : Nat} {a : Option Addr} {vs : List Value} (h : w.ownsRow B t s (.slice a n c) n vs) (hB : B' ≤ B) : w.ownsRow B' t s (.slice a n c) n vs := by
  refine ⟨h.1, ?_⟩
  rcases h.2 with q | ⟨g, c', cur, h1, hb, r⟩
  · exact .inl q
  · exact .inr ⟨g, c', cur, h1, Nat.le_trans hB hb, r⟩
theorem Touch.toS {lo hi : Nat} {w w' : World} (h : Touch lo hi w w') : TouchS (fun i => lo ≤ i ∧ i < hi) w w' := ⟨h.os, h.tape, h.output, h.size, fun i hi' ho => h.block i hi' (by omega)⟩

set_option maxRecDepth 10000 in
set_option maxHeartbeats 2000000 in
theorem toPartS_own (a : Option Addr) (n cap : Nat) (xs : List PT) (w : World) (h : Pts w a n xs) (hn : n ≤ 1048576) :
    Calls Tryd.prog 59 #[.slice a n cap] w fun e w' => e = .returned (.slice (some ⟨w.heap.size, 0, none⟩) n n) ∧ (∃ vs, w'.ownsRow w.heap.size 107 2 (.slice (some ⟨w.heap.size, 0, none⟩) n n) n vs) ∧ Pts w' (some ⟨w.heap.size, 0, none⟩) n xs ∧ Below w.heap.size w w' := by
  obtain ⟨i0, hi, hz0, hz1, hz2⟩ := info_parts Tryd.infoPart
  have HK : Hid (Pts w a n xs) := h
  have hlen : Hid (xs.length = n) := h.len
  clear h
  go_enter Tryd.func59, Tryd.ntmps59
  go_wp2_with (first | (at_make; refine wpList_make_full _ rfl _ _ 31 rfl w.heap.size 107 i0 _ 2 Tryd.underlying31 hi hz0 hz1 _ _ _ _ n rfl rfl rfl rfl (by rw [hz2]; omega) (by unfold maxLen; omega) (by exact Nat.le_refl _) ?_; intro w1 hown hgrow))
  have hbl : Below w.heap.size w w1 := (Below.refl _ _).grown hgrow (Nat.le_refl _) (by simp)
  clear hgrow hi hz0 hz1 hz2
  go_loopw [4] (fun i wr => ∃ k : Nat, k ≤ n ∧ i = .int .i64 k ∧ (∃ vs, wr.ownsRow w.heap.size 107 2 (.slice (some ⟨w.heap.size, 0, none⟩) n n) n vs) ∧ PtPre wr w.heap.size k xs ∧ Below w.heap.size w wr) (fun i _ => n - (intOf i).toNat)
  case atStart => exact ⟨0, Nat.zero_le _, rfl, ⟨_, hown⟩, fun j hj => absurd hj (Nat.not_lt_zero _), hbl⟩
  case round =>
    obtain ⟨k, hk, rfl, ⟨vs, hor⟩, hpre, hbr⟩ := hrel
    have hgl := (hor.lt _ rfl).2
    by_cases hkn : k < n
    · obtain ⟨b, off, rfl, hlb, hc, hnk⟩ := HK.out.get k hkn
      obtain ⟨y, hy⟩ : ∃ y, y = xs.getD k default := ⟨_, rfl⟩
      rw [← hy] at hc
      have HY : Hid (y = xs.getD k default) := hy
      obtain ⟨c0, c1⟩ := hc.of (w' := wr) (fun i => hbr.cell (p := ⟨b, i, none⟩) hlb)
      have hkni : (k : Int) < (n : Int) := by omega
      have hs := hbr.size
      have HPRE : Hid (PtPre wr w.heap.size k xs) := hpre
      have HOR : Hid (_) := hor
      clear hc hy hpre hor
      go_wp2_with fail
      refine (toPart_any y _).mono ?_
      rintro e w2 ⟨rfl, hb2⟩
      have hor2 : w2.ownsRow w.heap.size 107 2 (.slice (some ⟨w.heap.size, 0, none⟩) n n) n vs := ownsRow_below HOR.out hb2
      have hs2 := hb2.size
      have fr : ∀ j, w2.frozen? ⟨w.heap.size, j, none⟩ = false := fun j => hor2.frozenAt j
      have hvl : vs.length = n * 2 := hor2.1
      have cx : ∀ j, j < n * 2 → ∃ z, w2.cell? ⟨w.heap.size, j, none⟩ = some z := fun j hj => ⟨_, (hor2.cellAt j hj).trans (List.getElem?_eq_getElem (by omega))⟩
      obtain ⟨z0, x0⟩ := cx (k * 2) (by omega)
      obtain ⟨z1, x1⟩ := cx (k * 2 + 1) (by omega)
      have f0 := fr (k * 2)
      have f1 := fr (k * 2 + 1)
      have hS := set2_is hor2 k hkn y
      have hP : PtPre (set2 w2 w.heap.size k (.int .i64 y.attr) (.string y.val)) w.heap.size (k + 1) xs := by
        intro j hj
        by_cases hjk : j = k
        · subst hjk
          rw [← HY.out]
          exact hS.cells
        · have hc' := (HPRE.out.kept hgl hb2) j (by omega)
          have hx := hS.old
          exact ⟨(hx _ (by omega) (by omega)).trans hc'.c0, (hx _ (by omega) (by omega)).trans hc'.c1⟩
      have hB4 := (hbr.trans (hb2.mono hs)).trans (hS.touch.below (Nat.le_refl _) (by omega))
      have FIN : Hid (_ ∧ _ ∧ _) := ⟨hS.own, hP, hB4⟩
      clear fr cx hS hP hB4
      unfold ptv
      go_wp2
      go_roundw
      case rel => exact ⟨k + 1, by omega, by go_num, FIN.out.1, FIN.out.2.1, FIN.out.2.2⟩
      case measure => simp [intOf]; omega
    · obtain rfl : n = k := by omega
      have HPRE : Hid (PtPre wr w.heap.size n xs) := hpre
      have HOE : Hid (_) := hor
      clear hpre hor
      go_wp2
      go_ret
      refine ⟨rfl, ⟨_, HOE.out⟩, ⟨hlen.out, by omega, fun k hk => ?_⟩, hbr⟩
      obtain ⟨_, _, _, _, _, hn⟩ := HK.out.get k hk
      exact ⟨w.heap.size, 0, rfl, hgl, by rw [Nat.zero_add]; exact HPRE.out k hk, hn⟩

set_option maxRecDepth 10000 in
set_option maxHeartbeats 1000000 in
theorem toName_own (a : Option Addr) (n c : Nat) (xs : List PT) (w : World) (h : Pts w a n xs) (hn : n ≤ 1048576) :
    Calls Tryd.prog 22 #[nmv a n c] w fun e w' => ∃ g', e = .returned (nmv (some ⟨g', 0, none⟩) n n) ∧ w.heap.size ≤ g' ∧ (∃ vs, w'.ownsRow w.heap.size 107 2 (.slice (some ⟨g', 0, none⟩) n n) n vs) ∧ Pts w' (some ⟨g', 0, none⟩) n xs ∧ Below w.heap.size w w' := by
  have HK : Hid (Pts w a n xs) := h
  clear h
  unfold nmv
  obtain ⟨W0, hW0⟩ : ∃ W0, W0 = (((w.alloc (.cells #[.slice a n c] 24)).alloc (.cells #[.slice none 0 0] 33)).alloc (.cells #[.slice none 0 0] 33)) := ⟨_, rfl⟩
  have hB0 : Below w.heap.size w W0 := by rw [hW0]; exact three_below _ _ _ _
  have hS0 : W0.heap.size = w.heap.size + 3 := by rw [hW0]; simp
  obtain ⟨_, b1, b2⟩ := three_blocks' w (.cells #[.slice a n c] 24) (.cells #[.slice none 0 0] 33) (.cells #[.slice none 0 0] 33)
  rw [← hW0] at b1 b2
  go_enter Tryd.func22, Tryd.ntmps22
  go_wp2_with fail
  rw [← hW0]
  clear hW0
  refine (toPartS_own a n c xs _ (HK.out.kept hB0) hn).mono ?_
  rintro e w1 ⟨rfl, hv1, ho1, hb1⟩
  obtain ⟨g1, hg1⟩ : ∃ g1, g1 = W0.heap.size := ⟨_, rfl⟩
  rw [← hg1] at ho1 hv1 ⊢
  obtain ⟨vs1, hv1⟩ := hv1
  have HV1 : Hid (w1.ownsRow g1 107 2 (.slice (some ⟨g1, 0, none⟩) n n) n vs1) := hv1
  clear hv1
  have HG1 : Hid (g1 = w.heap.size + 3) := by show _ = _; omega
  have hs1 := hb1.size
  replace b1 := heap_kept' hb1 (by omega) b1
  replace b2 := heap_kept' hb1 (by omega) b2
  have hB1 : Below w.heap.size w w1 := hB0.trans (hb1.mono (by omega))
  have r0 : w1.cell? ⟨w.heap.size + 1 + 1, 0, none⟩ = some (.slice none 0 0) := (cell_of_row _ (w.heap.size + 1 + 1) 0 _ 33 (0, 0) b2).trans rfl
  have s0 : w1.cell? ⟨w.heap.size + 1, 0, none⟩ = some (.slice none 0 0) := (cell_of_row _ (w.heap.size + 1) 0 _ 33 (0, 0) b1).trans rfl
  have fr0 : w1.frozen? ⟨w.heap.size + 1 + 1, 0, none⟩ = false := frozen_of_row w1 (w.heap.size + 1 + 1) 0 _ 33 b2
  have f0 : w1.frozen? ⟨w.heap.size + 1, 0, none⟩ = false := frozen_of_row w1 (w.heap.size + 1) 0 _ 33 b1
  have E1 : Hid (_ = _) := b1
  have OB : Hid (_) := ho1
  have HB : Hid (_) := hB1
  have hgl : g1 ≤ w1.heap.size := by omega
  clear b1 b2 ho1 hb1 hB0 hB1 hg1 hs1 hS0
  go_wp2
  have hgg := HG1.out
  have q0 := heap_setCell_other w1 ⟨w.heap.size + 1 + 1, 0, none⟩ (w.heap.size + 1) (.slice (some ⟨g1, 0, none⟩) n n) (by simp)
  have q1 := heap_setCell_same _ (w.heap.size + 1) 0 _ 33 (.slice (some ⟨g1, 0, none⟩) n n) (q0.trans E1.out)
  have tt : Touch (w.heap.size + 1) (w.heap.size + 3) w1 ((w1.setCell ⟨w.heap.size + 1 + 1, 0, none⟩ (.slice (some ⟨g1, 0, none⟩) n n)).setCell ⟨w.heap.size + 1, 0, none⟩ (.slice (some ⟨g1, 0, none⟩) n n)) := (touch_set' _ _ _ _ (by omega) (by omega)).trans (touch_set' _ _ _ _ (by omega) (by omega))
  try simp only [Exit.inBlock, Exit.then]
  refine bodyPost_ret (results_nm rfl _ (w.heap.size + 1) rfl _ _ q1) rfl ⟨_, rfl, by omega, ⟨vs1, ownsRow_lower (ownsRow_keepS HV1.out (tt.toS) (fun g e hg q => by omega)) (by omega)⟩, OB.out.same ?_ (by simp), HB.out.trans (tt.below (by omega) (by omega))⟩
  exact (heap_setCell_other _ _ _ _ (by simp; omega)).trans (heap_setCell_other _ _ _ _ (by simp; omega))


end Go.Proofs.YtbfjkmlmnhphoaaDoor

set_option linter.unusedVariables false
namespace Go.Proofs.YtbfjkmlmnhphoaaDoor
open Go.RowKit

theorem ownsRow_at {w w' : World} {B t s n c g : Nat} {vs : List Value} (h : w.ownsRow B t s (.slice (some ⟨g, 0, none⟩) n c) n vs) (e : w'.heap[g]? = w.heap[g]?) : w'.ownsRow B t s (.slice (some ⟨g, 0, none⟩) n c) n vs := by
  refine ⟨h.1, ?_⟩
  rcases h.2 with q | ⟨g', c', cur, h1, hb, hg, r⟩
  · exact .inl q
  · refine .inr ⟨g', c', cur, h1, hb, ?_, r⟩
    simp only [Value.slice.injEq, Option.some.injEq, Addr.mk.injEq] at h1
    rw [← h1.1.1] at hg ⊢
    rw [e]
    exact hg

/-- An entry as it is copied: its argument, its answer's box, its own box. -/
structure TGo (w W : World) (a : Option Addr) (n c : Nat) (x : GP) (g1 : Nat) (v0 v1 v2 v3 : Value) : Prop where
  b0 : W.heap[w.heap.size]? = some (.cells #[.slice a n c, .int .i64 x.ser, .int .i64 x.tm, .int .i64 x.rs] 91 (0, 0))
  b1 : W.heap[w.heap.size + 1]? = some (.cells #[.slice none 0 0, .int .i64 0, .int .i64 0, .int .i64 0] 63 (0, 0))
  b2 : W.heap[w.heap.size + 1 + 1]? = some (.cells #[v0, v1, v2, v3] 63 (0, 0))
  own : ∃ vs, W.ownsRow (w.heap.size + 3) 107 2 (.slice (some ⟨g1, 0, none⟩) n n) n vs
  pts : Pts W (some ⟨g1, 0, none⟩) n x.parts
  below : Below w.heap.size w W
  g3 : w.heap.size + 3 ≤ g1
  lt : w.heap.size + 3 ≤ W.heap.size
theorem TGo.set {w W : World} {a : Option Addr} {n c : Nat} {x : GP} {g1 : Nat} {v0 v1 v2 v3 u0 u1 u2 u3 : Value} (h : TGo w W a n c x g1 v0 v1 v2 v3) (j : Nat) (u : Value) (e : (#[v0, v1, v2, v3] : Array Value).setIfInBounds j u = #[u0, u1, u2, u3]) : TGo w (W.setCell ⟨w.heap.size + 1 + 1, j, none⟩ u) a n c x g1 u0 u1 u2 u3 := by
  have hg := h.g3
  have f : ∀ l, l ≠ w.heap.size + 2 → (W.setCell ⟨w.heap.size + 1 + 1, j, none⟩ u).heap[l]? = W.heap[l]? := fun l hl => Below.heap_setCell _ _ _ _ (by show l ≠ w.heap.size + 1 + 1; omega)
  obtain ⟨vo, ho⟩ := h.own
  refine ⟨(f _ (by omega)).trans h.b0, (f _ (by omega)).trans h.b1, ?_, ⟨vo, ownsRow_at ho (f _ (by omega))⟩, h.pts.same (f _ (by omega)) (by simp), ⟨h.below.os, h.below.tape, h.below.output, by simpa [World.setCell] using h.below.size, fun l hl => (f l (by omega)).trans (h.below.block l hl)⟩, hg, by simpa [World.setCell] using h.lt⟩
  rw [← e]
  exact heap_setCell_same W (w.heap.size + 1 + 1) j _ 63 u h.b2
theorem TGo.out {w W : World} {a : Option Addr} {n c : Nat} {x : GP} {g1 : Nat} {v0 v1 v2 v3 : Value} (h : TGo w W a n c x g1 v0 v1 v2 v3) (j : Nat) : W.cell? ⟨w.heap.size + 1 + 1, j, none⟩ = (#[v0, v1, v2, v3] : Array Value)[j]? ∧ W.frozen? ⟨w.heap.size + 1 + 1, j, none⟩ = false ∧ W.cell? ⟨w.heap.size, j, none⟩ = (#[.slice a n c, .int .i64 x.ser, .int .i64 x.tm, .int .i64 x.rs] : Array Value)[j]? :=
  ⟨cell_of_row _ _ j _ 63 (0, 0) h.b2, frozen_of_row W _ j _ 63 h.b2, cell_of_row _ _ j _ 91 (0, 0) h.b0⟩
theorem TGo.all {w W : World} {a : Option Addr} {n c : Nat} {x : GP} {g1 : Nat} {v0 v1 v2 v3 : Value} (h : TGo w W a n c x g1 v0 v1 v2 v3) : (W.cell? ⟨w.heap.size + 1 + 1, 0, none⟩ = some v0 ∧ W.cell? ⟨w.heap.size + 1 + 1, 1, none⟩ = some v1 ∧ W.cell? ⟨w.heap.size + 1 + 1, 2, none⟩ = some v2 ∧ W.cell? ⟨w.heap.size + 1 + 1, 3, none⟩ = some v3) ∧ (W.cell? ⟨w.heap.size + 1, 0, none⟩ = some (.slice none 0 0) ∧ W.cell? ⟨w.heap.size + 1, 1, none⟩ = some (.int .i64 0) ∧ W.cell? ⟨w.heap.size + 1, 2, none⟩ = some (.int .i64 0) ∧ W.cell? ⟨w.heap.size + 1, 3, none⟩ = some (.int .i64 0)) ∧ W.frozen? ⟨w.heap.size + 1, 0, none⟩ = false ∧ W.frozen? ⟨w.heap.size + 1, 1, none⟩ = false ∧ W.frozen? ⟨w.heap.size + 1, 2, none⟩ = false ∧ W.frozen? ⟨w.heap.size + 1, 3, none⟩ = false :=
  ⟨⟨(h.out 0).1, (h.out 1).1, (h.out 2).1, (h.out 3).1⟩, ⟨(cell_of_row _ _ 0 _ 63 (0, 0) h.b1).trans rfl, (cell_of_row _ _ 1 _ 63 (0, 0) h.b1).trans rfl, (cell_of_row _ _ 2 _ 63 (0, 0) h.b1).trans rfl, (cell_of_row _ _ 3 _ 63 (0, 0) h.b1).trans rfl⟩, frozen_of_row W _ 0 _ 63 h.b1, frozen_of_row W _ 1 _ 63 h.b1, frozen_of_row W _ 2 _ 63 h.b1, frozen_of_row W _ 3 _ 63 h.b1⟩

set_option maxRecDepth 10000 in
set_option maxHeartbeats 2000000 in
theorem toGone_own (a : Option Addr) (n c : Nat) (x : GP) (w : World) (h : Pts w a n x.parts) (hn : n ≤ 1048576) :
    Calls Tryd.prog 67 #[gov a n c x] w fun e w' => ∃ g', e = .returned (gov (some ⟨g', 0, none⟩) n n x) ∧ w.heap.size ≤ g' ∧ (∃ vs, w'.ownsRow w.heap.size 107 2 (.slice (some ⟨g', 0, none⟩) n n) n vs) ∧ Pts w' (some ⟨g', 0, none⟩) n x.parts ∧ Below w.heap.size w w' := by
  have HK : Hid (Pts w a n x.parts) := h
  clear h
  unfold gov
  obtain ⟨W0, hW0⟩ : ∃ W0, W0 = (((w.alloc (.cells #[.slice a n c, .int .i64 x.ser, .int .i64 x.tm, .int .i64 x.rs] 91)).alloc (.cells #[.slice none 0 0, .int .i64 0, .int .i64 0, .int .i64 0] 63)).alloc (.cells #[.slice none 0 0, .int .i64 0, .int .i64 0, .int .i64 0] 63)) := ⟨_, rfl⟩
  have hB0 : Below w.heap.size w W0 := by rw [hW0]; exact three_below _ _ _ _
  have hS0 : W0.heap.size = w.heap.size + 3 := by rw [hW0]; simp
  obtain ⟨b0, b1, b2⟩ := three_blocks' w (.cells #[.slice a n c, .int .i64 x.ser, .int .i64 x.tm, .int .i64 x.rs] 91) (.cells #[.slice none 0 0, .int .i64 0, .int .i64 0, .int .i64 0] 63) (.cells #[.slice none 0 0, .int .i64 0, .int .i64 0, .int .i64 0] 63)
  rw [← hW0] at b0 b1 b2
  go_enter Tryd.func67, Tryd.ntmps67
  go_wp2_with fail
  rw [← hW0]
  clear hW0
  refine (toName_own a n c x.parts _ (HK.out.kept hB0) hn).mono ?_
  rintro e w1 ⟨g1, rfl, hg1, hv1, ho1, hb1⟩
  have hs1 := hb1.size
  have T1 : Hid (TGo w w1 a n c x g1 (.slice none 0 0) (.int .i64 0) (.int .i64 0) (.int .i64 0)) := ⟨heap_kept' hb1 (by omega) b0, heap_kept' hb1 (by omega) b1, heap_kept' hb1 (by omega) b2, by rw [← hS0]; exact hv1, ho1, hB0.trans (hb1.mono (by omega)), by omega, by omega⟩
  clear b0 b1 b2 ho1 hv1 hb1 hB0 hg1 hs1 hS0 HK
  unfold nmv
  obtain ⟨o0, f0, a0⟩ := T1.out.out 0
  have o0 : w1.cell? ⟨w.heap.size + 1 + 1, 0, none⟩ = some (.slice none 0 0) := o0
  have a0 : w1.cell? ⟨w.heap.size, 0, none⟩ = some (.slice a n c) := a0
  have hl0 := T1.out.lt
  obtain ⟨w2, hw2⟩ : ∃ w2, w2 = w1.setCell ⟨w.heap.size + 1 + 1, 0, none⟩ (.slice (some ⟨g1, 0, none⟩) n n) := ⟨_, rfl⟩
  have T2 : Hid (TGo w w2 a n c x g1 (.slice (some ⟨g1, 0, none⟩) n n) (.int .i64 0) (.int .i64 0) (.int .i64 0)) := by rw [hw2]; exact T1.out.set 0 _ rfl
  have HW2 : Hid (_ = _) := hw2
  clear hw2
  go_upto_region 3 with fail
  rw [← HW2.out]
  clear HW2 o0 f0 a0 hl0 T1
  obtain ⟨o1, f1, a1⟩ := T2.out.out 1
  have o1 : w2.cell? ⟨w.heap.size + 1 + 1, 1, none⟩ = some (.int .i64 0) := o1
  have a1 : w2.cell? ⟨w.heap.size, 1, none⟩ = some (.int .i64 x.ser) := a1
  have hl1 := T2.out.lt
  obtain ⟨w3, hw3⟩ : ∃ w3, w3 = w2.setCell ⟨w.heap.size + 1 + 1, 1, none⟩ (.int .i64 x.ser) := ⟨_, rfl⟩
  have T3 : Hid (TGo w w3 a n c x g1 (.slice (some ⟨g1, 0, none⟩) n n) (.int .i64 x.ser) (.int .i64 0) (.int .i64 0)) := by rw [hw3]; exact T2.out.set 1 _ rfl
  have HW3 : Hid (_ = _) := hw3
  clear hw3
  go_upto_region 4 with fail
  rw [← HW3.out]
  clear HW3 o1 f1 a1 hl1 T2
  obtain ⟨o2, f2, a2⟩ := T3.out.out 2
  have o2 : w3.cell? ⟨w.heap.size + 1 + 1, 2, none⟩ = some (.int .i64 0) := o2
  have a2 : w3.cell? ⟨w.heap.size, 2, none⟩ = some (.int .i64 x.tm) := a2
  have hl2 := T3.out.lt
  obtain ⟨w4, hw4⟩ : ∃ w4, w4 = w3.setCell ⟨w.heap.size + 1 + 1, 2, none⟩ (.int .i64 x.tm) := ⟨_, rfl⟩
  have T4 : Hid (TGo w w4 a n c x g1 (.slice (some ⟨g1, 0, none⟩) n n) (.int .i64 x.ser) (.int .i64 x.tm) (.int .i64 0)) := by rw [hw4]; exact T3.out.set 2 _ rfl
  have HW4 : Hid (_ = _) := hw4
  clear hw4
  go_upto_region 5 with fail
  rw [← HW4.out]
  clear HW4 o2 f2 a2 hl2 T3
  obtain ⟨o3, f3, a3⟩ := T4.out.out 3
  have o3 : w4.cell? ⟨w.heap.size + 1 + 1, 3, none⟩ = some (.int .i64 0) := o3
  have a3 : w4.cell? ⟨w.heap.size, 3, none⟩ = some (.int .i64 x.rs) := a3
  have hl3 := T4.out.lt
  obtain ⟨w5, hw5⟩ : ∃ w5, w5 = w4.setCell ⟨w.heap.size + 1 + 1, 3, none⟩ (.int .i64 x.rs) := ⟨_, rfl⟩
  have T5 : Hid (TGo w w5 a n c x g1 (.slice (some ⟨g1, 0, none⟩) n n) (.int .i64 x.ser) (.int .i64 x.tm) (.int .i64 x.rs)) := by rw [hw5]; exact T4.out.set 3 _ rfl
  have HW5 : Hid (_ = _) := hw5
  clear hw5
  go_upto_region 6 with fail
  rw [← HW5.out]
  clear HW5 o3 f3 a3 hl3 T4
  obtain ⟨⟨o0, o1, o2, o3⟩, ⟨r0, r1, r2, r3⟩, f0, f1, f2, f3⟩ := T5.out.all
  have hl5 := T5.out.lt
  go_wp2
  try simp only [Exit.inBlock, Exit.then]
  have hgg := T5.out.g3
  have q1 := put4_row T5.out.b1 (.slice (some ⟨g1, 0, none⟩) n n) (.int .i64 x.ser) (.int .i64 x.tm) (.int .i64 x.rs)
  refine bodyPost_ret (results_go rfl _ (w.heap.size + 1) rfl _ _ _ _ _ q1) rfl ⟨_, rfl, by omega, ⟨T5.out.own.choose, ownsRow_lower (ownsRow_at T5.out.own.choose_spec (put4_other _ _ _ _ (by omega) _ _ _ _)) (by omega)⟩, T5.out.pts.same (put4_other _ _ _ _ (by omega) _ _ _ _) (by simp), ?_⟩
  exact ⟨T5.out.below.os, T5.out.below.tape, T5.out.below.output, by simpa [World.setCell] using T5.out.below.size, fun l hl => (put4_other _ _ _ _ (by omega) _ _ _ _).trans (T5.out.below.block l hl)⟩


end Go.Proofs.YtbfjkmlmnhphoaaDoor
