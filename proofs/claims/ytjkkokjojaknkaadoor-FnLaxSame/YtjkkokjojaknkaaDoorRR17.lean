import Derived.Test.YtjkkokjojaknkaaDoorRR16n
import Derived.Test.YtjkkokjojaknkaaDoorRR11
namespace Go.Proofs.YtjkkokjojaknkaaDoor
open Go.RowKit

theorem sitemC_all (RB : Nat) (lax : Bool) (bs : List Int) (n cap : Nat) (a : Option Addr) (hn : n ≤ 20000) (hcap : n ≤ cap) : ∀ r, r ≤ 12 → SItemC RB lax bs n cap a r := by
  intro r
  induction r with
  | zero => exact fun _ => sitemC_zero RB lax bs n cap a
  | succ r ih => exact fun h => sitemC_next RB lax bs n cap a hn hcap r h (ih (by omega))

set_option maxRecDepth 10000 in
set_option maxHeartbeats 8000000 in
theorem specReadItem_any (a : Option Addr) (n cap : Nat) (lax : Bool) (bs : List Int) (w : World) (h : Row w a n bs) (hcap : n ≤ cap) (hn63 : n ≤ 9223372036854775807) :
    Calls Tryd.prog 21 #[.slice a n cap, .bool lax] w fun ev w' => RiPost (readR lax bs) w ev w' := by
  have HR : Hid (Row w a n bs) := h
  have hlen := h.len
  clear h
  have hB0 : Below w.heap.size w (w.alloc (.cells #[.int .i64 0, .int .i64 0, .bool false, .slice none 0 0, .slice none 0 0] 26)) := (Below.refl _ _).alloc (Nat.le_refl _) _
  have b0 := heap_alloc_new w (.cells #[.int .i64 0, .int .i64 0, .bool false, .slice none 0 0, .slice none 0 0] 26)
  have hS0 : (w.alloc (.cells #[.int .i64 0, .int .i64 0, .bool false, .slice none 0 0, .slice none 0 0] 26)).heap.size = w.heap.size + 1 := by simp
  by_cases hlong : 20000 < n
  · have hf : Hid (readR lax bs = .no 7 0) := readR_long (by omega)
    have hli : (20000 : Int) < (n : Int) := by omega
    go_enter Tryd.func21, Tryd.ntmps21
    go_upto_region 2 with fail
    obtain ⟨W0, hW0⟩ : ∃ W0, W0 = w.alloc (.cells #[.int .i64 0, .int .i64 0, .bool false, .slice none 0 0, .slice none 0 0] 26) := ⟨_, rfl⟩
    rw [← hW0] at b0 hB0 hS0 ⊢
    clear hW0
    have X8 : Hid (_ = _) := b0
    have zc0 : W0.cell? ⟨w.heap.size, 0, none⟩ = some (.int .i64 0) := (cell_of_row _ (w.heap.size) 0 _ 26 (0, 0) b0).trans rfl
    have zf0 : W0.frozen? ⟨w.heap.size, 0, none⟩ = false := frozen_of_row W0 (w.heap.size) 0 _ 26 b0
    have zc1 : W0.cell? ⟨w.heap.size, 1, none⟩ = some (.int .i64 0) := (cell_of_row _ (w.heap.size) 1 _ 26 (0, 0) b0).trans rfl
    have zf1 : W0.frozen? ⟨w.heap.size, 1, none⟩ = false := frozen_of_row W0 (w.heap.size) 1 _ 26 b0
    have zc2 : W0.cell? ⟨w.heap.size, 2, none⟩ = some (.bool false) := (cell_of_row _ (w.heap.size) 2 _ 26 (0, 0) b0).trans rfl
    have zf2 : W0.frozen? ⟨w.heap.size, 2, none⟩ = false := frozen_of_row W0 (w.heap.size) 2 _ 26 b0
    have zc3 : W0.cell? ⟨w.heap.size, 3, none⟩ = some (.slice none 0 0) := (cell_of_row _ (w.heap.size) 3 _ 26 (0, 0) b0).trans rfl
    have zf3 : W0.frozen? ⟨w.heap.size, 3, none⟩ = false := frozen_of_row W0 (w.heap.size) 3 _ 26 b0
    have zc4 : W0.cell? ⟨w.heap.size, 4, none⟩ = some (.slice none 0 0) := (cell_of_row _ (w.heap.size) 4 _ 26 (0, 0) b0).trans rfl
    have zf4 : W0.frozen? ⟨w.heap.size, 4, none⟩ = false := frozen_of_row W0 (w.heap.size) 4 _ 26 b0
    clear b0
    go_wp2
    have q0 := heap_setCell_same (W0) (w.heap.size) 0 _ 26 (.int .i64 0) X8.out
    have q1 := heap_setCell_same ((W0).setCell ⟨w.heap.size, 0, none⟩ (.int .i64 0)) (w.heap.size) 1 _ 26 (.int .i64 0) q0
    have q2 := heap_setCell_same (((W0).setCell ⟨w.heap.size, 0, none⟩ (.int .i64 0)).setCell ⟨w.heap.size, 1, none⟩ (.int .i64 0)) (w.heap.size) 2 _ 26 (.bool false) q1
    have q3 := heap_setCell_same ((((W0).setCell ⟨w.heap.size, 0, none⟩ (.int .i64 0)).setCell ⟨w.heap.size, 1, none⟩ (.int .i64 0)).setCell ⟨w.heap.size, 2, none⟩ (.bool false)) (w.heap.size) 3 _ 26 (.slice none 0 0) q2
    have q4 := heap_setCell_same (((((W0).setCell ⟨w.heap.size, 0, none⟩ (.int .i64 0)).setCell ⟨w.heap.size, 1, none⟩ (.int .i64 0)).setCell ⟨w.heap.size, 2, none⟩ (.bool false)).setCell ⟨w.heap.size, 3, none⟩ (.slice none 0 0)) (w.heap.size) 4 _ 26 (.slice none 0 0) q3
    have tt : Touch (w.heap.size) (w.heap.size + 1) W0 ((((((W0).setCell ⟨w.heap.size, 0, none⟩ (.int .i64 0)).setCell ⟨w.heap.size, 1, none⟩ (.int .i64 0)).setCell ⟨w.heap.size, 2, none⟩ (.bool false)).setCell ⟨w.heap.size, 3, none⟩ (.slice none 0 0)).setCell ⟨w.heap.size, 4, none⟩ (.slice none 0 0)) := ((((touch_set _ _ _ _ (by omega) (by omega)).trans (touch_set _ _ _ _ (by omega) (by omega))).trans (touch_set _ _ _ _ (by omega) (by omega))).trans (touch_set _ _ _ _ (by omega) (by omega))).trans (touch_set _ _ _ _ (by omega) (by omega))
    have tse : ((((((W0).setCell ⟨w.heap.size, 0, none⟩ (.int .i64 0)).setCell ⟨w.heap.size, 1, none⟩ (.int .i64 0)).setCell ⟨w.heap.size, 2, none⟩ (.bool false)).setCell ⟨w.heap.size, 3, none⟩ (.slice none 0 0)).setCell ⟨w.heap.size, 4, none⟩ (.slice none 0 0)).heap.size = W0.heap.size := by simp
    try simp only [Exit.inBlock, Exit.then]
    refine bodyPost_ret (results_item3 rfl _ (w.heap.size) rfl _ _ _ _ _ _ q4) rfl ?_
    refine ⟨hB0.trans (tt.below (Nat.le_refl _) (by omega)), ?_⟩
    rw [hf.out]
    rfl
  have hli : ¬ (20000 : Int) < (n : Int) := by omega
  obtain ⟨b0', b1'⟩ := two_blocks w (.cells #[.int .i64 0, .int .i64 0, .bool false, .slice none 0 0, .slice none 0 0] 26) (.cells #[.slice a n cap, .bool lax, .int .i64 0, .int .i64 0] 68)
  have hB1 : Below w.heap.size w ((w.alloc (.cells #[.int .i64 0, .int .i64 0, .bool false, .slice none 0 0, .slice none 0 0] 26)).alloc (.cells #[.slice a n cap, .bool lax, .int .i64 0, .int .i64 0] 68)) := ((Below.refl _ _).alloc (Nat.le_refl _) _).alloc (by simp) _
  have hS1 : ((w.alloc (.cells #[.int .i64 0, .int .i64 0, .bool false, .slice none 0 0, .slice none 0 0] 26)).alloc (.cells #[.slice a n cap, .bool lax, .int .i64 0, .int .i64 0] 68)).heap.size = w.heap.size + 2 := by simp
  go_enter Tryd.func21, Tryd.ntmps21
  go_upto_region 4 with fail
  obtain ⟨W1, hW1⟩ : ∃ W1, W1 = ((w.alloc (.cells #[.int .i64 0, .int .i64 0, .bool false, .slice none 0 0, .slice none 0 0] 26)).alloc (.cells #[.slice a n cap, .bool lax, .int .i64 0, .int .i64 0] 68)) := ⟨_, rfl⟩
  rw [← hW1] at b0' b1' hB1 hS1 ⊢
  clear hW1 b0 hB0 hS0
  have hin : In a n 0 (w.heap.size + 1) := fun b off hb hn0 => by have := HR.out.in_ b off hb hn0; omega
  have HC := sitemC_all (w.heap.size + 1) lax bs n cap a (by omega) hcap 12 (Nat.le_refl _) 0 n 0 W1 (HR.out.kept hB1) hin b1' (Nat.zero_le _) (Nat.le_refl _)
  cases hit : itemR lax bs 12 0 n with
  | no c p =>
    rw [hit] at HC
    have hf : Hid (readR lax bs = .no c p) := readR_no (by omega) (by rw [hlen]; exact hit)
    have hcode := itemR_code 12 0 n (Nat.zero_le _) hit
    have hne : ((c : Int) != 0) = true := by simp; omega
    have hne2 : ((c : Int) == 0) = false := by simp; omega
    clear hit
    go_upto_region 5 with (go_at_call 44; refine HC.mono ?_; rintro ev w3 ⟨t3, ⟨v, u, rfl, i2, j2, b2, a3, n3, c3, a4, n4, c4, rfl⟩, hbx3⟩)
    have hs3 := t3.size
    have hal : Below w3.heap.size w3 (w3.alloc (.cells #[.int .i64 i2, .int .i64 j2, .bool b2, .slice a3 n3 c3, .slice a4 n4 c4] 26)) := (Below.refl _ _).alloc (Nat.le_refl _) _
    have hsa : (w3.alloc (.cells #[.int .i64 i2, .int .i64 j2, .bool b2, .slice a3 n3 c3, .slice a4 n4 c4] 26)).heap.size = w3.heap.size + 1 := by simp
    obtain ⟨W4, hW4⟩ : ∃ W4, W4 = w3.alloc (.cells #[.int .i64 i2, .int .i64 j2, .bool b2, .slice a3 n3 c3, .slice a4 n4 c4] 26) := ⟨_, rfl⟩
    rw [← hW4] at hal hsa ⊢
    clear hW4
    have hbx4 := hbx3.kept hal
    have x8 := heap_kept hal (by omega) ((t3.block w.heap.size (by omega) (.inl (by omega))).trans b0')
    have hB4 : Below w.heap.size w W4 := (hB1.trans (t3.below (by omega) (by omega))).trans (hal.mono (by omega))
    obtain ⟨d0, d1, d2, d3⟩ := RBox.cells hbx4
    have X8 : Hid (_ = _) := x8
    have hne3 : ¬ w.heap.size + 1 = w.heap.size := by omega
    have zc0 : W4.cell? ⟨w.heap.size, 0, none⟩ = some (.int .i64 0) := (cell_of_row _ (w.heap.size) 0 _ 26 (0, 0) X8.out).trans rfl
    have zf0 : W4.frozen? ⟨w.heap.size, 0, none⟩ = false := frozen_of_row W4 (w.heap.size) 0 _ 26 X8.out
    have zc1 : W4.cell? ⟨w.heap.size, 1, none⟩ = some (.int .i64 0) := (cell_of_row _ (w.heap.size) 1 _ 26 (0, 0) X8.out).trans rfl
    have zf1 : W4.frozen? ⟨w.heap.size, 1, none⟩ = false := frozen_of_row W4 (w.heap.size) 1 _ 26 X8.out
    have zc2 : W4.cell? ⟨w.heap.size, 2, none⟩ = some (.bool false) := (cell_of_row _ (w.heap.size) 2 _ 26 (0, 0) X8.out).trans rfl
    have zf2 : W4.frozen? ⟨w.heap.size, 2, none⟩ = false := frozen_of_row W4 (w.heap.size) 2 _ 26 X8.out
    have zc3 : W4.cell? ⟨w.heap.size, 3, none⟩ = some (.slice none 0 0) := (cell_of_row _ (w.heap.size) 3 _ 26 (0, 0) X8.out).trans rfl
    have zf3 : W4.frozen? ⟨w.heap.size, 3, none⟩ = false := frozen_of_row W4 (w.heap.size) 3 _ 26 X8.out
    have zc4 : W4.cell? ⟨w.heap.size, 4, none⟩ = some (.slice none 0 0) := (cell_of_row _ (w.heap.size) 4 _ 26 (0, 0) X8.out).trans rfl
    have zf4 : W4.frozen? ⟨w.heap.size, 4, none⟩ = false := frozen_of_row W4 (w.heap.size) 4 _ 26 X8.out
    clear x8 hbx3 hbx4 t3 hal HC b0' b1' hB1
    go_upto_region 8 with fail
    go_region
    go_wp2
    have q0 := heap_setCell_same (W4) (w.heap.size) 0 _ 26 (.int .i64 0) X8.out
    have q1 := heap_setCell_same ((W4).setCell ⟨w.heap.size, 0, none⟩ (.int .i64 0)) (w.heap.size) 1 _ 26 (.int .i64 0) q0
    have q2 := heap_setCell_same (((W4).setCell ⟨w.heap.size, 0, none⟩ (.int .i64 0)).setCell ⟨w.heap.size, 1, none⟩ (.int .i64 0)) (w.heap.size) 2 _ 26 (.bool false) q1
    have q3 := heap_setCell_same ((((W4).setCell ⟨w.heap.size, 0, none⟩ (.int .i64 0)).setCell ⟨w.heap.size, 1, none⟩ (.int .i64 0)).setCell ⟨w.heap.size, 2, none⟩ (.bool false)) (w.heap.size) 3 _ 26 (.slice none 0 0) q2
    have q4 := heap_setCell_same (((((W4).setCell ⟨w.heap.size, 0, none⟩ (.int .i64 0)).setCell ⟨w.heap.size, 1, none⟩ (.int .i64 0)).setCell ⟨w.heap.size, 2, none⟩ (.bool false)).setCell ⟨w.heap.size, 3, none⟩ (.slice none 0 0)) (w.heap.size) 4 _ 26 (.slice none 0 0) q3
    have tt : Touch (w.heap.size) (w.heap.size + 1) W4 ((((((W4).setCell ⟨w.heap.size, 0, none⟩ (.int .i64 0)).setCell ⟨w.heap.size, 1, none⟩ (.int .i64 0)).setCell ⟨w.heap.size, 2, none⟩ (.bool false)).setCell ⟨w.heap.size, 3, none⟩ (.slice none 0 0)).setCell ⟨w.heap.size, 4, none⟩ (.slice none 0 0)) := ((((touch_set _ _ _ _ (by omega) (by omega)).trans (touch_set _ _ _ _ (by omega) (by omega))).trans (touch_set _ _ _ _ (by omega) (by omega))).trans (touch_set _ _ _ _ (by omega) (by omega))).trans (touch_set _ _ _ _ (by omega) (by omega))
    have tse : ((((((W4).setCell ⟨w.heap.size, 0, none⟩ (.int .i64 0)).setCell ⟨w.heap.size, 1, none⟩ (.int .i64 0)).setCell ⟨w.heap.size, 2, none⟩ (.bool false)).setCell ⟨w.heap.size, 3, none⟩ (.slice none 0 0)).setCell ⟨w.heap.size, 4, none⟩ (.slice none 0 0)).heap.size = W4.heap.size := by simp
    try simp only [Exit.inBlock, Exit.then]
    refine bodyPost_ret (results_item3 rfl _ (w.heap.size) rfl _ _ _ _ _ _ q4) rfl ?_
    refine ⟨hB4.trans (tt.below (Nat.le_refl _) (by omega)).drew, ?_⟩
    rw [hf.out]
    rfl
  | ok x nx =>
    rw [hit] at HC
    have hR : Hid (readR lax bs = if nx < bs.length then .no 6 nx else .ok x nx) := readR_ok (by omega) (by rw [hlen]; exact hit)
    clear hit
    go_upto_region 5 with (go_at_call 44; refine HC.mono ?_; rintro ev w3 ⟨t3, ⟨ab, nb, cb, ak, nk, ck, M, rfl, m1, m2, ob, ok⟩, hbx3⟩; unfold itv)
    have hs3 := t3.size
    have hal : Below w3.heap.size w3 (w3.alloc (.cells #[.int .i64 x.cls, .int .i64 x.tag, .bool x.cons, .slice ab nb cb, .slice ak nk ck] 26)) := (Below.refl _ _).alloc (Nat.le_refl _) _
    have hsa : (w3.alloc (.cells #[.int .i64 x.cls, .int .i64 x.tag, .bool x.cons, .slice ab nb cb, .slice ak nk ck] 26)).heap.size = w3.heap.size + 1 := by simp
    have gk := heap_alloc_new w3 (.cells #[.int .i64 x.cls, .int .i64 x.tag, .bool x.cons, .slice ab nb cb, .slice ak nk ck] 26)
    obtain ⟨W4, hW4⟩ : ∃ W4, W4 = w3.alloc (.cells #[.int .i64 x.cls, .int .i64 x.tag, .bool x.cons, .slice ab nb cb, .slice ak nk ck] 26) := ⟨_, rfl⟩
    rw [← hW4] at hal hsa gk ⊢
    clear hW4
    have hbx4 := hbx3.kept hal
    have x8 := heap_kept hal (by omega) ((t3.block w.heap.size (by omega) (.inl (by omega))).trans b0')
    have hB4 : Below w.heap.size w W4 := (hB1.trans (t3.below (by omega) (by omega))).trans (hal.mono (by omega))
    have HOB : Hid (OwnB W1.heap.size M W4 ab nb cb x.body) := ob.kept hal
    have HOK : Hid (OwnKids 12 M w3.heap.size W4 ak nk x.kids) := ok.kept hal
    obtain ⟨d0, d1, d2, d3⟩ := RBox.cells hbx4
    have X8 : Hid (_ = _) := x8
    have XK : Hid (_ = _) := gk
    have HB4 : Hid (_) := hB4
    have HBX4 : Hid (RBox (w.heap.size + 1) W4 a n cap lax 0 0) := hbx4
    clear x8 gk hbx3 t3 hal HC b0' b1' hB1 ob ok hbx4
    by_cases hlt : nx < n
    · have hf : Hid (readR lax bs = .no 6 nx) := by show _ = _; rw [hR.out, if_pos (by omega)]
      have hlti : (nx : Int) < (n : Int) := by omega
      go_upto_region 7 with (go_at_call 45; refine (fail_any (w.heap.size + 1) a n cap lax 0 6 (nx : Int) W4 HBX4.out).mono ?_; rintro e w9 ⟨rfl, hbx9, t9⟩)
      have hs9 := t9.size
      have x89 := (t9.block w.heap.size (by omega) (.inl (by omega))).trans X8.out
      have hB9 : Below w.heap.size w w9 := HB4.out.trans (t9.below (by omega) (by omega))
      clear d0 d1 d2 d3
      obtain ⟨d0, d1, d2, d3⟩ := RBox.cells hbx9
      have X89 : Hid (_ = _) := x89
      have hne3 : ¬ w.heap.size + 1 = w.heap.size := by omega
      have zc0 : w9.cell? ⟨w.heap.size, 0, none⟩ = some (.int .i64 0) := (cell_of_row _ (w.heap.size) 0 _ 26 (0, 0) X89.out).trans rfl
      have zf0 : w9.frozen? ⟨w.heap.size, 0, none⟩ = false := frozen_of_row w9 (w.heap.size) 0 _ 26 X89.out
      have zc1 : w9.cell? ⟨w.heap.size, 1, none⟩ = some (.int .i64 0) := (cell_of_row _ (w.heap.size) 1 _ 26 (0, 0) X89.out).trans rfl
      have zf1 : w9.frozen? ⟨w.heap.size, 1, none⟩ = false := frozen_of_row w9 (w.heap.size) 1 _ 26 X89.out
      have zc2 : w9.cell? ⟨w.heap.size, 2, none⟩ = some (.bool false) := (cell_of_row _ (w.heap.size) 2 _ 26 (0, 0) X89.out).trans rfl
      have zf2 : w9.frozen? ⟨w.heap.size, 2, none⟩ = false := frozen_of_row w9 (w.heap.size) 2 _ 26 X89.out
      have zc3 : w9.cell? ⟨w.heap.size, 3, none⟩ = some (.slice none 0 0) := (cell_of_row _ (w.heap.size) 3 _ 26 (0, 0) X89.out).trans rfl
      have zf3 : w9.frozen? ⟨w.heap.size, 3, none⟩ = false := frozen_of_row w9 (w.heap.size) 3 _ 26 X89.out
      have zc4 : w9.cell? ⟨w.heap.size, 4, none⟩ = some (.slice none 0 0) := (cell_of_row _ (w.heap.size) 4 _ 26 (0, 0) X89.out).trans rfl
      have zf4 : w9.frozen? ⟨w.heap.size, 4, none⟩ = false := frozen_of_row w9 (w.heap.size) 4 _ 26 X89.out
      clear x89 hbx9 t9 hB4
      go_upto_region 8 with fail
      go_region
      go_wp2
      have q0 := heap_setCell_same (w9) (w.heap.size) 0 _ 26 (.int .i64 0) X89.out
      have q1 := heap_setCell_same ((w9).setCell ⟨w.heap.size, 0, none⟩ (.int .i64 0)) (w.heap.size) 1 _ 26 (.int .i64 0) q0
      have q2 := heap_setCell_same (((w9).setCell ⟨w.heap.size, 0, none⟩ (.int .i64 0)).setCell ⟨w.heap.size, 1, none⟩ (.int .i64 0)) (w.heap.size) 2 _ 26 (.bool false) q1
      have q3 := heap_setCell_same ((((w9).setCell ⟨w.heap.size, 0, none⟩ (.int .i64 0)).setCell ⟨w.heap.size, 1, none⟩ (.int .i64 0)).setCell ⟨w.heap.size, 2, none⟩ (.bool false)) (w.heap.size) 3 _ 26 (.slice none 0 0) q2
      have q4 := heap_setCell_same (((((w9).setCell ⟨w.heap.size, 0, none⟩ (.int .i64 0)).setCell ⟨w.heap.size, 1, none⟩ (.int .i64 0)).setCell ⟨w.heap.size, 2, none⟩ (.bool false)).setCell ⟨w.heap.size, 3, none⟩ (.slice none 0 0)) (w.heap.size) 4 _ 26 (.slice none 0 0) q3
      have tt : Touch (w.heap.size) (w.heap.size + 1) w9 ((((((w9).setCell ⟨w.heap.size, 0, none⟩ (.int .i64 0)).setCell ⟨w.heap.size, 1, none⟩ (.int .i64 0)).setCell ⟨w.heap.size, 2, none⟩ (.bool false)).setCell ⟨w.heap.size, 3, none⟩ (.slice none 0 0)).setCell ⟨w.heap.size, 4, none⟩ (.slice none 0 0)) := ((((touch_set _ _ _ _ (by omega) (by omega)).trans (touch_set _ _ _ _ (by omega) (by omega))).trans (touch_set _ _ _ _ (by omega) (by omega))).trans (touch_set _ _ _ _ (by omega) (by omega))).trans (touch_set _ _ _ _ (by omega) (by omega))
      have tse : ((((((w9).setCell ⟨w.heap.size, 0, none⟩ (.int .i64 0)).setCell ⟨w.heap.size, 1, none⟩ (.int .i64 0)).setCell ⟨w.heap.size, 2, none⟩ (.bool false)).setCell ⟨w.heap.size, 3, none⟩ (.slice none 0 0)).setCell ⟨w.heap.size, 4, none⟩ (.slice none 0 0)).heap.size = w9.heap.size := by simp
      try simp only [Exit.inBlock, Exit.then]
      refine bodyPost_ret (results_item3 rfl _ (w.heap.size) rfl _ _ _ _ _ _ q4) rfl ?_
      refine ⟨hB9.trans (tt.below (Nat.le_refl _) (by omega)).drew, ?_⟩
      rw [hf.out]
      rfl
    · have hf : Hid (readR lax bs = .ok x nx) := by show _ = _; rw [hR.out, if_neg (by omega)]
      have hlti : ¬ (nx : Int) < (n : Int) := by omega
      have zc0 : W4.cell? ⟨w.heap.size, 0, none⟩ = some (.int .i64 0) := (cell_of_row _ (w.heap.size) 0 _ 26 (0, 0) X8.out).trans rfl
      have zf0 : W4.frozen? ⟨w.heap.size, 0, none⟩ = false := frozen_of_row W4 (w.heap.size) 0 _ 26 X8.out
      have zc1 : W4.cell? ⟨w.heap.size, 1, none⟩ = some (.int .i64 0) := (cell_of_row _ (w.heap.size) 1 _ 26 (0, 0) X8.out).trans rfl
      have zf1 : W4.frozen? ⟨w.heap.size, 1, none⟩ = false := frozen_of_row W4 (w.heap.size) 1 _ 26 X8.out
      have zc2 : W4.cell? ⟨w.heap.size, 2, none⟩ = some (.bool false) := (cell_of_row _ (w.heap.size) 2 _ 26 (0, 0) X8.out).trans rfl
      have zf2 : W4.frozen? ⟨w.heap.size, 2, none⟩ = false := frozen_of_row W4 (w.heap.size) 2 _ 26 X8.out
      have zc3 : W4.cell? ⟨w.heap.size, 3, none⟩ = some (.slice none 0 0) := (cell_of_row _ (w.heap.size) 3 _ 26 (0, 0) X8.out).trans rfl
      have zf3 : W4.frozen? ⟨w.heap.size, 3, none⟩ = false := frozen_of_row W4 (w.heap.size) 3 _ 26 X8.out
      have zc4 : W4.cell? ⟨w.heap.size, 4, none⟩ = some (.slice none 0 0) := (cell_of_row _ (w.heap.size) 4 _ 26 (0, 0) X8.out).trans rfl
      have zf4 : W4.frozen? ⟨w.heap.size, 4, none⟩ = false := frozen_of_row W4 (w.heap.size) 4 _ 26 X8.out
      have kc0 : W4.cell? ⟨w3.heap.size, 0, none⟩ = some (.int .i64 x.cls) := (cell_of_row _ (w3.heap.size) 0 _ 26 (0, 0) XK.out).trans rfl
      have kc1 : W4.cell? ⟨w3.heap.size, 1, none⟩ = some (.int .i64 x.tag) := (cell_of_row _ (w3.heap.size) 1 _ 26 (0, 0) XK.out).trans rfl
      have kc2 : W4.cell? ⟨w3.heap.size, 2, none⟩ = some (.bool x.cons) := (cell_of_row _ (w3.heap.size) 2 _ 26 (0, 0) XK.out).trans rfl
      have kc3 : W4.cell? ⟨w3.heap.size, 3, none⟩ = some (.slice ab nb cb) := (cell_of_row _ (w3.heap.size) 3 _ 26 (0, 0) XK.out).trans rfl
      have kc4 : W4.cell? ⟨w3.heap.size, 4, none⟩ = some (.slice ak nk ck) := (cell_of_row _ (w3.heap.size) 4 _ 26 (0, 0) XK.out).trans rfl
      go_wp2
      have q0 := heap_setCell_same (W4) (w.heap.size) 0 _ 26 (.int .i64 x.cls) X8.out
      have q1 := heap_setCell_same ((W4).setCell ⟨w.heap.size, 0, none⟩ (.int .i64 x.cls)) (w.heap.size) 1 _ 26 (.int .i64 x.tag) q0
      have q2 := heap_setCell_same (((W4).setCell ⟨w.heap.size, 0, none⟩ (.int .i64 x.cls)).setCell ⟨w.heap.size, 1, none⟩ (.int .i64 x.tag)) (w.heap.size) 2 _ 26 (.bool x.cons) q1
      have q3 := heap_setCell_same ((((W4).setCell ⟨w.heap.size, 0, none⟩ (.int .i64 x.cls)).setCell ⟨w.heap.size, 1, none⟩ (.int .i64 x.tag)).setCell ⟨w.heap.size, 2, none⟩ (.bool x.cons)) (w.heap.size) 3 _ 26 (.slice ab nb cb) q2
      have q4 := heap_setCell_same (((((W4).setCell ⟨w.heap.size, 0, none⟩ (.int .i64 x.cls)).setCell ⟨w.heap.size, 1, none⟩ (.int .i64 x.tag)).setCell ⟨w.heap.size, 2, none⟩ (.bool x.cons)).setCell ⟨w.heap.size, 3, none⟩ (.slice ab nb cb)) (w.heap.size) 4 _ 26 (.slice ak nk ck) q3
      have tt : Touch (w.heap.size) (w.heap.size + 1) W4 ((((((W4).setCell ⟨w.heap.size, 0, none⟩ (.int .i64 x.cls)).setCell ⟨w.heap.size, 1, none⟩ (.int .i64 x.tag)).setCell ⟨w.heap.size, 2, none⟩ (.bool x.cons)).setCell ⟨w.heap.size, 3, none⟩ (.slice ab nb cb)).setCell ⟨w.heap.size, 4, none⟩ (.slice ak nk ck)) := ((((touch_set _ _ _ _ (by omega) (by omega)).trans (touch_set _ _ _ _ (by omega) (by omega))).trans (touch_set _ _ _ _ (by omega) (by omega))).trans (touch_set _ _ _ _ (by omega) (by omega))).trans (touch_set _ _ _ _ (by omega) (by omega))
      have tse : ((((((W4).setCell ⟨w.heap.size, 0, none⟩ (.int .i64 x.cls)).setCell ⟨w.heap.size, 1, none⟩ (.int .i64 x.tag)).setCell ⟨w.heap.size, 2, none⟩ (.bool x.cons)).setCell ⟨w.heap.size, 3, none⟩ (.slice ab nb cb)).setCell ⟨w.heap.size, 4, none⟩ (.slice ak nk ck)).heap.size = W4.heap.size := by simp
      try simp only [Exit.inBlock, Exit.then]
      refine bodyPost_ret (results_item3 rfl _ (w.heap.size) rfl _ _ _ _ _ _ q4) rfl ?_
      refine ⟨HB4.out.trans (tt.below (Nat.le_refl _) (by omega)), ?_⟩
      rw [hf.out]
      refine ⟨ab, nb, cb, ak, nk, ck, M, rfl, by omega, by omega, (HOB.out.touch (.inr (by omega)) tt).mono (by omega) (Nat.le_refl _), ?_⟩
      exact (ownKids_moves 12 _ _ _ _ _ _ _ _ _ HOK.out (.inr (by omega)) tt).wide (by rw [tse]; omega)

end Go.Proofs.YtjkkokjojaknkaaDoor
