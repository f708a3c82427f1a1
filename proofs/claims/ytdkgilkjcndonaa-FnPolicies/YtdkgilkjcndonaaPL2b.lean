import Derived.Test.YtdkgilkjcndonaaPL2a
import Derived.Deep.DeepCutAuto
namespace Go.Proofs.Ytdkgilkjcndonaa
open Go.RowKit

set_option maxRecDepth 10000 in
set_option maxHeartbeats 4000000 in
theorem toPolCert_at (a1 : Option Addr) (n1 c1 : Nat) (a2 : Option Addr) (n2 c2 : Nat) (x : PC) (w : World) (h : PcAt w a1 n1 c1 a2 n2 x) (hz : PcOk x) :
    Calls Try.prog 48 #[pcv a1 n1 c1 a2 n2 c2 x] w fun e w' => ∃ p1 p2, e = .returned (pcv p1 n1 n1 p2 n2 n2 x) ∧ Own64 (w.heap.size + 3) w'.heap.size w' p1 n1 n1 x.pols ∧ OwnPm (w.heap.size + 3) w'.heap.size w' p2 n2 n2 x.maps ∧ Below w.heap.size w w' := by
  have HK : Hid (PcAt w a1 n1 c1 a2 n2 x) := h
  have hn1 : n1 ≤ 1048576 := by rw [← h.pol.len]; exact hz.1
  have hn2 : n2 ≤ 1048576 := by rw [← h.mp.len]; exact hz.2
  clear h hz
  unfold pcv
  obtain ⟨W0, hW0⟩ : ∃ W0, W0 = (((w.alloc (.cells #[.slice a1 n1 c1, .slice a2 n2 c2, .bool x.self, .int .i64 x.need, .int .i64 x.nomap, .int .i64 x.noany] 75)).alloc (.cells #[.slice none 0 0, .slice none 0 0, .bool false, .int .i64 0, .int .i64 0, .int .i64 0] 41)).alloc (.cells #[.slice none 0 0, .slice none 0 0, .bool false, .int .i64 0, .int .i64 0, .int .i64 0] 41)) := ⟨_, rfl⟩
  have hB0 : Below w.heap.size w W0 := by rw [hW0]; exact (((Below.refl _ _).alloc (Nat.le_refl _) _).alloc (by simp) _).alloc (by simp; omega) _
  have hS0 : W0.heap.size = w.heap.size + 3 := by rw [hW0]; simp
  obtain ⟨b0, b1, b2⟩ := three_blocksP w (.cells #[.slice a1 n1 c1, .slice a2 n2 c2, .bool x.self, .int .i64 x.need, .int .i64 x.nomap, .int .i64 x.noany] 75) (.cells #[.slice none 0 0, .slice none 0 0, .bool false, .int .i64 0, .int .i64 0, .int .i64 0] 41) (.cells #[.slice none 0 0, .slice none 0 0, .bool false, .int .i64 0, .int .i64 0, .int .i64 0] 41)
  rw [← hW0] at b0 b1 b2
  have T0 : Hid (TP w W0 a1 n1 c1 a2 n2 c2 x (fun _ => True) (.slice none 0 0) (.slice none 0 0) (.bool false) (.int .i64 0) (.int .i64 0) (.int .i64 0)) := ⟨b0, b1, b2, trivial, fun _ _ _ _ => trivial, hB0, by omega⟩
  clear b0 b1 b2
  go_enter Try.func48, Try.ntmps48
  go_wp2_with fail
  rw [← hW0]
  clear hW0
  refine (toInt64S_any a1 n1 c1 x.pols _ (HK.out.kept hB0).pol hn1).mono ?_
  rintro e w1 ⟨p1, rfl, ho1, hb1⟩
  obtain ⟨h1i, hh1⟩ : ∃ h1i, h1i = w1.heap.size := ⟨_, rfl⟩
  rw [← hh1, hS0] at ho1
  have T1 : Hid (TP w w1 a1 n1 c1 a2 n2 c2 x (fun X => True ∧ Own64 (w.heap.size + 3) h1i X p1 n1 n1 x.pols) (.slice none 0 0) (.slice none 0 0) (.bool false) (.int .i64 0) (.int .i64 0) (.int .i64 0)) := T0.out.call hb1 ho1 (stab_64 (Nat.le_refl _))
  have H1 : Hid (h1i = w1.heap.size) := hh1
  clear ho1 hb1 hB0 hS0 T0 hh1
  obtain ⟨o0, f0, q0⟩ := T1.out.out 0
  have o0 : w1.cell? ⟨w.heap.size + 1 + 1, 0, none⟩ = some (.slice none 0 0) := o0
  have q0 : w1.cell? ⟨w.heap.size, 0, none⟩ = some (.slice a1 n1 c1) := q0
  have hl0 := T1.out.lt
  obtain ⟨w2, hw2⟩ : ∃ w2, w2 = w1.setCell ⟨w.heap.size + 1 + 1, 0, none⟩ (.slice p1 n1 n1) := ⟨_, rfl⟩
  have T2 : Hid (TP w w2 a1 n1 c1 a2 n2 c2 x (fun X => True ∧ Own64 (w.heap.size + 3) h1i X p1 n1 n1 x.pols) (.slice p1 n1 n1) (.slice none 0 0) (.bool false) (.int .i64 0) (.int .i64 0) (.int .i64 0)) := by rw [hw2]; exact T1.out.set 0 _ rfl
  have S2 : Hid (w2.heap.size = w1.heap.size) := by show _ = _; rw [hw2]; simp
  have HW2 : Hid (_ = _) := hw2
  clear hw2
  go_upto_region 3 with fail
  rw [← HW2.out]
  clear HW2 o0 f0 q0 hl0 T1
  obtain ⟨o1, f1, q1⟩ := T2.out.out 1
  have q1 : w2.cell? ⟨w.heap.size, 1, none⟩ = some (.slice a2 n2 c2) := q1
  have hl1 := T2.out.lt
  clear o1 f1
  go_wp2_with fail
  refine (toPolMapS_any a2 n2 c2 x.maps _ (HK.out.kept T2.out.below).mp hn2).mono ?_
  rintro e w3 ⟨p2, rfl, ho3, hb3⟩
  obtain ⟨h2i, hh2⟩ : ∃ h2i, h2i = w3.heap.size := ⟨_, rfl⟩
  rw [← hh2] at ho3
  have T3 : Hid (TP w w3 a1 n1 c1 a2 n2 c2 x (fun X => (True ∧ Own64 (w.heap.size + 3) h1i X p1 n1 n1 x.pols) ∧ OwnPm (w.heap.size + 3) h2i X p2 n2 n2 x.maps) (.slice p1 n1 n1) (.slice none 0 0) (.bool false) (.int .i64 0) (.int .i64 0) (.int .i64 0)) := T2.out.call hb3 (ho3.monoP hl1 (Nat.le_refl _)) (stab_pm (Nat.le_refl _))
  have H2 : Hid (h2i = w3.heap.size) := hh2
  have HS : Hid (w2.heap.size ≤ w3.heap.size) := hb3.size
  clear ho3 hb3 q1 hl1 hh2 T2 HK
  obtain ⟨o1, f1, q1⟩ := T3.out.out 1
  have o1 : w3.cell? ⟨w.heap.size + 1 + 1, 1, none⟩ = some (.slice none 0 0) := o1
  have q1 : w3.cell? ⟨w.heap.size, 1, none⟩ = some (.slice a2 n2 c2) := q1
  have hl1 := T3.out.lt
  obtain ⟨w4, hw4⟩ : ∃ w4, w4 = w3.setCell ⟨w.heap.size + 1 + 1, 1, none⟩ (.slice p2 n2 n2) := ⟨_, rfl⟩
  have T4 : Hid (TP w w4 a1 n1 c1 a2 n2 c2 x (fun X => (True ∧ Own64 (w.heap.size + 3) h1i X p1 n1 n1 x.pols) ∧ OwnPm (w.heap.size + 3) h2i X p2 n2 n2 x.maps) (.slice p1 n1 n1) (.slice p2 n2 n2) (.bool false) (.int .i64 0) (.int .i64 0) (.int .i64 0)) := by rw [hw4]; exact T3.out.set 1 _ rfl
  have S4 : Hid (w4.heap.size = w3.heap.size) := by show _ = _; rw [hw4]; simp
  have HW4 : Hid (_ = _) := hw4
  clear hw4
  go_upto_region 4 with fail
  rw [← HW4.out]
  clear HW4 o1 f1 q1 hl1 T3
  obtain ⟨o2, f2, q2⟩ := T4.out.out 2
  have o2 : w4.cell? ⟨w.heap.size + 1 + 1, 2, none⟩ = some (.bool false) := o2
  have q2 : w4.cell? ⟨w.heap.size, 2, none⟩ = some (.bool x.self) := q2
  have hl2 := T4.out.lt
  obtain ⟨w5, hw5⟩ : ∃ w5, w5 = w4.setCell ⟨w.heap.size + 1 + 1, 2, none⟩ (.bool x.self) := ⟨_, rfl⟩
  have T5 : Hid (TP w w5 a1 n1 c1 a2 n2 c2 x (fun X => (True ∧ Own64 (w.heap.size + 3) h1i X p1 n1 n1 x.pols) ∧ OwnPm (w.heap.size + 3) h2i X p2 n2 n2 x.maps) (.slice p1 n1 n1) (.slice p2 n2 n2) (.bool x.self) (.int .i64 0) (.int .i64 0) (.int .i64 0)) := by rw [hw5]; exact T4.out.set 2 _ rfl
  have S5 : Hid (w5.heap.size = w4.heap.size) := by show _ = _; rw [hw5]; simp
  have HW5 : Hid (_ = _) := hw5
  clear hw5
  go_upto_region 5 with fail
  rw [← HW5.out]
  clear HW5 o2 f2 q2 hl2 T4
  obtain ⟨o3, f3, q3⟩ := T5.out.out 3
  have o3 : w5.cell? ⟨w.heap.size + 1 + 1, 3, none⟩ = some (.int .i64 0) := o3
  have q3 : w5.cell? ⟨w.heap.size, 3, none⟩ = some (.int .i64 x.need) := q3
  have hl3 := T5.out.lt
  obtain ⟨w6, hw6⟩ : ∃ w6, w6 = w5.setCell ⟨w.heap.size + 1 + 1, 3, none⟩ (.int .i64 x.need) := ⟨_, rfl⟩
  have T6 : Hid (TP w w6 a1 n1 c1 a2 n2 c2 x (fun X => (True ∧ Own64 (w.heap.size + 3) h1i X p1 n1 n1 x.pols) ∧ OwnPm (w.heap.size + 3) h2i X p2 n2 n2 x.maps) (.slice p1 n1 n1) (.slice p2 n2 n2) (.bool x.self) (.int .i64 x.need) (.int .i64 0) (.int .i64 0)) := by rw [hw6]; exact T5.out.set 3 _ rfl
  have S6 : Hid (w6.heap.size = w5.heap.size) := by show _ = _; rw [hw6]; simp
  have HW6 : Hid (_ = _) := hw6
  clear hw6
  go_upto_region 6 with fail
  rw [← HW6.out]
  clear HW6 o3 f3 q3 hl3 T5
  obtain ⟨o4, f4, q4⟩ := T6.out.out 4
  have o4 : w6.cell? ⟨w.heap.size + 1 + 1, 4, none⟩ = some (.int .i64 0) := o4
  have q4 : w6.cell? ⟨w.heap.size, 4, none⟩ = some (.int .i64 x.nomap) := q4
  have hl4 := T6.out.lt
  obtain ⟨w7, hw7⟩ : ∃ w7, w7 = w6.setCell ⟨w.heap.size + 1 + 1, 4, none⟩ (.int .i64 x.nomap) := ⟨_, rfl⟩
  have T7 : Hid (TP w w7 a1 n1 c1 a2 n2 c2 x (fun X => (True ∧ Own64 (w.heap.size + 3) h1i X p1 n1 n1 x.pols) ∧ OwnPm (w.heap.size + 3) h2i X p2 n2 n2 x.maps) (.slice p1 n1 n1) (.slice p2 n2 n2) (.bool x.self) (.int .i64 x.need) (.int .i64 x.nomap) (.int .i64 0)) := by rw [hw7]; exact T6.out.set 4 _ rfl
  have S7 : Hid (w7.heap.size = w6.heap.size) := by show _ = _; rw [hw7]; simp
  have HW7 : Hid (_ = _) := hw7
  clear hw7
  go_upto_region 7 with fail
  rw [← HW7.out]
  clear HW7 o4 f4 q4 hl4 T6
  obtain ⟨o5, f5, q5⟩ := T7.out.out 5
  have o5 : w7.cell? ⟨w.heap.size + 1 + 1, 5, none⟩ = some (.int .i64 0) := o5
  have q5 : w7.cell? ⟨w.heap.size, 5, none⟩ = some (.int .i64 x.noany) := q5
  have hl5 := T7.out.lt
  obtain ⟨w8, hw8⟩ : ∃ w8, w8 = w7.setCell ⟨w.heap.size + 1 + 1, 5, none⟩ (.int .i64 x.noany) := ⟨_, rfl⟩
  have T8 : Hid (TP w w8 a1 n1 c1 a2 n2 c2 x (fun X => (True ∧ Own64 (w.heap.size + 3) h1i X p1 n1 n1 x.pols) ∧ OwnPm (w.heap.size + 3) h2i X p2 n2 n2 x.maps) (.slice p1 n1 n1) (.slice p2 n2 n2) (.bool x.self) (.int .i64 x.need) (.int .i64 x.nomap) (.int .i64 x.noany)) := by rw [hw8]; exact T7.out.set 5 _ rfl
  have S8 : Hid (w8.heap.size = w7.heap.size) := by show _ = _; rw [hw8]; simp
  have HW8 : Hid (_ = _) := hw8
  clear hw8
  go_upto_region 8 with fail
  rw [← HW8.out]
  clear HW8 o5 f5 q5 hl5 T7
  have o0 : w8.cell? ⟨w.heap.size + 1 + 1, 0, none⟩ = some (.slice p1 n1 n1) := (T8.out.out 0).1
  have o1 : w8.cell? ⟨w.heap.size + 1 + 1, 1, none⟩ = some (.slice p2 n2 n2) := (T8.out.out 1).1
  have o2 : w8.cell? ⟨w.heap.size + 1 + 1, 2, none⟩ = some (.bool x.self) := (T8.out.out 2).1
  have o3 : w8.cell? ⟨w.heap.size + 1 + 1, 3, none⟩ = some (.int .i64 x.need) := (T8.out.out 3).1
  have o4 : w8.cell? ⟨w.heap.size + 1 + 1, 4, none⟩ = some (.int .i64 x.nomap) := (T8.out.out 4).1
  have o5 : w8.cell? ⟨w.heap.size + 1 + 1, 5, none⟩ = some (.int .i64 x.noany) := (T8.out.out 5).1
  have r0 : w8.cell? ⟨w.heap.size + 1, 0, none⟩ = some (.slice none 0 0) := (T8.out.zero 0).1
  have f0 := (T8.out.zero 0).2
  have r1 : w8.cell? ⟨w.heap.size + 1, 1, none⟩ = some (.slice none 0 0) := (T8.out.zero 1).1
  have f1 := (T8.out.zero 1).2
  have r2 : w8.cell? ⟨w.heap.size + 1, 2, none⟩ = some (.bool false) := (T8.out.zero 2).1
  have f2 := (T8.out.zero 2).2
  have r3 : w8.cell? ⟨w.heap.size + 1, 3, none⟩ = some (.int .i64 0) := (T8.out.zero 3).1
  have f3 := (T8.out.zero 3).2
  have r4 : w8.cell? ⟨w.heap.size + 1, 4, none⟩ = some (.int .i64 0) := (T8.out.zero 4).1
  have f4 := (T8.out.zero 4).2
  have r5 : w8.cell? ⟨w.heap.size + 1, 5, none⟩ = some (.int .i64 0) := (T8.out.zero 5).1
  have f5 := (T8.out.zero 5).2
  have hl8 := T8.out.lt
  have SZ2 : Hid (h2i ≤ w8.heap.size) := by show _ ≤ _; rw [H2.out, S8.out, S7.out, S6.out, S5.out, S4.out]; exact Nat.le_refl _
  have SZ1 : Hid (h1i ≤ w8.heap.size) := by show _ ≤ _; rw [H1.out, ← S2.out, S8.out, S7.out, S6.out, S5.out, S4.out]; exact HS.out
  go_wp2
  try simp only [Exit.inBlock, Exit.then]
  obtain ⟨w9, hw9⟩ : ∃ w9, w9 = put6 w8 (w.heap.size + 1) 0 (.slice p1 n1 n1) (.slice p2 n2 n2) (.bool x.self) (.int .i64 x.need) (.int .i64 x.nomap) (.int .i64 x.noany) := ⟨_, rfl⟩
  have ew : ((((((w8.setCell ⟨w.heap.size + 1, 0, none⟩ (.slice p1 n1 n1)).setCell ⟨w.heap.size + 1, 1, none⟩ (.slice p2 n2 n2)).setCell ⟨w.heap.size + 1, 2, none⟩ (.bool x.self)).setCell ⟨w.heap.size + 1, 3, none⟩ (.int .i64 x.need)).setCell ⟨w.heap.size + 1, 4, none⟩ (.int .i64 x.nomap)).setCell ⟨w.heap.size + 1, 5, none⟩ (.int .i64 x.noany)) = w9 := by rw [hw9]; rfl
  rw [ew]
  have q1 := put6_row T8.out.b1 (.slice p1 n1 n1) (.slice p2 n2 n2) (.bool x.self) (.int .i64 x.need) (.int .i64 x.nomap) (.int .i64 x.noany)
  have fo : ∀ l, l ≠ w.heap.size + 1 → (put6 w8 (w.heap.size + 1) 0 (.slice p1 n1 n1) (.slice p2 n2 n2) (.bool x.self) (.int .i64 x.need) (.int .i64 x.nomap) (.int .i64 x.noany)).heap[l]? = w8.heap[l]? := fun l hl => put6_other _ _ _ _ hl _ _ _ _ _ _
  rw [← hw9] at q1 fo
  have R8 := T8.out.stab _ _ (fun l hl _ => fo l (by omega)) T8.out.st
  have sz : w9.heap.size = w8.heap.size := by rw [hw9]; exact put6_size _ _ _ _ _ _ _ _ _
  have so : w9.os = w8.os ∧ w9.tape = w8.tape ∧ w9.output = w8.output := by rw [hw9]; exact put6_frame _ _ _ _ _ _ _ _ _
  clear ew hw9
  refine bodyPost_ret (results_pc rfl _ (w.heap.size + 1) rfl _ _ _ _ _ _ _ q1) rfl ⟨_, _, rfl, R8.1.2.monoP (Nat.le_refl _) (Nat.le_trans SZ1.out (Nat.le_of_eq sz.symm)), R8.2.monoP (Nat.le_refl _) (Nat.le_trans SZ2.out (Nat.le_of_eq sz.symm)), ?_⟩
  exact ⟨so.1.trans T8.out.below.os, so.2.1.trans T8.out.below.tape, so.2.2.trans T8.out.below.output, by rw [← sz] at hl8; exact Nat.le_trans T8.out.below.size (Nat.le_of_eq sz.symm), fun l hl => (fo l (by omega)).trans (T8.out.below.block l hl)⟩

end Go.Proofs.Ytdkgilkjcndonaa
