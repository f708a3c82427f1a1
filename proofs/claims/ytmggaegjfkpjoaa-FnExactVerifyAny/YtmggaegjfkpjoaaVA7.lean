import Derived.Test.YtmggaegjfkpjoaaVA5
import Derived.Test.YtmggaegjfkpjoaaVA6
namespace Go.Proofs.Ytmggaegjfkpjoaa
open Go.RowKit

set_option maxRecDepth 10000 in
set_option maxHeartbeats 8000000 in
theorem lawVerifyAny_walk (sc y h : Int) (am : Option Addr) (n c : Nat) (ms : List Int) (ag : Option Addr) (ng cg : Nat) (ss : List Int) (w : World) (hy : U64 y)
    (hr : Row w am n ms) (hmax : n ≤ 9223372036854775807) (hg : Row w ag ng ss) (hgx : ng ≤ 9223372036854775807) :
    Calls Try.prog 6 #[kpv sc y h, .slice am n c, .slice ag ng cg] w fun e w' => e = .returned (.bool true) ∧ Below w.heap.size w w' := by
  obtain ⟨w1, hw1⟩ : ∃ w1, w1 = w.alloc (.cells #[.int .i64 sc, .int .u64 y, .int .i64 h] 54) := ⟨_, rfl⟩
  have hb0 : Below w.heap.size w w1 := by rw [hw1]; exact (Below.refl _ _).alloc (Nat.le_refl _) _
  have hlw : w.heap.size < w1.heap.size := by rw [hw1]; simp
  have HXD : ∀ w7, Below w1.heap.size w1 w7 → w7.cell? ⟨w.heap.size, 0, none⟩ = some (.int .i64 sc) ∧ w7.cell? ⟨w.heap.size, 1, none⟩ = some (.int .u64 y) ∧ w7.cell? ⟨w.heap.size, 2, none⟩ = some (.int .i64 h) := by
    intro w7 h7
    have hbx : w7.heap[w.heap.size]? = some (.cells #[.int .i64 sc, .int .u64 y, .int .i64 h] 54) := (h7.block _ hlw).trans (by rw [hw1]; exact heap_alloc_new w _)
    exact ⟨(cell_of_row _ w.heap.size 0 _ 54 (0, 0) hbx).trans rfl, (cell_of_row _ w.heap.size 1 _ 54 (0, 0) hbx).trans rfl, (cell_of_row _ w.heap.size 2 _ 54 (0, 0) hbx).trans rfl⟩
  have HWB : Hid (_ = _) := hw1
  clear hw1
  have HRM : Hid (∀ w', Below w1.heap.size w1 w' → Row w' am n ms) := fun w' hw' => hr.kept (keepT hb0 hw')
  have HRG : Hid (∀ w', Below w1.heap.size w1 w' → Row w' ag ng ss) := fun w' hw' => hg.kept (keepT hb0 hw')
  clear hr hg
  rw [kpv]
  by_cases hbig : 1048576 < n
  · go_enter Try.func6, Try.ntmps6
    go_upto_region 1 with fail
    rw [← HWB.out]
    clear HWB
    go_wp2
    go_ret
    exact ⟨rfl, hb0⟩
  have hn : n ≤ 1048576 := by omega
  clear hmax
  by_cases hbig2 : 1048576 < ng
  · go_enter Try.func6, Try.ntmps6
    go_upto_region 1 with fail
    rw [← HWB.out]
    clear HWB
    go_wp2
    go_ret
    exact ⟨rfl, hb0⟩
  have hng : ng ≤ 1048576 := by omega
  clear hgx
  obtain ⟨p0, p1, p2⟩ := HXD _ (Below.refl _ _)
  go_enter Try.func6, Try.ntmps6
  go_upto_region 1 with fail
  rw [← HWB.out]
  clear HWB
  go_wp2_with fail
  refine (toPub_any sc y h _).mono ?_
  rintro e w2 ⟨rfl, hb2⟩
  clear p0 p1 p2
  go_wp2_with fail
  refine (toByteS_any am n c ms _ (HRM.out _ hb2) hn).mono ?_
  rintro e w3 ⟨a3, rfl, ho3, hb3⟩
  have hc3 := keepT hb2 hb3
  have HR3 : Hid (Row w3 a3 n ms) := ho3.toRow
  have hn3 := ho3.nil
  clear ho3
  go_wp2_with fail
  refine (toByteS_any ag ng cg ss _ (HRG.out _ hc3) hng).mono ?_
  rintro e w4 ⟨a4, rfl, ho4, hb4⟩
  have hc4 := keepT hc3 hb4
  have HR4 : Hid (Row w4 a4 ng ss) := ho4.toRow
  clear ho4
  go_wp2_with fail
  refine (specVerifyAny_any sc y h a3 n n ms a4 ng ng ss _ hy (HR3.out.kept hb4) hn hn3 HR4.out hng (Nat.le_refl _)).mono ?_
  rintro e w5 ⟨rfl, hb5⟩
  have hc5 := keepT hc4 hb5
  obtain ⟨vb, hvb⟩ : ∃ vb, vb = decide (anyP sc y h ms ss) := ⟨_, rfl⟩
  have HVB : Hid (decide (anyP sc y h ms ss) = vb) := hvb.symm
  rw [← hvb]
  clear hvb HR3 HR4
  go_wp2_with fail
  refine (toByteS_any am n c ms _ (HRM.out _ hc5) hn).mono ?_
  rintro e w6 ⟨a6, rfl, ho6, hb6⟩
  have hc6 := keepT hc5 hb6
  have HR6 : Hid (Row w6 a6 n ms) := ho6.toRow
  have hn6 := ho6.nil
  clear ho6
  go_wp2_with fail
  refine (toByteS_any ag ng cg ss _ (HRG.out _ hc6) hng).mono ?_
  rintro e w7 ⟨a7, rfl, ho7, hb7⟩
  have hc7 := keepT hc6 hb7
  have HR7 : Hid (Row w7 a7 ng ss) := ho7.toRow
  have HR67 : Hid (Row w7 a6 n ms) := HR6.out.kept hb7
  clear ho7 HR6
  obtain ⟨p0, p1, p2⟩ := HXD _ hc7
  go_wp2_with fail
  refine (toPub_any sc y h _).mono ?_
  rintro e w8 ⟨rfl, hb8⟩
  have hc8 := keepT hc7 hb8
  clear p0 p1 p2
  go_wp2_with fail
  refine (implVerifyAny_any sc y h a6 n n ms a7 ng ng ss _ hy (HR67.out.kept hb8) hn hn6 (HR7.out.kept hb8) hng (Nat.le_refl _)).mono ?_
  rintro e w9 ⟨rfl, hb9⟩
  rw [HVB.out]
  have hc9 := keepT hc8 hb9
  have zz : (vb != vb) = false := by simp
  have HQ6 : Hid (Row w9 a6 n ms) := HR67.out.kept (keepT hb8 hb9)
  have HQ7 : Hid (Row w9 a7 ng ss) := HR7.out.kept (keepT hb8 hb9)
  clear HR67 HR7
  go_wp2_with fail
  refine (toByteS_any am n c ms _ (HRM.out _ hc9) hn).mono ?_
  rintro e wA ⟨aA, rfl, hoA, hbA⟩
  have hcA := keepT hc9 hbA
  have HRA : Hid (Row wA aA n ms) := hoA.toRow
  clear hoA
  go_wp2_with fail
  refine (eqByteS_any a6 aA n n n n ms ms _ (HQ6.out.kept hbA) HRA.out (by unfold maxLen; omega) (by unfold maxLen; omega)).mono ?_
  rintro e wB ⟨rfl, hbB⟩
  rw [decide_eq_true (rfl : ms = ms)]
  have hcB := keepT hcA hbB
  have HQ8 : Hid (Row wB a7 ng ss) := HQ7.out.kept (keepT hbA hbB)
  go_wp2_with fail
  refine (toByteS_any ag ng cg ss _ (HRG.out _ hcB) hng).mono ?_
  rintro e wC ⟨aC, rfl, hoC, hbC⟩
  have hcC := keepT hcB hbC
  have HRC : Hid (Row wC aC ng ss) := hoC.toRow
  clear hoC
  go_wp2_with fail
  refine (eqByteS_any a7 aC ng ng ng ng ss ss _ (HQ8.out.kept hbC) HRC.out (by unfold maxLen; omega) (by unfold maxLen; omega)).mono ?_
  rintro e wD ⟨rfl, hbD⟩
  rw [decide_eq_true (rfl : ss = ss)]
  go_wp2
  go_ret
  exact ⟨rfl, keepT hb0 (keepT hcC hbD)⟩

end Go.Proofs.Ytmggaegjfkpjoaa
