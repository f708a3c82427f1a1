import Derived.Test.YtddkjofnligibaaTTF
namespace Go.Proofs.Ytddkjofnligibaa
open Go.RowKit

set_option maxRecDepth 10000 in
set_option maxHeartbeats 2000000 in
theorem specPubOf_any (sc x h n : Int) (w : World) (hx : U64 x) :
    Calls Try.prog 25 #[scv sc x h n] w fun e w' => e = .returned (.tuple #[pbv (pubR sc x h n).1, .bool (pubR sc x h n).2]) ∧ Below w.heap.size w w' := by
  obtain ⟨w1, hw1⟩ : ∃ w1, w1 = (w.alloc (.cells #[.int .i64 sc, .int .u64 x, .int .i64 h, .int .i64 n] 54)).alloc (.cells #[.int .i64 0, .int .u64 0, .int .i64 0] 51) := ⟨_, rfl⟩
  have hbb : Below w.heap.size w w1 := by rw [hw1]; exact two_below _ _ _
  have HPX : Hid (∀ w7, Below w1.heap.size w1 w7 → w7.heap[w.heap.size + 1]? = some (.cells #[.int .i64 0, .int .u64 0, .int .i64 0] 51)) := fun w7 h7 => (h7.block _ (by rw [hw1]; simp)).trans (by rw [hw1]; exact (two_blocks w _ _).2)
  have HSX : Hid (∀ w7, Below w1.heap.size w1 w7 → w7.heap[w.heap.size]? = some (.cells #[.int .i64 sc, .int .u64 x, .int .i64 h, .int .i64 n] 54)) := fun w7 h7 => (h7.block _ (by rw [hw1]; simp; omega)).trans (by rw [hw1]; exact (two_blocks w _ _).1)
  have HW : Hid (_ = _) := hw1
  clear hw1
  rw [scv]
  go_enter Try.func25, Try.ntmps25
  go_wp2_with fail
  rw [← HW.out]
  clear HW
  refine (l8SecretOk_any sc x h n _ hx).mono ?_
  rintro e w2 ⟨rfl, hb2⟩
  have hs := HSX.out _ hb2
  have s0 : w2.cell? ⟨w.heap.size, 0, none⟩ = some (.int .i64 sc) := (cell_of_row _ _ 0 _ 54 (0, 0) hs).trans rfl
  have s1 : w2.cell? ⟨w.heap.size, 1, none⟩ = some (.int .u64 x) := (cell_of_row _ _ 1 _ 54 (0, 0) hs).trans rfl
  have s2 : w2.cell? ⟨w.heap.size, 2, none⟩ = some (.int .i64 h) := (cell_of_row _ _ 2 _ 54 (0, 0) hs).trans rfl
  have s3 : w2.cell? ⟨w.heap.size, 3, none⟩ = some (.int .i64 n) := (cell_of_row _ _ 3 _ 54 (0, 0) hs).trans rfl
  have hbx := HPX.out _ hb2
  have c0 : w2.cell? ⟨w.heap.size + 1, 0, none⟩ = some (.int .i64 0) := (cell_of_row _ _ 0 _ 51 (0, 0) hbx).trans rfl
  have c1 : w2.cell? ⟨w.heap.size + 1, 1, none⟩ = some (.int .u64 0) := (cell_of_row _ _ 1 _ 51 (0, 0) hbx).trans rfl
  have c2 : w2.cell? ⟨w.heap.size + 1, 2, none⟩ = some (.int .i64 0) := (cell_of_row _ _ 2 _ 51 (0, 0) hbx).trans rfl
  have f0 : w2.frozen? ⟨w.heap.size + 1, 0, none⟩ = false := frozen_of_row w2 _ 0 _ 51 hbx
  have f1 : w2.frozen? ⟨w.heap.size + 1, 1, none⟩ = false := frozen_of_row w2 _ 1 _ 51 hbx
  have f2 : w2.frozen? ⟨w.heap.size + 1, 2, none⟩ = false := frozen_of_row w2 _ 2 _ 51 hbx
  have HBX : Hid (_ = _) := hbx
  have hB2 := keepT hbb hb2
  clear hs hbx
  by_cases hk : secOk sc x h n
  · rw [decide_eq_true hk]
    by_cases h1 : sc = 1
    · subst h1
      have hg : grpP x h n := hk.elim (fun a => a.2) (fun a => absurd a.1 (by decide))
      have HR : Hid (pubR 1 x h n = ((1, keyOf x, 0), true)) := by show _ = _; unfold pubR; rw [if_pos hk, if_pos rfl]
      have hx0 := hg.1.1
      have hx9 := hg.1.2
      have hsec : secP x := hg.1
      have hko : 0 ≤ keyOf x ∧ keyOf x ≤ 1000000006 := by have := gp_bd 4 x; unfold keyOf; rw [if_pos hsec]; omega
      obtain ⟨hko0, hko1⟩ := hko
      have u1 : wrap64 x = x := by unfold wrap64; omega
      have u2 : IntKind.i64.wrap x = x := by rw [IntKind.wrap_i64]; omega
      have u3 : IntKind.u64.wrap (keyOf x) = keyOf x := by rw [IntKind.wrap_u64]; omega
      go_upto_region 4 with fail
      go_region_with ((go_at_call 61; refine (specKeyOf_any x _).mono ?_; rintro e w3 ⟨rfl, rfl⟩))
      all_goals
        go_wp2_with fail
        try simp only [Exit.inBlock, Exit.then]
        refine bodyPost_ret (results_pb2 rfl _ (w.heap.size + 1) rfl _ rfl _ _ _ _ (heap_set3 (w := w2.drew) HBX.out _ _ _)) rfl ⟨?_, below_set3T hB2.drew _ (by omega) _ _ _⟩
        rw [HR.out]
        rfl
    · obtain ⟨rfl, hkk⟩ : sc = 2 ∧ kP h n := hk.elim (fun a => absurd a.1 h1) (fun a => a)
      have HR : Hid (pubR 2 x h n = ((2, rootN x h, h), true)) := by show _ = _; unfold pubR; rw [if_pos hk, if_neg (by decide)]
      obtain ⟨v, hv⟩ : ∃ v, v = rootN x h := ⟨_, rfl⟩
      have HRR : Hid (rootR x h n = (v, true)) := by show _ = _; unfold rootR; rw [if_pos hkk, hv]
      rw [← hv] at HR
      clear hv c0 c1 c2 f0 f1 f2
      go_wp2_with fail
      refine (l8Tree_any 2 x h n _).mono ?_
      rintro e w3 ⟨rfl, hb3⟩
      clear s0 s1 s2 s3
      go_wp2_with fail
      refine (specTreeRoot_any x h n _ hx).mono ?_
      rintro e w4 ⟨rfl, hb4⟩
      rw [HRR.out, pairU]
      have hb47 := keepT hb2 (keepT hb3 hb4)
      have hs := HSX.out _ hb47
      have s0 : w4.cell? ⟨w.heap.size, 0, none⟩ = some (.int .i64 2) := (cell_of_row _ _ 0 _ 54 (0, 0) hs).trans rfl
      have s2 : w4.cell? ⟨w.heap.size, 2, none⟩ = some (.int .i64 h) := (cell_of_row _ _ 2 _ 54 (0, 0) hs).trans rfl
      have hbx := HPX.out _ hb47
      have c0 : w4.cell? ⟨w.heap.size + 1, 0, none⟩ = some (.int .i64 0) := (cell_of_row _ _ 0 _ 51 (0, 0) hbx).trans rfl
      have c1 : w4.cell? ⟨w.heap.size + 1, 1, none⟩ = some (.int .u64 0) := (cell_of_row _ _ 1 _ 51 (0, 0) hbx).trans rfl
      have c2 : w4.cell? ⟨w.heap.size + 1, 2, none⟩ = some (.int .i64 0) := (cell_of_row _ _ 2 _ 51 (0, 0) hbx).trans rfl
      have f0 : w4.frozen? ⟨w.heap.size + 1, 0, none⟩ = false := frozen_of_row w4 _ 0 _ 51 hbx
      have f1 : w4.frozen? ⟨w.heap.size + 1, 1, none⟩ = false := frozen_of_row w4 _ 1 _ 51 hbx
      have f2 : w4.frozen? ⟨w.heap.size + 1, 2, none⟩ = false := frozen_of_row w4 _ 2 _ 51 hbx
      have HBX4 : Hid (_ = _) := hbx
      have hB4 := keepT hbb hb47
      clear hbx hs
      go_wp2
      try simp only [Exit.inBlock, Exit.then]
      refine bodyPost_ret (results_pb2 rfl _ (w.heap.size + 1) rfl _ rfl _ _ _ _ (heap_set3 HBX4.out _ _ _)) rfl ⟨?_, below_set3T hB4 _ (by omega) _ _ _⟩
      rw [HR.out]
      rfl
  · have HR : Hid (pubR sc x h n = ((0, 0, 0), false)) := by show _ = _; unfold pubR; rw [if_neg hk]
    rw [decide_eq_false hk]
    go_wp2
    try simp only [Exit.inBlock, Exit.then]
    refine bodyPost_ret (results_pb2 rfl _ (w.heap.size + 1) rfl _ rfl _ _ _ _ (heap_set3 HBX.out _ _ _)) rfl ⟨?_, below_set3T hB2 _ (by omega) _ _ _⟩
    rw [HR.out]
    rfl

theorem results_se {fn : Func} {t : Tmp} (h : fn.results = #[.cell t 54]) (tmps : Array Value) (g : Nat) (ht : tmps.getD t undef = .pointer (some ⟨g, 0, none⟩)) (w : World) (c0 c1 c2 c3 : Value)
    (hb : w.heap[g]? = some (.cells #[c0, c1, c2, c3] 54 (0, 0))) : (results fn tmps).run Try.prog w = .ok (.agg #[c0, c1, c2, c3]) w := by
  have d0 : w.cell? ⟨g, 0, none⟩ = some c0 := (cell_of_row _ g 0 _ 54 (0, 0) hb).trans rfl
  have d1 : w.cell? ⟨g, 1, none⟩ = some c1 := (cell_of_row _ g 1 _ 54 (0, 0) hb).trans rfl
  have d2 : w.cell? ⟨g, 2, none⟩ = some c2 := (cell_of_row _ g 2 _ 54 (0, 0) hb).trans rfl
  have d3 : w.cell? ⟨g, 3, none⟩ = some c3 := (cell_of_row _ g 3 _ 54 (0, 0) hb).trans rfl
  clear hb
  have ht' : tmps[t]?.getD undef = .pointer (some ⟨g, 0, none⟩) := by rw [← ht]; simp
  simp [results, h, go_sem, ht', d0, d1, d2, d3]

set_option maxRecDepth 10000 in
set_option maxHeartbeats 1000000 in
theorem toSecret_any (a b c d : Int) (w : World) :
    Calls Try.prog 26 #[scv a b c d] w fun e w' => e = .returned (scv a b c d) ∧ Below w.heap.size w w' := by
  have b1 : ((((w.alloc (.cells #[.int .i64 a, .int .u64 b, .int .i64 c, .int .i64 d] 49)).alloc (.cells #[.int .i64 a, .int .u64 b, .int .i64 c, .int .i64 d] 54)).alloc (.cells #[.int .i64 a, .int .u64 b, .int .i64 c, .int .i64 d] 54))).heap[w.heap.size + 1]? = some (.cells #[.int .i64 a, .int .u64 b, .int .i64 c, .int .i64 d] 54) := by
    exact (alloc_oldT _ _ _ (by simp)).trans (two_blocks w _ _).2
  have HB1 : Hid (_ = _) := b1
  clear b1
  unfold scv
  go_enter Try.func26, Try.ntmps26
  go_wp2
  try simp only [Exit.inBlock, Exit.then]
  exact bodyPost_ret (results_se rfl _ (w.heap.size + 1) rfl _ _ _ _ _ HB1.out) rfl ⟨rfl, three_belowT _ _ _ _⟩

set_option maxRecDepth 10000 in
set_option maxHeartbeats 400000 in
theorem eqPub_same (t : Int × Int × Int) (w : World) :
    Calls Try.prog 28 #[pbv t, pbv t] w fun e w' => e = .returned (.bool true) ∧ Below w.heap.size w w' := by
  obtain ⟨a, b, c⟩ := t
  unfold pbv
  have z1 : (a != a) = false := by simp
  have z2 : (b != b) = false := by simp
  have z3 : (c != c) = false := by simp
  go_enter Try.func28, Try.ntmps28
  go_wp2
  go_ret
  exact ⟨rfl, two_below _ _ _⟩

set_option maxRecDepth 10000 in
set_option maxHeartbeats 2000000 in
theorem lawPubOf_walk (sc x h n : Int) (w : World) (hx : U64 x) :
    Calls Try.prog 6 #[scv sc x h n] w fun e w' => e = .returned (.bool true) ∧ Below w.heap.size w w' := by
  obtain ⟨wb, hwb⟩ : ∃ wb, wb = w.alloc (.cells #[.int .i64 sc, .int .u64 x, .int .i64 h, .int .i64 n] 49) := ⟨_, rfl⟩
  have hbb : Below w.heap.size w wb := by rw [hwb]; exact (Below.refl _ _).alloc (Nat.le_refl _) _
  have HXD : ∀ w7, Below wb.heap.size wb w7 → w7.cell? ⟨w.heap.size, 0, none⟩ = some (.int .i64 sc) ∧ w7.cell? ⟨w.heap.size, 1, none⟩ = some (.int .u64 x) ∧ w7.cell? ⟨w.heap.size, 2, none⟩ = some (.int .i64 h) ∧ w7.cell? ⟨w.heap.size, 3, none⟩ = some (.int .i64 n) := by
    intro w7 h7
    have hbx : w7.heap[w.heap.size]? = some (.cells #[.int .i64 sc, .int .u64 x, .int .i64 h, .int .i64 n] 49) := (h7.block _ (by rw [hwb]; simp)).trans (by rw [hwb]; exact heap_alloc_new w _)
    exact ⟨(cell_of_row _ w.heap.size 0 _ 49 (0, 0) hbx).trans rfl, (cell_of_row _ w.heap.size 1 _ 49 (0, 0) hbx).trans rfl, (cell_of_row _ w.heap.size 2 _ 49 (0, 0) hbx).trans rfl, (cell_of_row _ w.heap.size 3 _ 49 (0, 0) hbx).trans rfl⟩
  have HWB : Hid (_ = _) := hwb
  clear hwb
  rw [scv]
  go_enter Try.func6, Try.ntmps6
  go_upto_region 1 with fail
  rw [← HWB.out]
  clear HWB
  obtain ⟨q0, q1, q2, q3⟩ := HXD _ (Below.refl _ _)
  go_wp2_with fail
  refine (toSecret_any sc x h n _).mono ?_
  rintro e w2 ⟨rfl, hb2⟩
  clear q0 q1 q2 q3
  go_wp2_with fail
  refine (specPubOf_any sc x h n _ hx).mono ?_
  rintro e w3 ⟨rfl, hb3⟩
  obtain ⟨t, ht⟩ : ∃ t, t = pubR sc x h n := ⟨_, rfl⟩
  have HT : Hid (pubR sc x h n = t) := ht.symm
  rw [← ht, pbv]
  clear ht
  obtain ⟨⟨ta, tb, tc⟩, ok⟩ := t
  have hb37 := keepT hb2 hb3
  have hal : Below w3.heap.size w3 (w3.alloc (.cells #[.int .i64 ta, .int .u64 tb, .int .i64 tc] 51)) := (Below.refl _ _).alloc (Nat.le_refl _) _
  have hbA : (w3.alloc (.cells #[.int .i64 ta, .int .u64 tb, .int .i64 tc] 51)).heap[w3.heap.size]? = some (.cells #[.int .i64 ta, .int .u64 tb, .int .i64 tc] 51) := heap_alloc_new w3 _
  have hb47 := keepT hb37 hal
  obtain ⟨wA, hwA⟩ : ∃ wA, wA = w3.alloc (.cells #[.int .i64 ta, .int .u64 tb, .int .i64 tc] 51) := ⟨_, rfl⟩
  rw [← hwA] at hal hbA hb47
  have HWA : Hid (_ = _) := hwA
  clear hwA
  go_upto_region 2 with fail
  rw [← HWA.out]
  clear HWA
  obtain ⟨q0, q1, q2, q3⟩ := HXD _ hb47
  go_wp2_with fail
  refine (toSecret_any sc x h n _).mono ?_
  rintro e w4 ⟨rfl, hb4⟩
  clear q0 q1 q2 q3
  go_wp2_with fail
  refine (implPubOf_any sc x h n _ hx).mono ?_
  rintro e w5 ⟨rfl, hb5⟩
  rw [HT.out, pbv]
  have hbA5 := keepT hb4 hb5
  have hbA6 : w5.heap[w3.heap.size]? = some (.cells #[.int .i64 ta, .int .u64 tb, .int .i64 tc] 51) := (hbA5.block _ (Array.getElem?_eq_some_iff.1 hbA).1).trans hbA
  have halB : Below w5.heap.size w5 (w5.alloc (.cells #[.int .i64 ta, .int .u64 tb, .int .i64 tc] 51)) := (Below.refl _ _).alloc (Nat.le_refl _) _
  have hbB : (w5.alloc (.cells #[.int .i64 ta, .int .u64 tb, .int .i64 tc] 51)).heap[w5.heap.size]? = some (.cells #[.int .i64 ta, .int .u64 tb, .int .i64 tc] 51) := heap_alloc_new w5 _
  have hbA7 : (w5.alloc (.cells #[.int .i64 ta, .int .u64 tb, .int .i64 tc] 51)).heap[w3.heap.size]? = some (.cells #[.int .i64 ta, .int .u64 tb, .int .i64 tc] 51) := (halB.block _ (Array.getElem?_eq_some_iff.1 hbA6).1).trans hbA6
  have hb67 := keepT (keepT hb47 hbA5) halB
  obtain ⟨wB, hwB⟩ : ∃ wB, wB = w5.alloc (.cells #[.int .i64 ta, .int .u64 tb, .int .i64 tc] 51) := ⟨_, rfl⟩
  rw [← hwB] at halB hbB hbA7 hb67
  have HWB2 : Hid (_ = _) := hwB
  clear hwB
  have zo : (ok != ok) = false := by simp
  go_upto_region 3 with fail
  rw [← HWB2.out]
  clear HWB2
  have p0 : wB.cell? ⟨w3.heap.size, 0, none⟩ = some (.int .i64 ta) := (cell_of_row _ _ 0 _ 51 (0, 0) hbA7).trans rfl
  have p1 : wB.cell? ⟨w3.heap.size, 1, none⟩ = some (.int .u64 tb) := (cell_of_row _ _ 1 _ 51 (0, 0) hbA7).trans rfl
  have p2 : wB.cell? ⟨w3.heap.size, 2, none⟩ = some (.int .i64 tc) := (cell_of_row _ _ 2 _ 51 (0, 0) hbA7).trans rfl
  have r0 : wB.cell? ⟨w5.heap.size, 0, none⟩ = some (.int .i64 ta) := (cell_of_row _ _ 0 _ 51 (0, 0) hbB).trans rfl
  have r1 : wB.cell? ⟨w5.heap.size, 1, none⟩ = some (.int .u64 tb) := (cell_of_row _ _ 1 _ 51 (0, 0) hbB).trans rfl
  have r2 : wB.cell? ⟨w5.heap.size, 2, none⟩ = some (.int .i64 tc) := (cell_of_row _ _ 2 _ 51 (0, 0) hbB).trans rfl
  clear hbA hbA6 hbA7 hbB
  go_wp2_with fail
  refine (eqPub_same (ta, tb, tc) _).mono ?_
  rintro e w6 ⟨rfl, hb6⟩
  go_wp2
  go_ret
  exact ⟨rfl, keepT hbb (keepT hb67 hb6)⟩

end Go.Proofs.Ytddkjofnligibaa
