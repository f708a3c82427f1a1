import Derived.Test.YtpnhhhhmonbajaaGreatMT2
namespace Go.Proofs.YtpnhhhhmonbajaaGreat
open Go.RowKit

set_option maxRecDepth 10000 in
set_option maxHeartbeats 2000000 in
theorem groupPubOf_any (sc x h n : Int) (w : World) (hs : secP x) :
    Calls Tryz.prog 117 #[.agg #[], scv sc x h n] w fun e w' => e = .returned (pbv (1, keyOf x, 0)) ∧ Below w.heap.size w w' := by
  obtain ⟨w1, hw1⟩ : ∃ w1, w1 = ((w.alloc (.cells #[] 141)).alloc (.cells #[.int .i64 sc, .int .u64 x, .int .i64 h, .int .i64 n] 33)).alloc (.cells #[.int .i64 0, .int .u64 0, .int .i64 0] 68) := ⟨_, rfl⟩
  have hbb : Below w.heap.size w w1 := by rw [hw1]; exact three_belowT _ _ _ _
  have hbx : w1.heap[w.heap.size + 1 + 1]? = some (.cells #[.int .i64 0, .int .u64 0, .int .i64 0] 68) := by rw [hw1]; exact three_blocksT _ _ _ _
  have HW : Hid (_ = _) := hw1
  clear hw1
  have hx0 := hs.1
  have hx1 := hs.2
  have hkb := gp_bd 4 x
  have hko : 0 ≤ keyOf x ∧ keyOf x ≤ 1000000006 := by unfold keyOf; rw [if_pos hs]; omega
  obtain ⟨hko0, hko1⟩ := hko
  unfold scv
  go_enter Tryz.func117, Tryz.ntmps117
  go_wp2_with fail
  rw [← HW.out]
  clear HW
  refine (implKeyOf_any x _).mono ?_
  rintro e w2 ⟨rfl, rfl⟩
  have c0 : w2.cell? ⟨w.heap.size + 1 + 1, 0, none⟩ = some (.int .i64 0) := (cell_of_row _ _ 0 _ 68 (0, 0) hbx).trans rfl
  have c1 : w2.cell? ⟨w.heap.size + 1 + 1, 1, none⟩ = some (.int .u64 0) := (cell_of_row _ _ 1 _ 68 (0, 0) hbx).trans rfl
  have c2 : w2.cell? ⟨w.heap.size + 1 + 1, 2, none⟩ = some (.int .i64 0) := (cell_of_row _ _ 2 _ 68 (0, 0) hbx).trans rfl
  have f0 : w2.frozen? ⟨w.heap.size + 1 + 1, 0, none⟩ = false := frozen_of_row w2 _ 0 _ 68 hbx
  have f1 : w2.frozen? ⟨w.heap.size + 1 + 1, 1, none⟩ = false := frozen_of_row w2 _ 1 _ 68 hbx
  have f2 : w2.frozen? ⟨w.heap.size + 1 + 1, 2, none⟩ = false := frozen_of_row w2 _ 2 _ 68 hbx
  have HBX : Hid (_ = _) := hbx
  clear hbx
  go_wp2
  try simp only [Exit.inBlock, Exit.then]
  exact bodyPost_ret (results_pb rfl _ (w.heap.size + 1 + 1) rfl _ _ _ _ (heap_set3 HBX.out _ _ _)) rfl ⟨rfl, below_set3T hbb _ (by omega) _ _ _⟩

set_option maxRecDepth 10000 in
set_option maxHeartbeats 2000000 in
theorem treePubOf_any (sc x h n : Int) (w : World) (hx : U64 x) (hk : kP h n) :
    Calls Tryz.prog 129 #[.agg #[], scv sc x h n] w fun e w' => e = .returned (pbv (2, rootN x h, h)) ∧ Below w.heap.size w w' := by
  obtain ⟨w1, hw1⟩ : ∃ w1, w1 = ((w.alloc (.cells #[] 142)).alloc (.cells #[.int .i64 sc, .int .u64 x, .int .i64 h, .int .i64 n] 33)).alloc (.cells #[.int .i64 0, .int .u64 0, .int .i64 0] 68) := ⟨_, rfl⟩
  have hbb : Below w.heap.size w w1 := by rw [hw1]; exact three_belowT _ _ _ _
  have hbx1 : w1.heap[w.heap.size + 1 + 1]? = some (.cells #[.int .i64 0, .int .u64 0, .int .i64 0] 68) := by rw [hw1]; exact three_blocksT _ _ _ _
  have hby1 : w1.heap[w.heap.size + 1]? = some (.cells #[.int .i64 sc, .int .u64 x, .int .i64 h, .int .i64 n] 33) := by rw [hw1]; exact (alloc_oldT _ _ _ (by simp)).trans (two_blocks w _ _).2
  have HBX1 : Hid (_ = _) := hbx1
  have HBY1 : Hid (_ = _) := hby1
  have HW : Hid (_ = _) := hw1
  clear hw1 hbx1 hby1
  obtain ⟨v, hv⟩ : ∃ v, v = rootN x h := ⟨_, rfl⟩
  have HR : Hid (rootR x h n = (v, true)) := by show _ = _; unfold rootR; rw [if_pos hk, hv]
  rw [← hv]
  clear hv
  unfold scv
  go_enter Tryz.func129, Tryz.ntmps129
  go_wp2_with fail
  rw [← HW.out]
  clear HW
  refine (treeKeyOf_any sc x h n _).mono ?_
  rintro e w2 ⟨rfl, hb2⟩
  go_wp2_with fail
  refine (implTreeRoot_any x h n _ hx).mono ?_
  rintro e w3 ⟨rfl, hb3⟩
  rw [HR.out, pairU]
  have hb37 := keepT hb2 hb3
  have hbx : w3.heap[w.heap.size + 1 + 1]? = some (.cells #[.int .i64 0, .int .u64 0, .int .i64 0] 68) := (hb37.block _ (Array.getElem?_eq_some_iff.1 HBX1.out).1).trans HBX1.out
  have hby : w3.heap[w.heap.size + 1]? = some (.cells #[.int .i64 sc, .int .u64 x, .int .i64 h, .int .i64 n] 33) := (hb37.block _ (Array.getElem?_eq_some_iff.1 HBY1.out).1).trans HBY1.out
  have s2 : w3.cell? ⟨w.heap.size + 1, 2, none⟩ = some (.int .i64 h) := (cell_of_row _ _ 2 _ 33 (0, 0) hby).trans rfl
  have c0 : w3.cell? ⟨w.heap.size + 1 + 1, 0, none⟩ = some (.int .i64 0) := (cell_of_row _ _ 0 _ 68 (0, 0) hbx).trans rfl
  have c1 : w3.cell? ⟨w.heap.size + 1 + 1, 1, none⟩ = some (.int .u64 0) := (cell_of_row _ _ 1 _ 68 (0, 0) hbx).trans rfl
  have c2 : w3.cell? ⟨w.heap.size + 1 + 1, 2, none⟩ = some (.int .i64 0) := (cell_of_row _ _ 2 _ 68 (0, 0) hbx).trans rfl
  have f0 : w3.frozen? ⟨w.heap.size + 1 + 1, 0, none⟩ = false := frozen_of_row w3 _ 0 _ 68 hbx
  have f1 : w3.frozen? ⟨w.heap.size + 1 + 1, 1, none⟩ = false := frozen_of_row w3 _ 1 _ 68 hbx
  have f2 : w3.frozen? ⟨w.heap.size + 1 + 1, 2, none⟩ = false := frozen_of_row w3 _ 2 _ 68 hbx
  have HBX : Hid (_ = _) := hbx
  have hB3 := keepT hbb hb37
  clear hbx hby
  go_wp2
  try simp only [Exit.inBlock, Exit.then]
  exact bodyPost_ret (results_pb rfl _ (w.heap.size + 1 + 1) rfl _ _ _ _ (heap_set3 HBX.out _ _ _)) rfl ⟨rfl, below_set3T hB3 _ (by omega) _ _ _⟩

end Go.Proofs.YtpnhhhhmonbajaaGreat

namespace Go.Proofs.YtpnhhhhmonbajaaGreat
open Go.RowKit

def pubR (sc x h n : Int) : (Int × Int × Int) × Bool := if secOk sc x h n then ((if sc = 1 then (1, keyOf x, 0) else (2, rootN x h, h)), true) else ((0, 0, 0), false)

set_option maxRecDepth 10000 in
set_option maxHeartbeats 2000000 in
theorem implPubOf_any (sc x h n : Int) (w : World) (hx : U64 x) :
    Calls Tryz.prog 64 #[scv sc x h n] w fun e w' => e = .returned (.tuple #[pbv (pubR sc x h n).1, .bool (pubR sc x h n).2]) ∧ Below w.heap.size w w' := by
  obtain ⟨w1, hw1⟩ : ∃ w1, w1 = (w.alloc (.cells #[.int .i64 sc, .int .u64 x, .int .i64 h, .int .i64 n] 33)).alloc (.cells #[.int .i64 0, .int .u64 0, .int .i64 0] 68) := ⟨_, rfl⟩
  have hbb : Below w.heap.size w w1 := by rw [hw1]; exact two_below _ _ _
  have HPX : Hid (∀ w7, Below w1.heap.size w1 w7 → w7.heap[w.heap.size + 1]? = some (.cells #[.int .i64 0, .int .u64 0, .int .i64 0] 68)) := fun w7 h7 => (h7.block _ (by rw [hw1]; simp)).trans (by rw [hw1]; exact (two_blocks w _ _).2)
  have HSX : Hid (∀ w7, Below w1.heap.size w1 w7 → w7.heap[w.heap.size]? = some (.cells #[.int .i64 sc, .int .u64 x, .int .i64 h, .int .i64 n] 33)) := fun w7 h7 => (h7.block _ (by rw [hw1]; simp; omega)).trans (by rw [hw1]; exact (two_blocks w _ _).1)
  have HW : Hid (_ = _) := hw1
  clear hw1
  rw [scv]
  go_enter Tryz.func64, Tryz.ntmps64
  go_wp2_with fail
  rw [← HW.out]
  clear HW
  refine (secretScheme_any sc x h n _ hx).mono ?_
  rintro e w2 ⟨rfl, hb2⟩
  have hs := HSX.out _ hb2
  have s0 : w2.cell? ⟨w.heap.size, 0, none⟩ = some (.int .i64 sc) := (cell_of_row _ _ 0 _ 33 (0, 0) hs).trans rfl
  have s1 : w2.cell? ⟨w.heap.size, 1, none⟩ = some (.int .u64 x) := (cell_of_row _ _ 1 _ 33 (0, 0) hs).trans rfl
  have s2 : w2.cell? ⟨w.heap.size, 2, none⟩ = some (.int .i64 h) := (cell_of_row _ _ 2 _ 33 (0, 0) hs).trans rfl
  have s3 : w2.cell? ⟨w.heap.size, 3, none⟩ = some (.int .i64 n) := (cell_of_row _ _ 3 _ 33 (0, 0) hs).trans rfl
  clear hs
  by_cases hk : secOk sc x h n
  · rw [decide_eq_true hk]
    by_cases h1 : sc = 1
    · subst h1
      have hg : grpP x h n := hk.elim (fun a => a.2) (fun a => absurd a.1 (by decide))
      have HR : Hid (pubR 1 x h n = ((1, keyOf x, 0), true)) := by show _ = _; unfold pubR; rw [if_pos hk, if_pos rfl]
      have HI : Hid (ifv 1 = .iface 141 (.agg #[])) := rfl
      rw [HI.out]
      go_wp2_with fail
      refine (groupPubOf_any 1 x h n _ hg.1).mono ?_
      rintro e w3 ⟨rfl, hb3⟩
      rw [pbv]
      obtain ⟨v, hv⟩ : ∃ v, v = keyOf x := ⟨_, rfl⟩
      rw [← hv] at HR ⊢
      clear hv s0 s1 s2 s3
      have hb37 := keepT hb2 hb3
      have hbx := HPX.out _ hb37
      have c0 : w3.cell? ⟨w.heap.size + 1, 0, none⟩ = some (.int .i64 0) := (cell_of_row _ _ 0 _ 68 (0, 0) hbx).trans rfl
      have c1 : w3.cell? ⟨w.heap.size + 1, 1, none⟩ = some (.int .u64 0) := (cell_of_row _ _ 1 _ 68 (0, 0) hbx).trans rfl
      have c2 : w3.cell? ⟨w.heap.size + 1, 2, none⟩ = some (.int .i64 0) := (cell_of_row _ _ 2 _ 68 (0, 0) hbx).trans rfl
      have f0 : w3.frozen? ⟨w.heap.size + 1, 0, none⟩ = false := frozen_of_row w3 _ 0 _ 68 hbx
      have f1 : w3.frozen? ⟨w.heap.size + 1, 1, none⟩ = false := frozen_of_row w3 _ 1 _ 68 hbx
      have f2 : w3.frozen? ⟨w.heap.size + 1, 2, none⟩ = false := frozen_of_row w3 _ 2 _ 68 hbx
      have HBX : Hid (_ = _) := hbx
      have hB3 := keepT hbb hb37
      clear hbx
      go_wp2
      try simp only [Exit.inBlock, Exit.then]
      refine bodyPost_ret (results_pb2 rfl _ (w.heap.size + 1) rfl _ rfl _ _ _ _ (heap_set3 HBX.out _ _ _)) rfl ⟨?_, below_set3T hB3 _ (by omega) _ _ _⟩
      rw [HR.out]
      rfl
    · obtain ⟨rfl, hkk⟩ : sc = 2 ∧ kP h n := hk.elim (fun a => absurd a.1 h1) (fun a => a)
      have HR : Hid (pubR 2 x h n = ((2, rootN x h, h), true)) := by show _ = _; unfold pubR; rw [if_pos hk, if_neg (by decide)]
      have HI : Hid (ifv 2 = .iface 142 (.agg #[])) := rfl
      rw [HI.out]
      go_wp2_with fail
      refine (treePubOf_any 2 x h n _ hx hkk).mono ?_
      rintro e w3 ⟨rfl, hb3⟩
      rw [pbv]
      obtain ⟨v, hv⟩ : ∃ v, v = rootN x h := ⟨_, rfl⟩
      rw [← hv] at HR ⊢
      clear hv s0 s1 s2 s3
      have hb37 := keepT hb2 hb3
      have hbx := HPX.out _ hb37
      have c0 : w3.cell? ⟨w.heap.size + 1, 0, none⟩ = some (.int .i64 0) := (cell_of_row _ _ 0 _ 68 (0, 0) hbx).trans rfl
      have c1 : w3.cell? ⟨w.heap.size + 1, 1, none⟩ = some (.int .u64 0) := (cell_of_row _ _ 1 _ 68 (0, 0) hbx).trans rfl
      have c2 : w3.cell? ⟨w.heap.size + 1, 2, none⟩ = some (.int .i64 0) := (cell_of_row _ _ 2 _ 68 (0, 0) hbx).trans rfl
      have f0 : w3.frozen? ⟨w.heap.size + 1, 0, none⟩ = false := frozen_of_row w3 _ 0 _ 68 hbx
      have f1 : w3.frozen? ⟨w.heap.size + 1, 1, none⟩ = false := frozen_of_row w3 _ 1 _ 68 hbx
      have f2 : w3.frozen? ⟨w.heap.size + 1, 2, none⟩ = false := frozen_of_row w3 _ 2 _ 68 hbx
      have HBX : Hid (_ = _) := hbx
      have hB3 := keepT hbb hb37
      clear hbx
      go_wp2
      try simp only [Exit.inBlock, Exit.then]
      refine bodyPost_ret (results_pb2 rfl _ (w.heap.size + 1) rfl _ rfl _ _ _ _ (heap_set3 HBX.out _ _ _)) rfl ⟨?_, below_set3T hB3 _ (by omega) _ _ _⟩
      rw [HR.out]
      rfl
  · have HR : Hid (pubR sc x h n = ((0, 0, 0), false)) := by show _ = _; unfold pubR; rw [if_neg hk]
    rw [decide_eq_false hk]
    obtain ⟨iv, hiv⟩ : ∃ iv, iv = ifv sc := ⟨_, rfl⟩
    rw [← hiv]
    clear hiv s0 s1 s2 s3
    have hbx := HPX.out _ hb2
    have c0 : w2.cell? ⟨w.heap.size + 1, 0, none⟩ = some (.int .i64 0) := (cell_of_row _ _ 0 _ 68 (0, 0) hbx).trans rfl
    have c1 : w2.cell? ⟨w.heap.size + 1, 1, none⟩ = some (.int .u64 0) := (cell_of_row _ _ 1 _ 68 (0, 0) hbx).trans rfl
    have c2 : w2.cell? ⟨w.heap.size + 1, 2, none⟩ = some (.int .i64 0) := (cell_of_row _ _ 2 _ 68 (0, 0) hbx).trans rfl
    have f0 : w2.frozen? ⟨w.heap.size + 1, 0, none⟩ = false := frozen_of_row w2 _ 0 _ 68 hbx
    have f1 : w2.frozen? ⟨w.heap.size + 1, 1, none⟩ = false := frozen_of_row w2 _ 1 _ 68 hbx
    have f2 : w2.frozen? ⟨w.heap.size + 1, 2, none⟩ = false := frozen_of_row w2 _ 2 _ 68 hbx
    have HBX : Hid (_ = _) := hbx
    have hB3 := keepT hbb hb2
    clear hbx
    go_wp2
    try simp only [Exit.inBlock, Exit.then]
    refine bodyPost_ret (results_pb2 rfl _ (w.heap.size + 1) rfl _ rfl _ _ _ _ (heap_set3 HBX.out _ _ _)) rfl ⟨?_, below_set3T hB3 _ (by omega) _ _ _⟩
    rw [HR.out]
    rfl

end Go.Proofs.YtpnhhhhmonbajaaGreat

namespace Go.Proofs.YtpnhhhhmonbajaaGreat
open Go.RowKit

set_option maxRecDepth 10000 in
set_option maxHeartbeats 2000000 in
theorem specPubOf_any (sc x h n : Int) (w : World) (hx : U64 x) :
    Calls Tryz.prog 39 #[scv sc x h n] w fun e w' => e = .returned (.tuple #[pbv (pubR sc x h n).1, .bool (pubR sc x h n).2]) ∧ Below w.heap.size w w' := by
  obtain ⟨w1, hw1⟩ : ∃ w1, w1 = (w.alloc (.cells #[.int .i64 sc, .int .u64 x, .int .i64 h, .int .i64 n] 33)).alloc (.cells #[.int .i64 0, .int .u64 0, .int .i64 0] 68) := ⟨_, rfl⟩
  have hbb : Below w.heap.size w w1 := by rw [hw1]; exact two_below _ _ _
  have HPX : Hid (∀ w7, Below w1.heap.size w1 w7 → w7.heap[w.heap.size + 1]? = some (.cells #[.int .i64 0, .int .u64 0, .int .i64 0] 68)) := fun w7 h7 => (h7.block _ (by rw [hw1]; simp)).trans (by rw [hw1]; exact (two_blocks w _ _).2)
  have HSX : Hid (∀ w7, Below w1.heap.size w1 w7 → w7.heap[w.heap.size]? = some (.cells #[.int .i64 sc, .int .u64 x, .int .i64 h, .int .i64 n] 33)) := fun w7 h7 => (h7.block _ (by rw [hw1]; simp; omega)).trans (by rw [hw1]; exact (two_blocks w _ _).1)
  have HW : Hid (_ = _) := hw1
  clear hw1
  rw [scv]
  go_enter Tryz.func39, Tryz.ntmps39
  go_wp2_with fail
  rw [← HW.out]
  clear HW
  refine (l8SecretOk_any sc x h n _ hx).mono ?_
  rintro e w2 ⟨rfl, hb2⟩
  have hs := HSX.out _ hb2
  have s0 : w2.cell? ⟨w.heap.size, 0, none⟩ = some (.int .i64 sc) := (cell_of_row _ _ 0 _ 33 (0, 0) hs).trans rfl
  have s1 : w2.cell? ⟨w.heap.size, 1, none⟩ = some (.int .u64 x) := (cell_of_row _ _ 1 _ 33 (0, 0) hs).trans rfl
  have s2 : w2.cell? ⟨w.heap.size, 2, none⟩ = some (.int .i64 h) := (cell_of_row _ _ 2 _ 33 (0, 0) hs).trans rfl
  have s3 : w2.cell? ⟨w.heap.size, 3, none⟩ = some (.int .i64 n) := (cell_of_row _ _ 3 _ 33 (0, 0) hs).trans rfl
  have hbx := HPX.out _ hb2
  have c0 : w2.cell? ⟨w.heap.size + 1, 0, none⟩ = some (.int .i64 0) := (cell_of_row _ _ 0 _ 68 (0, 0) hbx).trans rfl
  have c1 : w2.cell? ⟨w.heap.size + 1, 1, none⟩ = some (.int .u64 0) := (cell_of_row _ _ 1 _ 68 (0, 0) hbx).trans rfl
  have c2 : w2.cell? ⟨w.heap.size + 1, 2, none⟩ = some (.int .i64 0) := (cell_of_row _ _ 2 _ 68 (0, 0) hbx).trans rfl
  have f0 : w2.frozen? ⟨w.heap.size + 1, 0, none⟩ = false := frozen_of_row w2 _ 0 _ 68 hbx
  have f1 : w2.frozen? ⟨w.heap.size + 1, 1, none⟩ = false := frozen_of_row w2 _ 1 _ 68 hbx
  have f2 : w2.frozen? ⟨w.heap.size + 1, 2, none⟩ = false := frozen_of_row w2 _ 2 _ 68 hbx
  have HBX : Hid (_ = _) := hbx
  have hB2 := keepT hbb hb2
  clear hs hbx
  by_cases hk : secOk sc x h n
  · rw [decide_eq_true hk]
    by_cases h1 : sc = 1
    · subst h1
      have hg : grpP x h n := hk.elim (fun a => a.2) (fun a => absurd a.1 (by decide))
      have HR : Hid (pubR 1 x h n = ((1, keyOf x, 0), true)) := by show _ = _; unfold pubR; rw [if_pos hk, if_pos rfl]
      have hx0 := hg.1.1
      have hx9 := hg.1.2
      have hsec : secP x := hg.1
      have hko : 0 ≤ keyOf x ∧ keyOf x ≤ 1000000006 := by have := gp_bd 4 x; unfold keyOf; rw [if_pos hsec]; omega
      obtain ⟨hko0, hko1⟩ := hko
      have u1 : wrap64 x = x := by unfold wrap64; omega
      have u2 : IntKind.i64.wrap x = x := by rw [IntKind.wrap_i64]; omega
      have u3 : IntKind.u64.wrap (keyOf x) = keyOf x := by rw [IntKind.wrap_u64]; omega
      go_upto_region 4 with fail
      go_region_with ((go_at_call 57; refine (specKeyOf_any x _).mono ?_; rintro e w3 ⟨rfl, rfl⟩))
      all_goals
        go_wp2_with fail
        try simp only [Exit.inBlock, Exit.then]
        refine bodyPost_ret (results_pb2 rfl _ (w.heap.size + 1) rfl _ rfl _ _ _ _ (heap_set3 (w := w2.drew) HBX.out _ _ _)) rfl ⟨?_, below_set3T hB2.drew _ (by omega) _ _ _⟩
        rw [HR.out]
        rfl
    · obtain ⟨rfl, hkk⟩ : sc = 2 ∧ kP h n := hk.elim (fun a => absurd a.1 h1) (fun a => a)
      have HR : Hid (pubR 2 x h n = ((2, rootN x h, h), true)) := by show _ = _; unfold pubR; rw [if_pos hk, if_neg (by decide)]
      obtain ⟨v, hv⟩ : ∃ v, v = rootN x h := ⟨_, rfl⟩
      have HRR : Hid (rootR x h n = (v, true)) := by show _ = _; unfold rootR; rw [if_pos hkk, hv]
      rw [← hv] at HR
      clear hv c0 c1 c2 f0 f1 f2
      go_wp2_with fail
      refine (l8Tree_any 2 x h n _).mono ?_
      rintro e w3 ⟨rfl, hb3⟩
      clear s0 s1 s2 s3
      go_wp2_with fail
      refine (specTreeRoot_any x h n _ hx).mono ?_
      rintro e w4 ⟨rfl, hb4⟩
      rw [HRR.out, pairU]
      have hb47 := keepT hb2 (keepT hb3 hb4)
      have hs := HSX.out _ hb47
      have s0 : w4.cell? ⟨w.heap.size, 0, none⟩ = some (.int .i64 2) := (cell_of_row _ _ 0 _ 33 (0, 0) hs).trans rfl
      have s2 : w4.cell? ⟨w.heap.size, 2, none⟩ = some (.int .i64 h) := (cell_of_row _ _ 2 _ 33 (0, 0) hs).trans rfl
      have hbx := HPX.out _ hb47
      have c0 : w4.cell? ⟨w.heap.size + 1, 0, none⟩ = some (.int .i64 0) := (cell_of_row _ _ 0 _ 68 (0, 0) hbx).trans rfl
      have c1 : w4.cell? ⟨w.heap.size + 1, 1, none⟩ = some (.int .u64 0) := (cell_of_row _ _ 1 _ 68 (0, 0) hbx).trans rfl
      have c2 : w4.cell? ⟨w.heap.size + 1, 2, none⟩ = some (.int .i64 0) := (cell_of_row _ _ 2 _ 68 (0, 0) hbx).trans rfl
      have f0 : w4.frozen? ⟨w.heap.size + 1, 0, none⟩ = false := frozen_of_row w4 _ 0 _ 68 hbx
      have f1 : w4.frozen? ⟨w.heap.size + 1, 1, none⟩ = false := frozen_of_row w4 _ 1 _ 68 hbx
      have f2 : w4.frozen? ⟨w.heap.size + 1, 2, none⟩ = false := frozen_of_row w4 _ 2 _ 68 hbx
      have HBX4 : Hid (_ = _) := hbx
      have hB4 := keepT hbb hb47
      clear hbx hs
      go_wp2
      try simp only [Exit.inBlock, Exit.then]
      refine bodyPost_ret (results_pb2 rfl _ (w.heap.size + 1) rfl _ rfl _ _ _ _ (heap_set3 HBX4.out _ _ _)) rfl ⟨?_, below_set3T hB4 _ (by omega) _ _ _⟩
      rw [HR.out]
      rfl
  · have HR : Hid (pubR sc x h n = ((0, 0, 0), false)) := by show _ = _; unfold pubR; rw [if_neg hk]
    rw [decide_eq_false hk]
    go_wp2
    try simp only [Exit.inBlock, Exit.then]
    refine bodyPost_ret (results_pb2 rfl _ (w.heap.size + 1) rfl _ rfl _ _ _ _ (heap_set3 HBX.out _ _ _)) rfl ⟨?_, below_set3T hB2 _ (by omega) _ _ _⟩
    rw [HR.out]
    rfl

end Go.Proofs.YtpnhhhhmonbajaaGreat

