import Derived.Test.YtgaheamgkaipnaaSA6
import Derived.Test.YtgaheamgkaipnaaTouch
import Derived.Test.YtgaheamgkaipnaaTTE1
import Derived.Test.YtgaheamgkaipnaaTTF1
import Derived.Test.YtgaheamgkaipnaaTS1
import Derived.Test.YtgaheamgkaipnaaGB3
import Derived.Test.YtgaheamgkaipnaaGB4
namespace Go.Proofs.Ytgaheamgkaipnaa
open Go.RowKit

theorem saV_len (sc x h n : Int) (ms : List Int) : (saV sc x h n ms).1.length ≤ 1000 := by
  unfold saV
  split
  · rename_i hk
    split
    · rename_i h1
      have hg : grpP x h n := hk.elim (fun a => a.2) (fun a => absurd a.1 (by omega))
      have hs : secP x := hg.1
      show (sgG x ms).length ≤ 1000
      unfold sgG
      rw [List.length_append]
      have e1 : (signR x ms).1.1 ≤ 9223372036854775807 := by unfold signR; rw [if_pos hs]; exact Int.le_trans (chalN_bd _ _ _).2 (by decide)
      have e2 : (signR x ms).1.2 ≤ 9223372036854775807 := by unfold signR; rw [if_pos hs]; show (nonN x ms + sigE x ms * x) % 500000003 ≤ _; omega
      have := putI_len _ e1
      have := putI_len _ e2
      omega
    · rename_i h1
      have hkk : kP h n := hk.elim (fun a => absurd a.1 h1) (fun a => a.2)
      show (saT x h n ms).1.length ≤ 1000
      unfold saT
      split
      · simp
      · show (sgT x h n ms).length ≤ 1000
        unfold sgT
        rw [List.length_append, flatL_len, List.length_append, endSs_len, pathN_len]
        have hb : n ≤ 9223372036854775807 := by
          have a1 := hkk.2.2
          have a2 : 2 ^ h.toNat ≤ 2 ^ 5 := Nat.pow_le_pow_right (by decide) (by have := hkk.1; omega)
          omega
        have := putI_len n hb
        have := hkk.1
        omega
  · simp

end Go.Proofs.Ytgaheamgkaipnaa

namespace Go.Proofs.Ytgaheamgkaipnaa
open Go.RowKit

set_option maxHeartbeats 2000000 in
theorem groupPubOf_any (sc x h n : Int) (w : World) (hs : secP x) :
    Calls Try.prog 124 #[.agg #[], scv sc x h n] w fun e w' => e = .returned (pbv (1, keyOf x, 0)) ∧ Below w.heap.size w w' := by
  obtain ⟨w1, hw1⟩ : ∃ w1, w1 = ((w.alloc (.cells #[] 137)).alloc (.cells #[.int .i64 sc, .int .u64 x, .int .i64 h, .int .i64 n] 61)).alloc (.cells #[.int .i64 0, .int .u64 0, .int .i64 0] 65) := ⟨_, rfl⟩
  have hbb : Below w.heap.size w w1 := by rw [hw1]; exact three_belowT _ _ _ _
  have hbx : w1.heap[w.heap.size + 1 + 1]? = some (.cells #[.int .i64 0, .int .u64 0, .int .i64 0] 65) := by rw [hw1]; exact three_blocksT _ _ _ _
  have HW : Hid (_ = _) := hw1
  clear hw1
  have hx0 := hs.1
  have hx1 := hs.2
  have hkb := gp_bd 4 x
  have hko : 0 ≤ keyOf x ∧ keyOf x ≤ 1000000006 := by unfold keyOf; rw [if_pos hs]; omega
  obtain ⟨hko0, hko1⟩ := hko
  unfold scv
  go_enter Try.func124, Try.ntmps124
  go_wp2_with fail
  rw [← HW.out]
  clear HW
  refine (implKeyOf_any x _).mono ?_
  rintro e w2 ⟨rfl, rfl⟩
  have c0 : w2.cell? ⟨w.heap.size + 1 + 1, 0, none⟩ = some (.int .i64 0) := (cell_of_row _ _ 0 _ 65 (0, 0) hbx).trans rfl
  have c1 : w2.cell? ⟨w.heap.size + 1 + 1, 1, none⟩ = some (.int .u64 0) := (cell_of_row _ _ 1 _ 65 (0, 0) hbx).trans rfl
  have c2 : w2.cell? ⟨w.heap.size + 1 + 1, 2, none⟩ = some (.int .i64 0) := (cell_of_row _ _ 2 _ 65 (0, 0) hbx).trans rfl
  have f0 : w2.frozen? ⟨w.heap.size + 1 + 1, 0, none⟩ = false := frozen_of_row w2 _ 0 _ 65 hbx
  have f1 : w2.frozen? ⟨w.heap.size + 1 + 1, 1, none⟩ = false := frozen_of_row w2 _ 1 _ 65 hbx
  have f2 : w2.frozen? ⟨w.heap.size + 1 + 1, 2, none⟩ = false := frozen_of_row w2 _ 2 _ 65 hbx
  have HBX : Hid (_ = _) := hbx
  clear hbx
  go_wp2
  try simp only [Exit.inBlock, Exit.then]
  exact bodyPost_ret (results_pb rfl _ (w.heap.size + 1 + 1) rfl _ _ _ _ (heap_set3 HBX.out _ _ _)) rfl ⟨rfl, below_set3T hbb _ (by omega) _ _ _⟩

set_option maxHeartbeats 2000000 in
theorem treePubOf_any (sc x h n : Int) (w : World) (hx : U64 x) (hk : kP h n) :
    Calls Try.prog 131 #[.agg #[], scv sc x h n] w fun e w' => e = .returned (pbv (2, rootN x h, h)) ∧ Below w.heap.size w w' := by
  obtain ⟨w1, hw1⟩ : ∃ w1, w1 = ((w.alloc (.cells #[] 138)).alloc (.cells #[.int .i64 sc, .int .u64 x, .int .i64 h, .int .i64 n] 61)).alloc (.cells #[.int .i64 0, .int .u64 0, .int .i64 0] 65) := ⟨_, rfl⟩
  have hbb : Below w.heap.size w w1 := by rw [hw1]; exact three_belowT _ _ _ _
  have hbx1 : w1.heap[w.heap.size + 1 + 1]? = some (.cells #[.int .i64 0, .int .u64 0, .int .i64 0] 65) := by rw [hw1]; exact three_blocksT _ _ _ _
  have hby1 : w1.heap[w.heap.size + 1]? = some (.cells #[.int .i64 sc, .int .u64 x, .int .i64 h, .int .i64 n] 61) := by rw [hw1]; exact (alloc_oldT _ _ _ (by simp)).trans (two_blocks w _ _).2
  have HBX1 : Hid (_ = _) := hbx1
  have HBY1 : Hid (_ = _) := hby1
  have HW : Hid (_ = _) := hw1
  clear hw1 hbx1 hby1
  obtain ⟨v, hv⟩ : ∃ v, v = rootN x h := ⟨_, rfl⟩
  have HR : Hid (rootR x h n = (v, true)) := by show _ = _; unfold rootR; rw [if_pos hk, hv]
  rw [← hv]
  clear hv
  unfold scv
  go_enter Try.func131, Try.ntmps131
  go_wp2_with fail
  rw [← HW.out]
  clear HW
  refine (treeKeyOf_any sc x h n _).mono ?_
  rintro e w2 ⟨rfl, hb2⟩
  go_wp2_with fail
  refine (implTreeRoot_any x h n _ hx).mono ?_
  rintro e w3 ⟨rfl, hb3⟩
  rw [HR.out, pairU]
  have hb37 := keepT hb2 hb3
  have hbx : w3.heap[w.heap.size + 1 + 1]? = some (.cells #[.int .i64 0, .int .u64 0, .int .i64 0] 65) := (hb37.block _ (Array.getElem?_eq_some_iff.1 HBX1.out).1).trans HBX1.out
  have hby : w3.heap[w.heap.size + 1]? = some (.cells #[.int .i64 sc, .int .u64 x, .int .i64 h, .int .i64 n] 61) := (hb37.block _ (Array.getElem?_eq_some_iff.1 HBY1.out).1).trans HBY1.out
  have s2 : w3.cell? ⟨w.heap.size + 1, 2, none⟩ = some (.int .i64 h) := (cell_of_row _ _ 2 _ 61 (0, 0) hby).trans rfl
  have c0 : w3.cell? ⟨w.heap.size + 1 + 1, 0, none⟩ = some (.int .i64 0) := (cell_of_row _ _ 0 _ 65 (0, 0) hbx).trans rfl
  have c1 : w3.cell? ⟨w.heap.size + 1 + 1, 1, none⟩ = some (.int .u64 0) := (cell_of_row _ _ 1 _ 65 (0, 0) hbx).trans rfl
  have c2 : w3.cell? ⟨w.heap.size + 1 + 1, 2, none⟩ = some (.int .i64 0) := (cell_of_row _ _ 2 _ 65 (0, 0) hbx).trans rfl
  have f0 : w3.frozen? ⟨w.heap.size + 1 + 1, 0, none⟩ = false := frozen_of_row w3 _ 0 _ 65 hbx
  have f1 : w3.frozen? ⟨w.heap.size + 1 + 1, 1, none⟩ = false := frozen_of_row w3 _ 1 _ 65 hbx
  have f2 : w3.frozen? ⟨w.heap.size + 1 + 1, 2, none⟩ = false := frozen_of_row w3 _ 2 _ 65 hbx
  have HBX : Hid (_ = _) := hbx
  have hB3 := keepT hbb hb37
  clear hbx hby
  go_wp2
  try simp only [Exit.inBlock, Exit.then]
  exact bodyPost_ret (results_pb rfl _ (w.heap.size + 1 + 1) rfl _ _ _ _ (heap_set3 HBX.out _ _ _)) rfl ⟨rfl, below_set3T hB3 _ (by omega) _ _ _⟩

end Go.Proofs.Ytgaheamgkaipnaa

namespace Go.Proofs.Ytgaheamgkaipnaa
open Go.RowKit

def pubR (sc x h n : Int) : (Int × Int × Int) × Bool := if secOk sc x h n then ((if sc = 1 then (1, keyOf x, 0) else (2, rootN x h, h)), true) else ((0, 0, 0), false)

set_option maxHeartbeats 2000000 in
theorem implPubOf_any (sc x h n : Int) (w : World) (hx : U64 x) :
    Calls Try.prog 28 #[scv sc x h n] w fun e w' => e = .returned (.tuple #[pbv (pubR sc x h n).1, .bool (pubR sc x h n).2]) ∧ Below w.heap.size w w' := by
  obtain ⟨w1, hw1⟩ : ∃ w1, w1 = (w.alloc (.cells #[.int .i64 sc, .int .u64 x, .int .i64 h, .int .i64 n] 61)).alloc (.cells #[.int .i64 0, .int .u64 0, .int .i64 0] 65) := ⟨_, rfl⟩
  have hbb : Below w.heap.size w w1 := by rw [hw1]; exact two_below _ _ _
  have HPX : Hid (∀ w7, Below w1.heap.size w1 w7 → w7.heap[w.heap.size + 1]? = some (.cells #[.int .i64 0, .int .u64 0, .int .i64 0] 65)) := fun w7 h7 => (h7.block _ (by rw [hw1]; simp)).trans (by rw [hw1]; exact (two_blocks w _ _).2)
  have HSX : Hid (∀ w7, Below w1.heap.size w1 w7 → w7.heap[w.heap.size]? = some (.cells #[.int .i64 sc, .int .u64 x, .int .i64 h, .int .i64 n] 61)) := fun w7 h7 => (h7.block _ (by rw [hw1]; simp; omega)).trans (by rw [hw1]; exact (two_blocks w _ _).1)
  have HW : Hid (_ = _) := hw1
  clear hw1
  rw [scv]
  go_enter Try.func28, Try.ntmps28
  go_wp2_with fail
  rw [← HW.out]
  clear HW
  refine (secretScheme_any sc x h n _ hx).mono ?_
  rintro e w2 ⟨rfl, hb2⟩
  have hs := HSX.out _ hb2
  have s0 : w2.cell? ⟨w.heap.size, 0, none⟩ = some (.int .i64 sc) := (cell_of_row _ _ 0 _ 61 (0, 0) hs).trans rfl
  have s1 : w2.cell? ⟨w.heap.size, 1, none⟩ = some (.int .u64 x) := (cell_of_row _ _ 1 _ 61 (0, 0) hs).trans rfl
  have s2 : w2.cell? ⟨w.heap.size, 2, none⟩ = some (.int .i64 h) := (cell_of_row _ _ 2 _ 61 (0, 0) hs).trans rfl
  have s3 : w2.cell? ⟨w.heap.size, 3, none⟩ = some (.int .i64 n) := (cell_of_row _ _ 3 _ 61 (0, 0) hs).trans rfl
  clear hs
  by_cases hk : secOk sc x h n
  · rw [decide_eq_true hk]
    by_cases h1 : sc = 1
    · subst h1
      have hg : grpP x h n := hk.elim (fun a => a.2) (fun a => absurd a.1 (by decide))
      have HR : Hid (pubR 1 x h n = ((1, keyOf x, 0), true)) := by show _ = _; unfold pubR; rw [if_pos hk, if_pos rfl]
      have HI : Hid (ifv 1 = .iface 137 (.agg #[])) := rfl
      rw [HI.out]
      go_wp2_with fail
      refine (groupPubOf_any 1 x h n _ hg.1).mono ?_
      rintro e w3 ⟨rfl, hb3⟩
      rw [pbv]
      obtain ⟨v, hv⟩ : ∃ v, v = keyOf x := ⟨_, rfl⟩
      rw [← hv] at HR ⊢
      clear hv s0 s1 s2 s3
      have hb37 := keepT hb2 hb3
      have hbx := HPX.out _ hb37
      have c0 : w3.cell? ⟨w.heap.size + 1, 0, none⟩ = some (.int .i64 0) := (cell_of_row _ _ 0 _ 65 (0, 0) hbx).trans rfl
      have c1 : w3.cell? ⟨w.heap.size + 1, 1, none⟩ = some (.int .u64 0) := (cell_of_row _ _ 1 _ 65 (0, 0) hbx).trans rfl
      have c2 : w3.cell? ⟨w.heap.size + 1, 2, none⟩ = some (.int .i64 0) := (cell_of_row _ _ 2 _ 65 (0, 0) hbx).trans rfl
      have f0 : w3.frozen? ⟨w.heap.size + 1, 0, none⟩ = false := frozen_of_row w3 _ 0 _ 65 hbx
      have f1 : w3.frozen? ⟨w.heap.size + 1, 1, none⟩ = false := frozen_of_row w3 _ 1 _ 65 hbx
      have f2 : w3.frozen? ⟨w.heap.size + 1, 2, none⟩ = false := frozen_of_row w3 _ 2 _ 65 hbx
      have HBX : Hid (_ = _) := hbx
      have hB3 := keepT hbb hb37
      clear hbx
      go_wp2
      try simp only [Exit.inBlock, Exit.then]
      refine bodyPost_ret (results_pb2 rfl _ (w.heap.size + 1) rfl _ rfl _ _ _ _ (heap_set3 HBX.out _ _ _)) rfl ⟨?_, below_set3T hB3 _ (by omega) _ _ _⟩
      rw [HR.out]
      rfl
    · obtain ⟨rfl, hkk⟩ : sc = 2 ∧ kP h n := hk.elim (fun a => absurd a.1 h1) (fun a => a)
      have HR : Hid (pubR 2 x h n = ((2, rootN x h, h), true)) := by show _ = _; unfold pubR; rw [if_pos hk, if_neg (by decide)]
      have HI : Hid (ifv 2 = .iface 138 (.agg #[])) := rfl
      rw [HI.out]
      go_wp2_with fail
      refine (treePubOf_any 2 x h n _ hx hkk).mono ?_
      rintro e w3 ⟨rfl, hb3⟩
      rw [pbv]
      obtain ⟨v, hv⟩ : ∃ v, v = rootN x h := ⟨_, rfl⟩
      rw [← hv] at HR ⊢
      clear hv s0 s1 s2 s3
      have hb37 := keepT hb2 hb3
      have hbx := HPX.out _ hb37
      have c0 : w3.cell? ⟨w.heap.size + 1, 0, none⟩ = some (.int .i64 0) := (cell_of_row _ _ 0 _ 65 (0, 0) hbx).trans rfl
      have c1 : w3.cell? ⟨w.heap.size + 1, 1, none⟩ = some (.int .u64 0) := (cell_of_row _ _ 1 _ 65 (0, 0) hbx).trans rfl
      have c2 : w3.cell? ⟨w.heap.size + 1, 2, none⟩ = some (.int .i64 0) := (cell_of_row _ _ 2 _ 65 (0, 0) hbx).trans rfl
      have f0 : w3.frozen? ⟨w.heap.size + 1, 0, none⟩ = false := frozen_of_row w3 _ 0 _ 65 hbx
      have f1 : w3.frozen? ⟨w.heap.size + 1, 1, none⟩ = false := frozen_of_row w3 _ 1 _ 65 hbx
      have f2 : w3.frozen? ⟨w.heap.size + 1, 2, none⟩ = false := frozen_of_row w3 _ 2 _ 65 hbx
      have HBX : Hid (_ = _) := hbx
      have hB3 := keepT hbb hb37
      clear hbx
      go_wp2
      try simp only [Exit.inBlock, Exit.then]
      refine bodyPost_ret (results_pb2 rfl _ (w.heap.size + 1) rfl _ rfl _ _ _ _ (heap_set3 HBX.out _ _ _)) rfl ⟨?_, below_set3T hB3 _ (by omega) _ _ _⟩
      rw [HR.out]
      rfl
  · have HR : Hid (pubR sc x h n = ((0, 0, 0), false)) := by show _ = _; unfold pubR; rw [if_neg hk]
    rw [decide_eq_false hk]
    obtain ⟨iv, hiv⟩ : ∃ iv, iv = ifv sc := ⟨_, rfl⟩
    rw [← hiv]
    clear hiv s0 s1 s2 s3
    have hbx := HPX.out _ hb2
    have c0 : w2.cell? ⟨w.heap.size + 1, 0, none⟩ = some (.int .i64 0) := (cell_of_row _ _ 0 _ 65 (0, 0) hbx).trans rfl
    have c1 : w2.cell? ⟨w.heap.size + 1, 1, none⟩ = some (.int .u64 0) := (cell_of_row _ _ 1 _ 65 (0, 0) hbx).trans rfl
    have c2 : w2.cell? ⟨w.heap.size + 1, 2, none⟩ = some (.int .i64 0) := (cell_of_row _ _ 2 _ 65 (0, 0) hbx).trans rfl
    have f0 : w2.frozen? ⟨w.heap.size + 1, 0, none⟩ = false := frozen_of_row w2 _ 0 _ 65 hbx
    have f1 : w2.frozen? ⟨w.heap.size + 1, 1, none⟩ = false := frozen_of_row w2 _ 1 _ 65 hbx
    have f2 : w2.frozen? ⟨w.heap.size + 1, 2, none⟩ = false := frozen_of_row w2 _ 2 _ 65 hbx
    have HBX : Hid (_ = _) := hbx
    have hB3 := keepT hbb hb2
    clear hbx
    go_wp2
    try simp only [Exit.inBlock, Exit.then]
    refine bodyPost_ret (results_pb2 rfl _ (w.heap.size + 1) rfl _ rfl _ _ _ _ (heap_set3 HBX.out _ _ _)) rfl ⟨?_, below_set3T hB3 _ (by omega) _ _ _⟩
    rw [HR.out]
    rfl

end Go.Proofs.Ytgaheamgkaipnaa

namespace Go.Proofs.Ytgaheamgkaipnaa
open Go.RowKit

theorem steps_add (v : Int) (a b : Nat) : stepsN (stepsN v a) b = stepsN v (a + b) := by
  induction b with
  | zero => rfl
  | succ b ih => rw [stepsN, ih]; rfl
theorem endV_made (seed next : Int) (bs : List Int) (i : Nat) (hi : i < 18) : endV bs (endSs seed next bs) i = endN seed next i := by
  have hd := diL_bd (hashL bs) i
  unfold endV
  rw [endSs_get seed next bs i hi]
  unfold endS
  rw [steps_add]
  unfold endN
  congr 1
  omega
theorem endVs_made (seed next : Int) (bs : List Int) : endVs bs (endSs seed next bs) = endsN seed next := by
  unfold endVs endsN
  apply List.map_congr_left
  intro i hi
  exact endV_made seed next bs i (List.mem_range.1 hi)
theorem pathN_get (zs : List Int) (L H k : Nat) (hk : k < H) : (pathN zs L H).getD k 0 = (lev zs k).getD (sib (L / 2 ^ k)) 0 := by
  induction H with
  | zero => omega
  | succ H ih =>
    rw [pathN, List.getD_eq_getElem?_getD, List.getElem?_append]
    by_cases h : k < H
    · rw [if_pos (by rw [pathN_len]; exact h), ← List.getD_eq_getElem?_getD, ih h]
    · obtain rfl : k = H := by omega
      rw [if_neg (by rw [pathN_len]; omega), pathN_len, Nat.sub_self]
      rfl
theorem climb_made (zs : List Int) (L H : Nat) (hz : zs.length = 2 ^ H) (hL : L < 2 ^ H) (k : Nat) (hk : k ≤ H) : climb (zs.getD L 0) L (pathN zs L H) k = (lev zs k).getD (L / 2 ^ k) 0 := by
  induction k with
  | zero => simp [climb, lev]
  | succ k ih =>
    have hx := div_pow_lt hL hk
    have hl := lev_len zs H k hz (by omega)
    have e : L / 2 ^ (k + 1) = L / 2 ^ k / 2 := by rw [Nat.pow_succ, Nat.div_div_eq_div_mul]
    rw [climb, ih (by omega), pathN_get zs L H k (by omega), lev, upL_get _ _ (by have e2 : 2 ^ (H - k) = 2 ^ (H - (k + 1)) * 2 := by { rw [show H - k = H - (k + 1) + 1 by omega, Nat.pow_succ] }; rw [hl, e2, Nat.mul_div_cancel _ (by decide)]; exact hx)]
    unfold upN sib
    rw [e]
    obtain ⟨x, hxx⟩ : ∃ x, x = L / 2 ^ k := ⟨_, rfl⟩
    rw [← hxx]
    by_cases h : x % 2 = 0
    · rw [if_pos h, if_pos h, show 2 * (x / 2) = x by omega]
    · rw [if_neg h, if_neg h, show 2 * (x / 2) + 1 = x by omega, show 2 * (x / 2) = x - 1 by omega]
theorem made_taken (seed h next : Int) (bs : List Int) (hk : kP h next) (hu : ¬ (next = ((2 ^ h.toNat : Nat) : Int))) :
    tvP (rootN seed h) h bs next (endSs seed next bs) (pathN (leavesN seed (2 ^ h.toNat)) next.toNat h.toNat) := by
  obtain ⟨hh, hn0, hn1⟩ := hk
  have hL : next.toNat < 2 ^ h.toNat := by omega
  refine ⟨hh, ⟨hn0, by omega⟩, endSs_len _ _ _, by rw [pathN_len]; omega, ?_⟩
  rw [endVs_made, pathN_len]
  have e : hashD leW (endsN seed next) = (leavesN seed (2 ^ h.toNat)).getD next.toNat 0 := by
    rw [leavesN_get seed _ _ hL]
    show leafN seed next = leafN seed ((next.toNat : Nat) : Int)
    rw [show ((next.toNat : Nat) : Int) = next by omega]
  rw [e, climb_made _ _ h.toNat (leavesN_len _ _) hL h.toNat (Nat.le_refl _)]
  unfold rootN
  rw [Nat.div_eq_of_lt hL]

end Go.Proofs.Ytgaheamgkaipnaa

namespace Go.Proofs.Ytgaheamgkaipnaa
open Go.RowKit

theorem pw_add (b m : Int) (e f : Nat) : pw b e m * pw b f m % m = pw b (e + f) m := by
  unfold pw
  rw [← Int.mul_emod, Int.pow_add]
theorem pw_mul (b m : Int) (e f : Nat) : pw (pw b e m) f m = pw b (e * f) m := by
  unfold pw
  rw [pow_emod, Int.pow_mul]

theorem eu_gcd : ∀ (n r : Nat) (o p : Int), (eu r n o p).1 = Nat.gcd n r := by
  intro n
  induction n using Nat.strongRecOn with
  | ind n ih =>
    intro r o p
    by_cases h : 0 < n
    · rw [eu_step h, ih (r % n) (Nat.mod_lt _ h), ← Nat.gcd_rec]
    · obtain rfl : n = 0 := by omega
      rw [eu_zero, Nat.gcd_zero_left]
theorem eu_inv (M A : Int) : ∀ (n r : Nat) (o p : Int), M ∣ o * A - r → M ∣ p * A - n → M ∣ (eu r n o p).2 * A - ((eu r n o p).1 : Nat) := by
  intro n
  induction n using Nat.strongRecOn with
  | ind n ih =>
    intro r o p h1 h2
    by_cases h : 0 < n
    · rw [eu_step h]
      refine ih (r % n) (Nat.mod_lt _ h) _ _ _ h2 ?_
      have hm := rest_mod r n
      have e : (o - (r / n : Nat) * p) * A - ((r % n : Nat) : Int) = (o * A - r) - (r / n : Nat) * (p * A - n) := by
        rw [← hm, Int.sub_mul, Int.mul_sub, Int.mul_assoc]
        omega
      rw [e]
      exact Int.dvd_sub h1 (Int.dvd_mul_of_dvd_right h2)
    · obtain rfl : n = 0 := by omega
      rw [eu_zero]
      exact h1
/-- What the inverse is. -/
theorem inv_tells (A M : Nat) (hM : 2 ≤ M) (h1 : Nat.gcd A M = 1) : let o := (eu M A 0 1).2 % (M : Int); 1 ≤ o ∧ o < M ∧ o * A % M = 1 := by
  intro o
  have hd := eu_inv (M : Int) (A : Int) A M 0 1 (by rw [Int.zero_mul, Int.zero_sub]; exact Int.dvd_neg.2 (Int.dvd_refl _)) (by rw [Int.one_mul, Int.sub_self]; exact Int.dvd_zero _)
  rw [eu_gcd, h1] at hd
  have he : o * (A : Int) % (M : Int) = 1 := by
    show ((eu M A 0 1).2 % (M : Int)) * (A : Int) % (M : Int) = 1
    rw [Int.mul_emod, Int.emod_emod_of_dvd _ (Int.dvd_refl _), ← Int.mul_emod]
    have h2 := (Int.emod_emod_of_dvd 1 (Int.dvd_refl (M : Int)))
    have h3 := Int.emod_eq_emod_iff_emod_sub_eq_zero.2 (Int.emod_eq_zero_of_dvd hd)
    rw [h3]
    exact Int.emod_eq_of_lt (by decide) (by omega)
  have h0 : 0 ≤ o := Int.emod_nonneg _ (by omega)
  have hlt : o < M := Int.emod_lt_of_pos _ (by omega)
  refine ⟨?_, hlt, he⟩
  rcases Int.lt_or_le 0 o with h | h
  · omega
  · have : o = 0 := by omega
    rw [this, Int.zero_mul, Int.zero_emod] at he
    omega

end Go.Proofs.Ytgaheamgkaipnaa

namespace Go.Proofs.Ytgaheamgkaipnaa
open Go.RowKit

/-- The power by squaring: what the kernel can count. -/
def pf : Nat → Nat → Nat → Nat → Nat → Nat
  | 0, _, _, _, out => out
  | k + 1, b, e, m, out => if e = 0 then out else pf k (b * b % m) (e / 2) m (if e % 2 = 1 then out * b % m else out)
theorem pf_is : ∀ (k b e m out : Nat), e < 2 ^ k → out < m → pf k b e m out = out * b ^ e % m := by
  intro k
  induction k with
  | zero =>
    intro b e m out h ho
    obtain rfl : e = 0 := by omega
    rw [pf, Nat.pow_zero, Nat.mul_one, Nat.mod_eq_of_lt ho]
  | succ k ih =>
    intro b e m out h ho
    rw [pf]
    by_cases h0 : e = 0
    · rw [if_pos h0, h0, Nat.pow_zero, Nat.mul_one, Nat.mod_eq_of_lt ho]
    · rw [if_neg h0]
      have h2 : e / 2 < 2 ^ k := by rw [Nat.pow_succ] at h; omega
      have hm : 0 < m := by omega
      have sq : ∀ j, (b * b % m) ^ j % m = b ^ (2 * j) % m := fun j => by rw [← Nat.pow_mod, Nat.pow_mul, Nat.pow_two]
      split
      · rename_i h1
        rw [ih _ _ _ _ h2 (Nat.mod_lt _ hm), Nat.mul_mod, Nat.mod_mod, sq, ← Nat.mul_mod, Nat.mul_assoc, ← Nat.pow_succ', show (2 * (e / 2)).succ = e by omega]
      · rename_i h1
        rw [ih _ _ _ _ h2 ho, Nat.mul_mod, sq, ← Nat.mul_mod, show 2 * (e / 2) = e by omega]

theorem g_pf : pf 30 4 500000003 1000000007 1 = 1 := by decide +kernel
theorem g_order_nat (q : Nat) (hq : q = 500000003) : 4 ^ q % 1000000007 = 1 := by
  have h := pf_is 30 4 q 1000000007 1 (by rw [hq]; decide) (by decide)
  rw [Nat.one_mul] at h
  rw [← h, hq]
  exact g_pf
theorem g_order' (q : Nat) (hq : q = 500000003) : (4 : Int) ^ q % 1000000007 = 1 := by
  have h := congrArg (fun n : Nat => (n : Int)) (g_order_nat q hq)
  simp only [Int.natCast_emod, Int.natCast_pow] at h
  exact h
theorem g_order : (4 : Int) ^ 500000003 % 1000000007 = 1 := g_order' _ rfl

/-- Q has no divisor from 2 up to its root. -/
def noDiv (n : Nat) : Nat → Bool
  | 0 => true
  | d + 1 => (n % (d + 2) != 0) && noDiv n d
theorem noDiv_is (n : Nat) : ∀ k, noDiv n k = true → ∀ d, 2 ≤ d → d ≤ k + 1 → n % d ≠ 0 := by
  intro k
  induction k with
  | zero => intro _ d h1 h2; omega
  | succ k ih =>
    intro h d h1 h2
    rw [noDiv, Bool.and_eq_true] at h
    by_cases hd : d = k + 2
    · subst hd; simpa using h.1
    · exact ih h.2 d h1 (by omega)
set_option maxRecDepth 100000 in
theorem q_noDiv : noDiv 500000003 22361 = true := by decide +kernel
theorem q_prime (g : Nat) (hd : g ∣ 500000003) (h1 : g < 500000003) : g = 1 := by
  obtain ⟨h, hh⟩ := hd
  have key := noDiv_is 500000003 22361 q_noDiv
  have hg0 : g ≠ 0 := by rintro rfl; simp at hh
  have hh0 : h ≠ 0 := by rintro rfl; simp at hh
  have hh1 : h ≠ 1 := by rintro rfl; omega
  rcases Nat.lt_or_ge g 2 with hl | hl
  · omega
  · exfalso
    rcases Nat.lt_or_ge g 22363 with h3 | h3
    · exact key g hl (by omega) (by rw [hh]; exact Nat.mul_mod_right g h)
    · rcases Nat.lt_or_ge h 22363 with h4 | h4
      · exact key h (by omega) (by omega) (by rw [hh]; exact Nat.mul_mod_left g h)
      · have := Nat.mul_le_mul h3 h4
        omega
theorem q_gcd (x : Nat) (h0 : 0 < x) (h1 : x < 500000003) : Nat.gcd x 500000003 = 1 := by
  refine q_prime _ (Nat.gcd_dvd_right _ _) ?_
  have := Nat.le_of_dvd h0 (Nat.gcd_dvd_left x 500000003)
  omega

/-- y to the Q is 1: its powers go by the exponent modulo Q. -/
theorem pow_one_mul {y : Int} (h : y ^ 500000003 % 1000000007 = 1) (t : Nat) : y ^ (500000003 * t) % 1000000007 = 1 := by
  rw [Int.pow_mul, ← pow_emod, h, Int.one_pow]
  rfl
theorem pow_per {y : Int} (h : y ^ 500000003 % 1000000007 = 1) (e t : Nat) : y ^ (e + 500000003 * t) % 1000000007 = y ^ e % 1000000007 := by
  rw [Int.pow_add, Int.mul_emod, pow_one_mul h, Int.mul_one, Int.emod_emod_of_dvd _ (Int.dvd_refl _)]
theorem pow_modQ {y : Int} (h : y ^ 500000003 % 1000000007 = 1) (e : Nat) : y ^ (e % 500000003) % 1000000007 = y ^ e % 1000000007 := by
  have := pow_per h (e % 500000003) (e / 500000003)
  rw [Nat.mod_add_div] at this
  exact this.symm
theorem g_ne_one (x : Nat) (h0 : 0 < x) (h1 : x < 500000003) : (4 : Int) ^ x % 1000000007 ≠ 1 := by
  intro h
  have ht := inv_tells x 500000003 (by decide) (q_gcd x h0 h1)
  dsimp only at ht
  obtain ⟨o, ho⟩ : ∃ o, o = (eu 500000003 x 0 1).2 % ((500000003 : Nat) : Int) := ⟨_, rfl⟩
  rw [← ho] at ht
  obtain ⟨t1, t2, t3⟩ := ht
  obtain ⟨O, rfl⟩ := Int.eq_ofNat_of_zero_le (show 0 ≤ o by omega)
  have t4 : x * O % 500000003 = 1 := by
    rw [Nat.mul_comm]
    have : (((O * x % 500000003 : Nat)) : Int) = 1 := by rw [Int.natCast_emod, Int.natCast_mul]; exact t3
    omega
  have a1 : (4 : Int) ^ (x * O) % 1000000007 = 1 := by rw [Int.pow_mul, ← pow_emod, h, Int.one_pow]; rfl
  have a2 := pow_modQ g_order (x * O)
  rw [t4, a1] at a2
  exact absurd a2 (by decide)

theorem keyP_of (x : Int) (h : secP x) : keyP (gp 4 x) := by
  obtain ⟨h1, h2⟩ := h
  obtain ⟨X, rfl⟩ := Int.eq_ofNat_of_zero_le (show 0 ≤ x by omega)
  have hb := gp_bd 4 (X : Int)
  have e : gp 4 (X : Int) = (4 : Int) ^ X % 1000000007 := by rw [gp, Int.toNat_natCast, pw]
  have ho : gp (gp 4 (X : Int)) 500000003 = 1 := by
    rw [e, gp, pw, pow_emod, ← Int.pow_mul, show (500000003 : Int).toNat = 500000003 from rfl, Nat.mul_comm]
    exact pow_one_mul g_order X
  refine ⟨⟨⟨?_, by omega⟩, ho⟩, ?_⟩
  · rcases Int.lt_or_le 0 (gp 4 (X : Int)) with h3 | h3
    · omega
    · have h4 : gp 4 (X : Int) = 0 := by omega
      rw [h4] at ho
      exact absurd ho (by rw [gp, pw, show (500000003 : Int).toNat = 500000002 + 1 from rfl, Int.pow_succ, Int.mul_zero]; decide)
  · rw [e]
    exact g_ne_one X (by omega) (by omega)

/-- What a signature moves back to: the nonce's power. -/
theorem moved_back (k e x : Int) (hk : 0 ≤ k) (he : expP e) (hx : secP x) : movN 1 (gp 4 x) ((k + e * x) % 500000003) e = gp 4 k := by
  obtain ⟨K, rfl⟩ := Int.eq_ofNat_of_zero_le hk
  obtain ⟨E, rfl⟩ := Int.eq_ofNat_of_zero_le he.1
  obtain ⟨X, rfl⟩ := Int.eq_ofNat_of_zero_le (show 0 ≤ x by have := hx.1; omega)
  have hE : E ≤ 500000002 := by have := he.2; omega
  have e1 : ((K : Int) + (E : Int) * (X : Int)) % 500000003 = (((K + E * X) % 500000003 : Nat) : Int) := by rw [Int.natCast_emod, Int.natCast_add, Int.natCast_mul]; rfl
  have e2 : (500000003 : Int) - (E : Int) = ((500000003 - E : Nat) : Int) := by omega
  rw [movN_one, e1, e2]
  simp only [gp, Int.toNat_natCast]
  unfold pw
  rw [pow_emod, ← Int.pow_mul, ← Int.mul_emod, Int.mul_emod, pow_modQ g_order, ← Int.mul_emod, ← Int.pow_add]
  have e3 : K + E * X + X * (500000003 - E) = K + 500000003 * X := by
    rw [Nat.mul_sub, Nat.mul_comm E X, Nat.mul_comm 500000003 X]
    have : X * E ≤ X * 500000003 := Nat.mul_le_mul_left _ (by omega)
    omega
  rw [e3]
  exact pow_per g_order K X

/-- One more in the exponent is once more by G. -/
theorem moved_next (y s e : Int) (hs : expP s) : movN 1 y ((s + 1) % 500000003) e = movN 1 y s e * 4 % 1000000007 := by
  obtain ⟨S, rfl⟩ := Int.eq_ofNat_of_zero_le hs.1
  have e1 : ((S : Int) + 1) % 500000003 = (((S + 1) % 500000003 : Nat) : Int) := by rw [Int.natCast_emod]; rfl
  rw [movN_one, movN_one, e1]
  have hg : gp 4 (((S + 1) % 500000003 : Nat) : Int) = gp 4 (S : Int) * 4 % 1000000007 := by
    simp only [gp, Int.toNat_natCast]
    unfold pw
    rw [pow_modQ g_order, Int.pow_succ, Int.mul_emod, ← Int.mul_emod, Int.mul_emod]
    rfl
  rw [hg]
  generalize gp 4 (S : Int) = p
  generalize gp y (500000003 - e) = q
  rw [Int.mul_emod, Int.emod_emod_of_dvd _ (Int.dvd_refl _), ← Int.mul_emod, Int.mul_emod (p * q % 1000000007), Int.emod_emod_of_dvd _ (Int.dvd_refl _), ← Int.mul_emod, Int.mul_right_comm]

end Go.Proofs.Ytgaheamgkaipnaa

namespace Go.Proofs.Ytgaheamgkaipnaa
open Go.RowKit

set_option maxHeartbeats 2000000 in
theorem specPubOf_any (sc x h n : Int) (w : World) (hx : U64 x) :
    Calls Try.prog 31 #[scv sc x h n] w fun e w' => e = .returned (.tuple #[pbv (pubR sc x h n).1, .bool (pubR sc x h n).2]) ∧ Below w.heap.size w w' := by
  obtain ⟨w1, hw1⟩ : ∃ w1, w1 = (w.alloc (.cells #[.int .i64 sc, .int .u64 x, .int .i64 h, .int .i64 n] 61)).alloc (.cells #[.int .i64 0, .int .u64 0, .int .i64 0] 65) := ⟨_, rfl⟩
  have hbb : Below w.heap.size w w1 := by rw [hw1]; exact two_below _ _ _
  have HPX : Hid (∀ w7, Below w1.heap.size w1 w7 → w7.heap[w.heap.size + 1]? = some (.cells #[.int .i64 0, .int .u64 0, .int .i64 0] 65)) := fun w7 h7 => (h7.block _ (by rw [hw1]; simp)).trans (by rw [hw1]; exact (two_blocks w _ _).2)
  have HSX : Hid (∀ w7, Below w1.heap.size w1 w7 → w7.heap[w.heap.size]? = some (.cells #[.int .i64 sc, .int .u64 x, .int .i64 h, .int .i64 n] 61)) := fun w7 h7 => (h7.block _ (by rw [hw1]; simp; omega)).trans (by rw [hw1]; exact (two_blocks w _ _).1)
  have HW : Hid (_ = _) := hw1
  clear hw1
  rw [scv]
  go_enter Try.func31, Try.ntmps31
  go_wp2_with fail
  rw [← HW.out]
  clear HW
  refine (l8SecretOk_any sc x h n _ hx).mono ?_
  rintro e w2 ⟨rfl, hb2⟩
  have hs := HSX.out _ hb2
  have s0 : w2.cell? ⟨w.heap.size, 0, none⟩ = some (.int .i64 sc) := (cell_of_row _ _ 0 _ 61 (0, 0) hs).trans rfl
  have s1 : w2.cell? ⟨w.heap.size, 1, none⟩ = some (.int .u64 x) := (cell_of_row _ _ 1 _ 61 (0, 0) hs).trans rfl
  have s2 : w2.cell? ⟨w.heap.size, 2, none⟩ = some (.int .i64 h) := (cell_of_row _ _ 2 _ 61 (0, 0) hs).trans rfl
  have s3 : w2.cell? ⟨w.heap.size, 3, none⟩ = some (.int .i64 n) := (cell_of_row _ _ 3 _ 61 (0, 0) hs).trans rfl
  have hbx := HPX.out _ hb2
  have c0 : w2.cell? ⟨w.heap.size + 1, 0, none⟩ = some (.int .i64 0) := (cell_of_row _ _ 0 _ 65 (0, 0) hbx).trans rfl
  have c1 : w2.cell? ⟨w.heap.size + 1, 1, none⟩ = some (.int .u64 0) := (cell_of_row _ _ 1 _ 65 (0, 0) hbx).trans rfl
  have c2 : w2.cell? ⟨w.heap.size + 1, 2, none⟩ = some (.int .i64 0) := (cell_of_row _ _ 2 _ 65 (0, 0) hbx).trans rfl
  have f0 : w2.frozen? ⟨w.heap.size + 1, 0, none⟩ = false := frozen_of_row w2 _ 0 _ 65 hbx
  have f1 : w2.frozen? ⟨w.heap.size + 1, 1, none⟩ = false := frozen_of_row w2 _ 1 _ 65 hbx
  have f2 : w2.frozen? ⟨w.heap.size + 1, 2, none⟩ = false := frozen_of_row w2 _ 2 _ 65 hbx
  have HBX : Hid (_ = _) := hbx
  have hB2 := keepT hbb hb2
  clear hs hbx
  by_cases hk : secOk sc x h n
  · rw [decide_eq_true hk]
    by_cases h1 : sc = 1
    · subst h1
      have hg : grpP x h n := hk.elim (fun a => a.2) (fun a => absurd a.1 (by decide))
      have HR : Hid (pubR 1 x h n = ((1, keyOf x, 0), true)) := by show _ = _; unfold pubR; rw [if_pos hk, if_pos rfl]
      have hx0 := hg.1.1
      have hx9 := hg.1.2
      have hsec : secP x := hg.1
      have hko : 0 ≤ keyOf x ∧ keyOf x ≤ 1000000006 := by have := gp_bd 4 x; unfold keyOf; rw [if_pos hsec]; omega
      obtain ⟨hko0, hko1⟩ := hko
      have u1 : wrap64 x = x := by unfold wrap64; omega
      have u2 : IntKind.i64.wrap x = x := by rw [IntKind.wrap_i64]; omega
      have u3 : IntKind.u64.wrap (keyOf x) = keyOf x := by rw [IntKind.wrap_u64]; omega
      go_upto_region 4 with fail
      go_region_with ((go_at_call 85; refine (specKeyOf_any x _).mono ?_; rintro e w3 ⟨rfl, rfl⟩))
      all_goals
        go_wp2_with fail
        try simp only [Exit.inBlock, Exit.then]
        refine bodyPost_ret (results_pb2 rfl _ (w.heap.size + 1) rfl _ rfl _ _ _ _ (heap_set3 (w := w2.drew) HBX.out _ _ _)) rfl ⟨?_, below_set3T hB2.drew _ (by omega) _ _ _⟩
        rw [HR.out]
        rfl
    · obtain ⟨rfl, hkk⟩ : sc = 2 ∧ kP h n := hk.elim (fun a => absurd a.1 h1) (fun a => a)
      have HR : Hid (pubR 2 x h n = ((2, rootN x h, h), true)) := by show _ = _; unfold pubR; rw [if_pos hk, if_neg (by decide)]
      obtain ⟨v, hv⟩ : ∃ v, v = rootN x h := ⟨_, rfl⟩
      have HRR : Hid (rootR x h n = (v, true)) := by show _ = _; unfold rootR; rw [if_pos hkk, hv]
      rw [← hv] at HR
      clear hv c0 c1 c2 f0 f1 f2
      go_wp2_with fail
      refine (l8Tree_any 2 x h n _).mono ?_
      rintro e w3 ⟨rfl, hb3⟩
      clear s0 s1 s2 s3
      go_wp2_with fail
      refine (specTreeRoot_any x h n _ hx).mono ?_
      rintro e w4 ⟨rfl, hb4⟩
      rw [HRR.out, pairU]
      have hb47 := keepT hb2 (keepT hb3 hb4)
      have hs := HSX.out _ hb47
      have s0 : w4.cell? ⟨w.heap.size, 0, none⟩ = some (.int .i64 2) := (cell_of_row _ _ 0 _ 61 (0, 0) hs).trans rfl
      have s2 : w4.cell? ⟨w.heap.size, 2, none⟩ = some (.int .i64 h) := (cell_of_row _ _ 2 _ 61 (0, 0) hs).trans rfl
      have hbx := HPX.out _ hb47
      have c0 : w4.cell? ⟨w.heap.size + 1, 0, none⟩ = some (.int .i64 0) := (cell_of_row _ _ 0 _ 65 (0, 0) hbx).trans rfl
      have c1 : w4.cell? ⟨w.heap.size + 1, 1, none⟩ = some (.int .u64 0) := (cell_of_row _ _ 1 _ 65 (0, 0) hbx).trans rfl
      have c2 : w4.cell? ⟨w.heap.size + 1, 2, none⟩ = some (.int .i64 0) := (cell_of_row _ _ 2 _ 65 (0, 0) hbx).trans rfl
      have f0 : w4.frozen? ⟨w.heap.size + 1, 0, none⟩ = false := frozen_of_row w4 _ 0 _ 65 hbx
      have f1 : w4.frozen? ⟨w.heap.size + 1, 1, none⟩ = false := frozen_of_row w4 _ 1 _ 65 hbx
      have f2 : w4.frozen? ⟨w.heap.size + 1, 2, none⟩ = false := frozen_of_row w4 _ 2 _ 65 hbx
      have HBX4 : Hid (_ = _) := hbx
      have hB4 := keepT hbb hb47
      clear hbx hs
      go_wp2
      try simp only [Exit.inBlock, Exit.then]
      refine bodyPost_ret (results_pb2 rfl _ (w.heap.size + 1) rfl _ rfl _ _ _ _ (heap_set3 HBX4.out _ _ _)) rfl ⟨?_, below_set3T hB4 _ (by omega) _ _ _⟩
      rw [HR.out]
      rfl
  · have HR : Hid (pubR sc x h n = ((0, 0, 0), false)) := by show _ = _; unfold pubR; rw [if_neg hk]
    rw [decide_eq_false hk]
    go_wp2
    try simp only [Exit.inBlock, Exit.then]
    refine bodyPost_ret (results_pb2 rfl _ (w.heap.size + 1) rfl _ rfl _ _ _ _ (heap_set3 HBX.out _ _ _)) rfl ⟨?_, below_set3T hB2 _ (by omega) _ _ _⟩
    rw [HR.out]
    rfl

end Go.Proofs.Ytgaheamgkaipnaa

