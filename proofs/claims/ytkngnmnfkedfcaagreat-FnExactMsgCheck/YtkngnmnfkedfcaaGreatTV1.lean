import Derived.Test.YtkngnmnfkedfcaaGreatTTA
import Derived.Test.YtkngnmnfkedfcaaGreatWI64
namespace Go.Proofs.YtkngnmnfkedfcaaGreat
open Go.RowKit

theorem wraps_u64' (n : Int) (h₀ : 0 ≤ n) (h₁ : n < 2 ^ 64) : IntKind.u64.wrap n = n := by rw [IntKind.wrap_u64]; omega
theorem and15 (x : Int) (hx : 0 ≤ x) (hx' : x ≤ 18446744073709551615) : bits .and .u64 x 15 = x % 16 := bits_mask .u64 64 (by decide) wraps_u64' 4 (by decide) x hx (by omega)
theorem and15i (x : Int) (hx : 0 ≤ x) (hx' : x ≤ 9223372036854775807) : bits .and .i64 x 15 = x % 16 := bits_mask .i64 63 (by decide) wraps_i64' 4 (by decide) x hx (by omega)

/-- A digit of a digest. -/
def digI (h : Int) (i : Nat) : Int := h / (16 : Int) ^ (15 - i) % 16
theorem digI_bd (h : Int) (i : Nat) : 0 ≤ digI h i ∧ digI h i ≤ 15 := by unfold digI; omega
def sumF (h : Int) : Nat → Int
  | 0 => 0
  | k + 1 => sumF h k + (15 - digI h (15 - k))
theorem sumF_bd (h : Int) (k : Nat) : 0 ≤ sumF h k ∧ sumF h k ≤ 15 * (k : Int) := by
  induction k with
  | zero => simp [sumF]
  | succ k ih => have := digI_bd h (15 - k); rw [sumF]; omega
def sumU (h : Int) : Nat → Int
  | 0 => 0
  | k + 1 => sumU h k + (15 - digI h k)
theorem sumU_bd (h : Int) (k : Nat) : 0 ≤ sumU h k ∧ sumU h k ≤ 15 * (k : Int) := by
  induction k with
  | zero => simp [sumU]
  | succ k ih => have := digI_bd h k; rw [sumU]; omega
theorem sum_same (h : Int) : sumU h 16 = sumF h 16 := by
  simp only [sumU, sumF, Nat.reduceSub]
  omega
def dgL (h : Int) (q : Nat) : List Int := (List.range 18).map fun i => if q ≤ i ∧ i < 16 then digI h i else 0
theorem dgL_len (h : Int) (q : Nat) : (dgL h q).length = 18 := by simp [dgL]
theorem dgL_set (h : Int) (q : Nat) (hq : q < 16) : (dgL h (q + 1)).set q (digI h q) = dgL h q := by
  apply List.ext_getElem?
  intro i
  rw [List.getElem?_set]
  simp only [dgL, List.length_map, List.length_range, List.getElem?_map]
  by_cases hi : i < 18
  · rw [List.getElem?_range hi]
    by_cases e : q = i
    · subst e
      simp [hq]; omega
    · simp only [e, if_false, Option.map_some]
      congr 1
      by_cases c : q ≤ i ∧ i < 16
      · rw [if_pos c, if_pos (by omega)]
      · rw [if_neg c, if_neg (by omega)]
  · rw [List.getElem?_eq_none (by simp; omega)]
    split
    · omega
    · rfl
def diL (h : Int) : List Int := (List.range 16).map (digI h) ++ [sumF h 16 / 16, sumF h 16 % 16]
theorem diL_len (h : Int) : (diL h).length = 18 := by simp [diL]
theorem diL_of (h : Int) : ((dgL h 0).set 16 (sumF h 16 / 16)).set 17 (sumF h 16 % 16) = diL h := rfl
theorem diL_bd (h : Int) : ∀ k, 0 ≤ (diL h).getD k 0 ∧ (diL h).getD k 0 ≤ 15 := by
  intro k
  have hs := sumF_bd h 16
  unfold diL
  rw [List.getD_eq_getElem?_getD, List.getElem?_append]
  split
  · rename_i hk
    simp only [List.length_map, List.length_range] at hk
    rw [List.getElem?_map, List.getElem?_range hk]
    exact digI_bd h k
  · simp only [List.length_map, List.length_range]
    rcases hk : k - 16 with _ | _ | m
    · simp; omega
    · simp; omega
    · simp
def vA (l : List Int) : Array Value := (l.map (Value.int .i64)).toArray
theorem vA_size (l : List Int) : (vA l).size = l.length := by simp [vA]
theorem vA_get (l : List Int) (k : Nat) : (vA l)[k]? = (l[k]?).map (Value.int .i64) := by simp [vA]
theorem vA_set (l : List Int) (k : Nat) (x : Int) : (vA l).setIfInBounds k (.int .i64 x) = vA (l.set k x) := by
  apply Array.ext'
  simp [vA, List.map_set]
theorem vA_one (l : List Int) : ((vA l).all fun x => x.oneCell') = true := by
  simp [vA]
  intro i hi
  rfl
theorem Tryz.info18 : (Tryz.prog.info? 155).map (·.size) = some 18 := by kernel_rfl

set_option maxRecDepth 10000 in
set_option maxHeartbeats 4000000 in
theorem signedDigits_any (a : Option Addr) (n c : Nat) (bs : List Int) (w : World) (hr : Row w a n bs) (hn : n ≤ 1000000000000) :
    Calls Tryz.prog 130 #[.slice a n c] w fun e w' => e = .returned (.agg (vA (diL (hashL bs)))) ∧ Below w.heap.size w w' := by
  have hU := hashL_bd bs
  obtain ⟨h, hh⟩ : ∃ h, h = hashL bs := ⟨_, rfl⟩
  have HH : Hid (hashL bs = h) := hh.symm
  rw [← hh] at hU ⊢
  clear hh
  obtain ⟨wb, hwb⟩ : ∃ wb, wb = (w.alloc (.cells (vA (dgL h 16)) 155)).alloc (.cells (vA (dgL h 16)) 155) := ⟨_, rfl⟩
  have hbb : Below w.heap.size w wb := by rw [hwb]; exact ((Below.refl _ _).alloc (Nat.le_refl _) _).alloc (by simp) _
  have hg1 : wb.heap[w.heap.size + 1]? = some (.cells (vA (dgL h 16)) 155) := by rw [hwb]; exact heap_alloc2_new w _ _
  have hg0 : wb.heap[w.heap.size]? = some (.cells (vA (dgL h 16)) 155) := by rw [hwb]; exact heap_alloc2_old w _ _
  have hz : vA (dgL h 16) = #[.int .i64 0, .int .i64 0, .int .i64 0, .int .i64 0, .int .i64 0, .int .i64 0, .int .i64 0, .int .i64 0, .int .i64 0, .int .i64 0, .int .i64 0, .int .i64 0, .int .i64 0, .int .i64 0, .int .i64 0, .int .i64 0, .int .i64 0, .int .i64 0] := rfl
  have HWB : Hid (_ = _) := hwb
  rw [hz] at HWB
  clear hwb hz
  go_enter Tryz.func130, Tryz.ntmps130
  go_upto_region 2 with fail
  rw [← HWB.out]
  clear HWB
  go_wp2_with fail
  refine (implHash_any a n c bs _ (hr.kept hbb) hn).mono ?_
  rintro e w1 ⟨rfl, hb1⟩
  rw [HH.out]
  have hl0 : w.heap.size < wb.heap.size := (Array.getElem?_eq_some_iff.1 hg0).1
  have hl1 : w.heap.size + 1 < wb.heap.size := (Array.getElem?_eq_some_iff.1 hg1).1
  have hg1' := (hb1.block _ hl1).trans hg1
  have hg0' := (hb1.block _ hl0).trans hg0
  have HB1 : Hid (Below w.heap.size w w1) := keepT hbb hb1
  have HG1 : Hid (_ = _) := hg1'
  have HG0 : Hid (_ = _) := hg0'
  clear hg1' hg0' hg1 hg0 hb1 hbb hr HH
  go_wp2
  go_loopw [4, 5, 6] (fun r s i wr => ∃ (q : Nat) (x y : Int), q ≤ 16 ∧ i = .int .i64 ((q : Int) - 1) ∧ r = .int .u64 x ∧ s = .int .i64 y ∧ Hid (x = h / (16 : Int) ^ (16 - q)) ∧ Hid (y = sumF h (16 - q)) ∧ Hid (wr.heap[w.heap.size + 1]? = some (.cells (vA (dgL h q)) 155)) ∧ Hid (wr.heap[w.heap.size]? = some (.cells (vA (dgL h 16)) 155)) ∧ Hid (Below w.heap.size w wr)) (fun _ _ i _ => ((intOf i) + 1).toNat)
  case atStart => exact ⟨16, h, 0, Nat.le_refl _, rfl, rfl, rfl, by show _ = _; simp, rfl, HG1, HG0, HB1⟩
  case round =>
    obtain ⟨q, x, y, hq, rfl, rfl, rfl, HX, HY, HA, HZ, HB⟩ := hrel
    clear HG1 HG0 HB1
    rcases q with _ | q
    · have hy := sumF_bd h 16
      rw [← show y = sumF h 16 from HY.out] at hy
      obtain ⟨hy0, hy1⟩ := hy
      have ha := and15i y hy0 (by omega)
      have k16 : wr.cell? ⟨w.heap.size + 1, 16, none⟩ = some (.int .i64 0) := (cell_of_row _ _ 16 _ 155 (0, 0) HA.out).trans rfl
      have f16 : wr.frozen? ⟨w.heap.size + 1, 16, none⟩ = false := frozen_of_row wr _ 16 _ 155 HA.out
      have k17 : wr.cell? ⟨w.heap.size + 1, 17, none⟩ = some (.int .i64 0) := (cell_of_row _ _ 17 _ 155 (0, 0) HA.out).trans rfl
      have f17 : wr.frozen? ⟨w.heap.size + 1, 17, none⟩ = false := frozen_of_row wr _ 17 _ 155 HA.out
      go_upto_region 11 with fail
      rename_i K0 hK0
      have HY2 : Hid (y = sumF h 16) := HY
      have h1 := heap_setCell_same (wr.setCell ⟨w.heap.size + 1, 16, none⟩ (.int .i64 (y / 16))) (w.heap.size + 1) 17 _ 155 (.int .i64 (y % 16)) (heap_setCell_same wr (w.heap.size + 1) 16 _ 155 (.int .i64 (y / 16)) HA.out)
      rw [vA_set, vA_set, HY2.out, diL_of, ← HY2.out] at h1
      have h0 : ((wr.setCell ⟨w.heap.size + 1, 16, none⟩ (.int .i64 (y / 16))).setCell ⟨w.heap.size + 1, 17, none⟩ (.int .i64 (y % 16))).heap[w.heap.size]? = some (.cells (vA (dgL h 16)) 155) := (Below.heap_setCell _ _ _ _ (by simp)).trans ((Below.heap_setCell _ _ _ _ (by simp)).trans HZ.out)
      have hB : Below w.heap.size w ((wr.setCell ⟨w.heap.size + 1, 16, none⟩ (.int .i64 (y / 16))).setCell ⟨w.heap.size + 1, 17, none⟩ (.int .i64 (y % 16))) := (HB.out.setCell (by simp) _).setCell (by simp) _
      obtain ⟨W, hW⟩ : ∃ W, W = ((wr.setCell ⟨w.heap.size + 1, 16, none⟩ (.int .i64 (y / 16))).setCell ⟨w.heap.size + 1, 17, none⟩ (.int .i64 (y % 16))) := ⟨_, rfl⟩
      rw [← hW] at h1 h0 hB ⊢
      clear hW HA HZ HB HY2 k16 f16 k17 f17
      apply wp_region_lit
      refine wpList_load_row rfl 155 _ rfl (w.heap.size + 1) rfl 155 (vA (diL h)) (0, 0) _ h1 Tryz.underlying155 rfl (by rw [vA_size, diL_len]; exact Tryz.info18) ?_
      refine wpList_store_row rfl 155 _ _ rfl w.heap.size (vA (diL h)) rfl rfl 155 (vA (dgL h 16)) h0 (by rw [vA_size, diL_len]; exact Tryz.info18) (by rw [vA_size, vA_size, diL_len, dgL_len]) (vA_one _) ?_
      apply wpList_nil
      refine hK0 _ _ ?_
      have hf := setRow_heap W w.heap.size _ (vA (diL h)) 155 _ h0
      go_wp2
      try simp only [Exit.inBlock, Exit.then]
      exact bodyPost_ret (results_cell_row rfl _ _ w.heap.size 155 (vA (diL h)) (0, 0) _ rfl hf Tryz.underlying155 rfl (by rw [vA_size, diL_len]; exact Tryz.info18)) rfl ⟨rfl, below_setRow hB (Nat.le_refl _) _⟩
    · have e1 : ((q + 1 : Nat) : Int) - 1 = (q : Int) := by omega
      rw [e1]
      clear e1
      have hq16 : q < 16 := by omega
      have hx0 : 0 ≤ x := by rw [HX.out]; exact Int.ediv_nonneg hU.1 (Int.le_of_lt (Int.pow_pos (by decide)))
      have hx1 : x ≤ 18446744073709551615 := by
        have : x ≤ h := by rw [HX.out]; exact Int.ediv_le_self _ hU.1
        have := hU.2
        omega
      have ha := and15 x hx0 hx1
      have HD : Hid (x % 16 = digI h q) := by show _ = _; rw [HX.out]; unfold digI; rw [show 16 - (q + 1) = 15 - q by omega]
      have hdb := digI_bd h q
      have kq : wr.cell? ⟨w.heap.size + 1, q, none⟩ = some (.int .i64 ((dgL h (q + 1)).getD q 0)) := by
        rw [cell_of_row _ _ q _ 155 (0, 0) HA.out, vA_get, List.getElem?_eq_getElem (by rw [dgL_len]; omega)]
        simp [dgL_len, show q < 18 by omega]
      have fq : wr.frozen? ⟨w.heap.size + 1, q, none⟩ = false := frozen_of_row wr _ q _ 155 HA.out
      go_wp2_with fail
      go_roundw
      case rel =>
        have hs := heap_setCell_same wr (w.heap.size + 1) q _ 155 (.int .i64 (x % 16)) HA.out
        rw [vA_set, HD.out, dgL_set h q hq16, ← HD.out] at hs
        have hyb := sumF_bd h (16 - (q + 1))
        have hw2 : wrap64 (y + (15 - x % 16)) = y + (15 - x % 16) := by rw [← show y = sumF h (16 - (q + 1)) from HY.out] at hyb; unfold wrap64; omega
        refine ⟨q, x / 16, wrap64 (y + (15 - x % 16)), by omega, rfl, rfl, rfl, ?_, ?_, hs, (Below.heap_setCell _ _ _ _ (by simp)).trans HZ.out, HB.out.setCell (by simp) _⟩
        · show _ = _
          rw [HX.out, Int.ediv_ediv_of_nonneg (Int.le_of_lt (Int.pow_pos (by decide))), show 16 - q = 16 - (q + 1) + 1 by omega, Int.pow_succ]
        · show _ = _
          rw [hw2, HY.out, HD.out, show 16 - q = 16 - (q + 1) + 1 by omega, sumF, show 15 - (16 - (q + 1)) = q by omega]
      case measure => simp [intOf]

end Go.Proofs.YtkngnmnfkedfcaaGreat
