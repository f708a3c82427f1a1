import Derived.Test.YtbfjkmlmnhphoaaDoorTA2
import Derived.Test.YtbfjkmlmnhphoaaDoorTA3
set_option linter.unusedVariables false
namespace Go.Proofs.YtbfjkmlmnhphoaaDoor
open Go.RowKit

set_option maxRecDepth 10000 in
set_option maxHeartbeats 4000000 in
theorem specStanding_any (a : Option Addr) (n c : Nat) (xs : List CP) (ai : Option Addr) (ni ci : Nat) (is : List PT) (ser now : Int) (w : World) (h : Cls w a n xs) (hz : ∀ k, k < n → ClOk (xs.getD k default)) (hi : Pts w ai ni is) (hzi : ∀ k, k < ni → (is.getD k default).val.size ≤ 1048576) :
    Calls Tryd.prog 20 #[.slice a n c, nmv ai ni ci, .int .i64 ser, .int .i64 now] w fun e w' => e = .returned (.agg #[.int .i64 (stdV xs is ser now).1, .int .i64 (stdV xs is ser now).2.1, .int .i64 (stdV xs is ser now).2.2]) ∧ Below w.heap.size w w' := by
  have HK : Hid (Cls w a n xs) := h
  have HL : Hid (xs.length = n) := h.len
  have HZ : Hid (∀ k, k < n → ClOk (xs.getD k default)) := hz
  have HI : Hid (Pts w ai ni is) := hi
  have HZI : Hid (∀ k, k < ni → (is.getD k default).val.size ≤ 1048576) := hzi
  have hmx := h.max
  clear h hz hi hzi
  unfold nmv
  obtain ⟨w0, hw0⟩ : ∃ w0, w0 = (w.alloc (.cells #[.slice ai ni ci] 33)).alloc (.cells #[.int .i64 0, .int .i64 0, .int .i64 0] 48) := ⟨_, rfl⟩
  have B0 : Hid (Below w.heap.size w w0) := by show Below w.heap.size w w0; rw [hw0]; exact two_below _ _ _
  have b0 := two_blocks w (.cells #[.slice ai ni ci] 33) (.cells #[.int .i64 0, .int .i64 0, .int .i64 0] 48)
  rw [← hw0] at b0
  have N0 : Hid (w0.heap[w.heap.size]? = some (.cells #[.slice ai ni ci] 33)) := b0.1
  have R0 : Hid (w0.heap[w.heap.size + 1]? = some (.cells #[.int .i64 0, .int .i64 0, .int .i64 0] 48)) := b0.2
  have l0 : w.heap.size + 1 < w0.heap.size := (Array.getElem?_eq_some_iff.1 b0.2).1
  have q0 : w0.cell? ⟨w.heap.size, 0, none⟩ = some (.slice ai ni ci) := (cell_of_row _ _ 0 _ 33 (0, 0) N0.out).trans rfl
  clear b0
  go_enter Tryd.func20, Tryd.ntmps20
  go_upto_region 1 with fail
  rw [← hw0]
  clear hw0
  go_wp2_with fail
  refine (l10Called_any ai ni ci is _ (HI.out.kept B0.out) HZI.out).mono ?_
  rintro e w1 ⟨v1, rfl, hv1, hb1⟩
  have B1 : Hid (Below w.heap.size w w1) := B0.out.trans (hb1.mono B0.out.size)
  have N1 : Hid (w1.heap[w.heap.size]? = some (.cells #[.slice ai ni ci] 33)) := (hb1.block _ (by omega)).trans N0.out
  have R1 : Hid (w1.heap[w.heap.size + 1]? = some (.cells #[.int .i64 0, .int .i64 0, .int .i64 0] 48)) := (hb1.block _ l0).trans R0.out
  have l1 : w.heap.size + 1 < w1.heap.size := (Array.getElem?_eq_some_iff.1 R1.out).1
  have HV1 : Hid _ := hv1
  clear q0 hb1 hv1 B0 N0 R0 l0
  by_cases hgood : calledP is ∧ xs.length ≤ 20
  case neg =>
    have HN : Hid (stdV xs is ser now = (2, 0, 0)) := stdV_no hgood
    have z0 : w1.cell? ⟨w.heap.size + 1, 0, none⟩ = some (.int .i64 0) := (cell_of_row _ _ 0 _ 48 (0, 0) R1.out).trans rfl
    have z1 : w1.cell? ⟨w.heap.size + 1, 1, none⟩ = some (.int .i64 0) := (cell_of_row _ _ 1 _ 48 (0, 0) R1.out).trans rfl
    have z2 : w1.cell? ⟨w.heap.size + 1, 2, none⟩ = some (.int .i64 0) := (cell_of_row _ _ 2 _ 48 (0, 0) R1.out).trans rfl
    have f0 : w1.frozen? ⟨w.heap.size + 1, 0, none⟩ = false := frozen_of_row w1 _ 0 _ _ R1.out
    have f1 : w1.frozen? ⟨w.heap.size + 1, 1, none⟩ = false := frozen_of_row w1 _ 1 _ _ R1.out
    have f2 : w1.frozen? ⟨w.heap.size + 1, 2, none⟩ = false := frozen_of_row w1 _ 2 _ _ R1.out
    have HX3 : Hid (_ = _) := put3_same w1 (w.heap.size + 1) 48 (.int .i64 2) (.int .i64 0) (.int .i64 0) _ _ _ R1.out
    have B3 : Hid (Below w.heap.size w (put3 w1 (w.heap.size + 1) (.int .i64 2) (.int .i64 0) (.int .i64 0))) := put3_below B1.out _ (by omega) _ _ _
    rcases v1 with _ | _
    · clear hgood
      go_wp2
      exact bodyPost_ret (results_cell_row rfl _ _ (w.heap.size + 1) 48 _ (0, 0) _ rfl HX3.out Tryd.underlying48 rfl (by kernel_rfl)) rfl ⟨by rw [HN.out], B3.out⟩
    · have hbig : (20 : Int) < (n : Int) := by
        have := HV1.out.1 rfl
        have h2 : ¬ xs.length ≤ 20 := fun q => hgood ⟨this, q⟩
        rw [HL.out] at h2
        omega
      clear hgood
      go_wp2
      exact bodyPost_ret (results_cell_row rfl _ _ (w.heap.size + 1) 48 _ (0, 0) _ rfl HX3.out Tryd.underlying48 rfl (by kernel_rfl)) rfl ⟨by rw [HN.out], B3.out⟩
  rcases v1 with _ | _
  · have := HV1.out.2 hgood.1
    cases this
  have HG : Hid (calledP is ∧ xs.length ≤ 20) := hgood
  have hn20 : ¬ ((20 : Int) < (n : Int)) := by have := HG.out.2; rw [HL.out] at this; omega
  clear hgood HV1
  go_upto_region 4 with fail
  go_wp2
  obtain ⟨w2, hw2⟩ : ∃ w2, w2 = w1.alloc (.cells #[.int .i64 2, .int .i64 0, .int .i64 0] 48) := ⟨_, rfl⟩
  rw [← hw2]
  have HB2 : Hid (Below w1.heap.size w1 w2) := by show Below _ _ _; rw [hw2]; exact (Below.refl _ _).alloc (Nat.le_refl _) _
  have HX2 : Hid (w2.heap[w1.heap.size]? = some (stC (bsV (best (toldL xs is ser now 0))))) := by show _ = _; rw [hw2]; exact heap_alloc_new w1 _
  clear hw2
  go_loopw [11, 9] (fun i s wr => ∃ k : Nat, k ≤ n ∧ i = .int .i64 k ∧ s = .int .i64 (scpL xs is now k) ∧ Hid (wr.heap[w1.heap.size]? = some (stC (bsV (best (toldL xs is ser now k))))) ∧ Below w1.heap.size w1 wr) (fun i _ _ => n - (intOf i).toNat)
  case atStart => exact ⟨0, Nat.zero_le _, rfl, rfl, HX2, HB2.out⟩
  case round =>
    obtain ⟨wo, hwo⟩ : ∃ wo, wo = wr := ⟨_, rfl⟩
    subst hwo
    obtain ⟨k, hk, rfl, rfl, HX, hbr⟩ := hrel
    by_cases hkn : k < n
    case neg =>
      have hkn' : k = n := by omega
      subst hkn'
      have hki : ¬ ((k : Int) < (k : Int)) := by omega
      have Br : Hid (Below w.heap.size w wo) := B1.out.trans (hbr.mono B1.out.size)
      have Rr : Hid (wo.heap[w.heap.size + 1]? = some (.cells #[.int .i64 0, .int .i64 0, .int .i64 0] 48)) := (hbr.block _ l1).trans R1.out
      have z0 : wo.cell? ⟨w.heap.size + 1, 0, none⟩ = some (.int .i64 0) := (cell_of_row _ _ 0 _ 48 (0, 0) Rr.out).trans rfl
      have z1 : wo.cell? ⟨w.heap.size + 1, 1, none⟩ = some (.int .i64 0) := (cell_of_row _ _ 1 _ 48 (0, 0) Rr.out).trans rfl
      have z2 : wo.cell? ⟨w.heap.size + 1, 2, none⟩ = some (.int .i64 0) := (cell_of_row _ _ 2 _ 48 (0, 0) Rr.out).trans rfl
      have y0 : wo.frozen? ⟨w.heap.size + 1, 0, none⟩ = false := frozen_of_row wo _ 0 _ _ Rr.out
      have y1 : wo.frozen? ⟨w.heap.size + 1, 1, none⟩ = false := frozen_of_row wo _ 1 _ _ Rr.out
      have y2 : wo.frozen? ⟨w.heap.size + 1, 2, none⟩ = false := frozen_of_row wo _ 2 _ _ Rr.out
      rcases hbst : best (toldL xs is ser now k) with _ | b
      · have hxv : wo.heap[w1.heap.size]? = some (.cells #[.int .i64 2, .int .i64 0, .int .i64 0] 48 (0, 0)) := by
          have := HX.out
          rw [hbst] at this
          exact this
        have k0 : wo.cell? ⟨w1.heap.size, 0, none⟩ = some (.int .i64 2) := (cell_of_row _ _ 0 _ 48 (0, 0) hxv).trans rfl
        have k1 : wo.cell? ⟨w1.heap.size, 1, none⟩ = some (.int .i64 0) := (cell_of_row _ _ 1 _ 48 (0, 0) hxv).trans rfl
        have k2 : wo.cell? ⟨w1.heap.size, 2, none⟩ = some (.int .i64 0) := (cell_of_row _ _ 2 _ 48 (0, 0) hxv).trans rfl
        by_cases hs : scpL xs is now k = 126
        · have hse : (scpL xs is now k == 126) = true := by simp [hs]
          have HV : Hid (stdV xs is ser now = (0, 0, 0)) := by show _ = _; rw [stdV_none HG.out (by rw [HL.out]; exact hbst), HL.out, if_pos hs]
          have m0 : wo.frozen? ⟨w1.heap.size, 0, none⟩ = false := frozen_of_row wo _ 0 _ _ hxv
          obtain ⟨wc, hwc⟩ : ∃ wc, wc = wo.setCell ⟨w1.heap.size, 0, none⟩ (.int .i64 0) := ⟨_, rfl⟩
          have hxc : wc.heap[w1.heap.size]? = some (.cells #[.int .i64 0, .int .i64 0, .int .i64 0] 48 (0, 0)) := by rw [hwc]; exact heap_setCell_same wo w1.heap.size 0 _ 48 _ hxv
          have Rc : Hid (wc.heap[w.heap.size + 1]? = some (.cells #[.int .i64 0, .int .i64 0, .int .i64 0] 48)) := by show _ = _; rw [hwc]; exact (Below.heap_setCell _ _ _ _ (by show w.heap.size + 1 ≠ w1.heap.size; omega)).trans Rr.out
          have Bc : Hid (Below w.heap.size w wc) := by show Below _ _ _; rw [hwc]; exact Br.out.setCell (by show w.heap.size ≤ w1.heap.size; omega) _
          clear hs hbst hxv
          go_upto_region 20 with fail
          rw [← hwc]
          clear hwc z0 z1 z2 y0 y1 y2 k0 k1 k2 m0
          have k0 : wc.cell? ⟨w1.heap.size, 0, none⟩ = some (.int .i64 0) := (cell_of_row _ _ 0 _ 48 (0, 0) hxc).trans rfl
          have k1 : wc.cell? ⟨w1.heap.size, 1, none⟩ = some (.int .i64 0) := (cell_of_row _ _ 1 _ 48 (0, 0) hxc).trans rfl
          have k2 : wc.cell? ⟨w1.heap.size, 2, none⟩ = some (.int .i64 0) := (cell_of_row _ _ 2 _ 48 (0, 0) hxc).trans rfl
          have z0 : wc.cell? ⟨w.heap.size + 1, 0, none⟩ = some (.int .i64 0) := (cell_of_row _ _ 0 _ 48 (0, 0) Rc.out).trans rfl
          have z1 : wc.cell? ⟨w.heap.size + 1, 1, none⟩ = some (.int .i64 0) := (cell_of_row _ _ 1 _ 48 (0, 0) Rc.out).trans rfl
          have z2 : wc.cell? ⟨w.heap.size + 1, 2, none⟩ = some (.int .i64 0) := (cell_of_row _ _ 2 _ 48 (0, 0) Rc.out).trans rfl
          have y0 : wc.frozen? ⟨w.heap.size + 1, 0, none⟩ = false := frozen_of_row wc _ 0 _ _ Rc.out
          have y1 : wc.frozen? ⟨w.heap.size + 1, 1, none⟩ = false := frozen_of_row wc _ 1 _ _ Rc.out
          have y2 : wc.frozen? ⟨w.heap.size + 1, 2, none⟩ = false := frozen_of_row wc _ 2 _ _ Rc.out
          have HX3 : Hid (_ = _) := put3_same wc (w.heap.size + 1) 48 (.int .i64 0) (.int .i64 0) (.int .i64 0) _ _ _ Rc.out
          have B3 : Hid (Below w.heap.size w (put3 wc (w.heap.size + 1) (.int .i64 0) (.int .i64 0) (.int .i64 0))) := put3_below Bc.out _ (by omega) _ _ _
          clear hxc
          go_wp2
          exact bodyPost_ret (results_cell_row rfl _ _ (w.heap.size + 1) 48 _ (0, 0) _ rfl HX3.out Tryd.underlying48 rfl (by kernel_rfl)) rfl ⟨by rw [HV.out], B3.out⟩
        · have hse : (scpL xs is now k == 126) = false := by simp [hs]
          have HV : Hid (stdV xs is ser now = (2, 0, 0)) := by show _ = _; rw [stdV_none HG.out (by rw [HL.out]; exact hbst), HL.out, if_neg hs]
          have HX3 : Hid (_ = _) := put3_same wo (w.heap.size + 1) 48 (.int .i64 2) (.int .i64 0) (.int .i64 0) _ _ _ Rr.out
          have B3 : Hid (Below w.heap.size w (put3 wo (w.heap.size + 1) (.int .i64 2) (.int .i64 0) (.int .i64 0))) := put3_below Br.out _ (by omega) _ _ _
          clear hs hbst hxv
          go_wp2
          exact bodyPost_ret (results_cell_row rfl _ _ (w.heap.size + 1) 48 _ (0, 0) _ rfl HX3.out Tryd.underlying48 rfl (by kernel_rfl)) rfl ⟨by rw [HV.out], B3.out⟩
      · have hxv : wo.heap[w1.heap.size]? = some (.cells #[.int .i64 1, .int .i64 b.1, .int .i64 b.2] 48 (0, 0)) := by
          have := HX.out
          rw [hbst] at this
          exact this
        have k0 : wo.cell? ⟨w1.heap.size, 0, none⟩ = some (.int .i64 1) := (cell_of_row _ _ 0 _ 48 (0, 0) hxv).trans rfl
        have k1 : wo.cell? ⟨w1.heap.size, 1, none⟩ = some (.int .i64 b.1) := (cell_of_row _ _ 1 _ 48 (0, 0) hxv).trans rfl
        have k2 : wo.cell? ⟨w1.heap.size, 2, none⟩ = some (.int .i64 b.2) := (cell_of_row _ _ 2 _ 48 (0, 0) hxv).trans rfl
        have HV : Hid (stdV xs is ser now = (1, b.1, b.2)) := stdV_some HG.out (by rw [HL.out]; exact hbst)
        have HX3 : Hid (_ = _) := put3_same wo (w.heap.size + 1) 48 (.int .i64 1) (.int .i64 b.1) (.int .i64 b.2) _ _ _ Rr.out
        have B3 : Hid (Below w.heap.size w (put3 wo (w.heap.size + 1) (.int .i64 1) (.int .i64 b.1) (.int .i64 b.2))) := put3_below Br.out _ (by omega) _ _ _
        clear hbst hxv
        go_wp2
        exact bodyPost_ret (results_cell_row rfl _ _ (w.heap.size + 1) 48 _ (0, 0) _ rfl HX3.out Tryd.underlying48 rfl (by kernel_rfl)) rfl ⟨by rw [HV.out], B3.out⟩
    have Br : Hid (Below w.heap.size w wo) := B1.out.trans (hbr.mono B1.out.size)
    obtain ⟨b, off, a1, n1, c1, a2, n2, c2, a3, n3, c3, rfl, hlb, hc, hp⟩ := HK.out.get k hkn
    have hcz := HZ.out k hkn
    obtain ⟨y, hy⟩ : ∃ y, y = xs.getD k default := ⟨_, rfl⟩
    rw [← hy] at hc hp hcz
    have HY : Hid (y = xs.getD k default) := hy
    have HCZ : Hid (CpOk n1 n2 n3 y) := hp.lens.1 hcz
    have HP : Hid (Crs w a1 n1 a2 n2 a3 n3 y) := hp
    have HEL : Hid (y.ents.length = n2) := hp.en.len
    have hm2 := hp.en.max
    have hCO : ∀ W, Below w.heap.size w W → Calls Tryd.prog 8 #[crv a1 n1 c1 a2 n2 c2 a3 n3 c3 y] W (Says (crlP y) W) := fun W hW => specCrlOk_any a1 n1 c1 a2 n2 c2 a3 n3 c3 y W (hp.kept hW) HCZ.out
    have HCO : Hid (∀ W, Below w.heap.size w W → Calls Tryd.prog 8 #[.agg #[.slice a1 n1 c1, .int .i64 y.num, .int .i64 y.base, .int .i64 y.tm, .int .i64 y.next, .int .i64 y.scope, .bool y.ind, .slice a2 n2 c2, .slice a3 n3 c3]] W (Says (crlP y) W)) := hCO
    obtain ⟨d0, d1, d2, d3, d4, d5, d6, d7, d8⟩ := hc.of (w' := wo) (fun i => Br.out.cell (p := ⟨b, i, none⟩) hlb)
    obtain ⟨W1, hW1⟩ : ∃ W1, W1 = wo.alloc (.cells #[.slice a1 n1 c1, .int .i64 y.num, .int .i64 y.base, .int .i64 y.tm, .int .i64 y.next, .int .i64 y.scope, .bool y.ind, .slice a2 n2 c2, .slice a3 n3 c3] 36) := ⟨_, rfl⟩
    have hb1 : Below wo.heap.size wo W1 := by rw [hW1]; exact (Below.refl _ _).alloc (Nat.le_refl _) _
    have Y1 : Hid (W1.heap[wo.heap.size]? = some (.cells #[.slice a1 n1 c1, .int .i64 y.num, .int .i64 y.base, .int .i64 y.tm, .int .i64 y.next, .int .i64 y.scope, .bool y.ind, .slice a2 n2 c2, .slice a3 n3 c3] 36)) := by show _ = _; rw [hW1]; exact heap_alloc_new wo _
    have X1 : Hid (W1.heap[w1.heap.size]? = some (stC (bsV (best (toldL xs is ser now k))))) := (hb1.block _ (Array.getElem?_eq_some_iff.1 HX.out).1).trans HX.out
    have BB1 : Hid (Below w1.heap.size w1 W1) := hbr.trans (hb1.mono hbr.size)
    have lX : w1.heap.size < wo.heap.size := (Array.getElem?_eq_some_iff.1 HX.out).1
    have lY : wo.heap.size < W1.heap.size := (Array.getElem?_eq_some_iff.1 Y1.out).1
    have hkni : (k : Int) < (n : Int) := by omega
    have HW1 : Hid (_ = _) := hW1
    clear hW1 hb1 hc hp hy hCO hcz
    go_upto_region 9 with fail
    rw [← HW1.out]
    clear HW1 d0 d1 d2 d3 d4 d5 d6 d7 d8
    have p0 : W1.cell? ⟨wo.heap.size, 0, none⟩ = some (.slice a1 n1 c1) := (cell_of_row _ _ 0 _ 36 (0, 0) Y1.out).trans rfl
    have p1 : W1.cell? ⟨wo.heap.size, 1, none⟩ = some (.int .i64 y.num) := (cell_of_row _ _ 1 _ 36 (0, 0) Y1.out).trans rfl
    have p2 : W1.cell? ⟨wo.heap.size, 2, none⟩ = some (.int .i64 y.base) := (cell_of_row _ _ 2 _ 36 (0, 0) Y1.out).trans rfl
    have p3 : W1.cell? ⟨wo.heap.size, 3, none⟩ = some (.int .i64 y.tm) := (cell_of_row _ _ 3 _ 36 (0, 0) Y1.out).trans rfl
    have p4 : W1.cell? ⟨wo.heap.size, 4, none⟩ = some (.int .i64 y.next) := (cell_of_row _ _ 4 _ 36 (0, 0) Y1.out).trans rfl
    have p5 : W1.cell? ⟨wo.heap.size, 5, none⟩ = some (.int .i64 y.scope) := (cell_of_row _ _ 5 _ 36 (0, 0) Y1.out).trans rfl
    have p6 : W1.cell? ⟨wo.heap.size, 6, none⟩ = some (.bool y.ind) := (cell_of_row _ _ 6 _ 36 (0, 0) Y1.out).trans rfl
    have p7 : W1.cell? ⟨wo.heap.size, 7, none⟩ = some (.slice a2 n2 c2) := (cell_of_row _ _ 7 _ 36 (0, 0) Y1.out).trans rfl
    have p8 : W1.cell? ⟨wo.heap.size, 8, none⟩ = some (.slice a3 n3 c3) := (cell_of_row _ _ 8 _ 36 (0, 0) Y1.out).trans rfl
    go_wp2_with fail
    refine (HCO.out _ (B1.out.trans (BB1.out.mono B1.out.size))).mono ?_
    rintro e w3 ⟨v3, rfl, hv3, hb3⟩
    have HV3 : Hid _ := hv3
    have YW : Hid (w3.heap[wo.heap.size]? = some (.cells #[.slice a1 n1 c1, .int .i64 y.num, .int .i64 y.base, .int .i64 y.tm, .int .i64 y.next, .int .i64 y.scope, .bool y.ind, .slice a2 n2 c2, .slice a3 n3 c3] 36)) := (hb3.block _ lY).trans Y1.out
    have HXW : Hid (w3.heap[w1.heap.size]? = some (stC (bsV (best (toldL xs is ser now k))))) := (hb3.block _ (by omega)).trans X1.out
    have BW : Hid (Below w1.heap.size w1 w3) := BB1.out.trans (hb3.mono BB1.out.size)
    clear p0 p1 p2 p3 p4 p5 p6 p7 p8 hv3 hb3 Y1 X1 BB1
    rcases v3 with _ | _
    · have HQ : Hid (¬ crlP y) := fun q => by have := HV3.out.2 q; cases this
      have HNS : Hid (¬ spkP (xs.getD k default) is now) := by rw [← HY.out]; exact fun q => HQ.out q.1
      have HSC : Hid (scpL xs is now k = scpL xs is now (k + 1)) := (scpL_skip HNS.out).symm
      have HXC : Hid (w3.heap[w1.heap.size]? = some (stC (bsV (best (toldL xs is ser now (k + 1)))))) := by
        show _ = _
        rw [toldL_skip HNS.out]; exact HXW.out
      go_wp2
      go_roundw
      case rel => exact ⟨k + 1, by omega, by go_num, by rw [HSC.out], HXC, BW.out⟩
      case measure => simp [intOf]; omega
    have HCR : Hid (crlP y) := HV3.out.1 rfl
    clear HV3
    have p2 : w3.cell? ⟨wo.heap.size, 2, none⟩ = some (.int .i64 y.base) := (cell_of_row _ _ 2 _ 36 (0, 0) YW.out).trans rfl
    have p3 : w3.cell? ⟨wo.heap.size, 3, none⟩ = some (.int .i64 y.tm) := (cell_of_row _ _ 3 _ 36 (0, 0) YW.out).trans rfl
    have p4 : w3.cell? ⟨wo.heap.size, 4, none⟩ = some (.int .i64 y.next) := (cell_of_row _ _ 4 _ 36 (0, 0) YW.out).trans rfl
    by_cases c2_ : 0 ≤ y.base
    case pos =>
      have HNS : Hid (¬ spkP (xs.getD k default) is now) := by rw [← HY.out]; exact fun q => (by have := q.2.1; omega)
      have HSC : Hid (scpL xs is now k = scpL xs is now (k + 1)) := (scpL_skip HNS.out).symm
      have HXC : Hid (w3.heap[w1.heap.size]? = some (stC (bsV (best (toldL xs is ser now (k + 1)))))) := by
        show _ = _
        rw [toldL_skip HNS.out]; exact HXW.out
      go_wp2
      go_roundw
      case rel => exact ⟨k + 1, by omega, by go_num, by rw [HSC.out], HXC, BW.out⟩
      case measure => simp [intOf]; omega
    by_cases c3_ : now < y.tm
    case pos =>
      have HNS : Hid (¬ spkP (xs.getD k default) is now) := by rw [← HY.out]; exact fun q => (by have := q.2.2.1; omega)
      have HSC : Hid (scpL xs is now k = scpL xs is now (k + 1)) := (scpL_skip HNS.out).symm
      have HXC : Hid (w3.heap[w1.heap.size]? = some (stC (bsV (best (toldL xs is ser now (k + 1)))))) := by
        show _ = _
        rw [toldL_skip HNS.out]; exact HXW.out
      go_wp2
      go_roundw
      case rel => exact ⟨k + 1, by omega, by go_num, by rw [HSC.out], HXC, BW.out⟩
      case measure => simp [intOf]; omega
    by_cases c4_ : y.next ≤ now
    case pos =>
      have HNS : Hid (¬ spkP (xs.getD k default) is now) := by rw [← HY.out]; exact fun q => (by have := q.2.2.2.1; omega)
      have HSC : Hid (scpL xs is now k = scpL xs is now (k + 1)) := (scpL_skip HNS.out).symm
      have HXC : Hid (w3.heap[w1.heap.size]? = some (stC (bsV (best (toldL xs is ser now (k + 1)))))) := by
        show _ = _
        rw [toldL_skip HNS.out]; exact HXW.out
      go_wp2
      go_roundw
      case rel => exact ⟨k + 1, by omega, by go_num, by rw [HSC.out], HXC, BW.out⟩
      case measure => simp [intOf]; omega
    rcases hind : y.ind with _ | _
    · have HIND : Hid (y.ind = false) := hind
      have p6 : w3.cell? ⟨wo.heap.size, 6, none⟩ = some (.bool false) := by rw [← hind]; exact (cell_of_row _ _ 6 _ 36 (0, 0) YW.out).trans rfl
      have p0 : w3.cell? ⟨wo.heap.size, 0, none⟩ = some (.slice a1 n1 c1) := (cell_of_row _ _ 0 _ 36 (0, 0) YW.out).trans rfl
      have q0 : w3.cell? ⟨w.heap.size, 0, none⟩ = some (.slice ai ni ci) := (cell_of_row _ _ 0 _ 33 (0, 0) ((BW.out.block _ (by omega)).trans N1.out)).trans rfl
      have BQ : Hid (Below w.heap.size w w3) := B1.out.trans (BW.out.mono B1.out.size)
      have HC34 : Hid (y.base < 0 ∧ y.tm ≤ now ∧ now < y.next) := ⟨by omega, by omega, by omega⟩
      clear hind
      go_wp2_with fail
      refine (specSameName_any a1 n1 c1 y.parts ai ni ci is _ (HP.out.nm.kept BQ.out) (HI.out.kept BQ.out) HCZ.out.2.1 HZI.out).mono ?_
      rintro e w4 ⟨v4, rfl, hv4, hb4⟩
      have HV4 : Hid _ := hv4
      have l4 : wo.heap.size < w3.heap.size := (Array.getElem?_eq_some_iff.1 YW.out).1
      replace YW : Hid (w4.heap[wo.heap.size]? = some (.cells #[.slice a1 n1 c1, .int .i64 y.num, .int .i64 y.base, .int .i64 y.tm, .int .i64 y.next, .int .i64 y.scope, .bool y.ind, .slice a2 n2 c2, .slice a3 n3 c3] 36)) := (hb4.block _ l4).trans YW.out
      replace HXW : Hid (w4.heap[w1.heap.size]? = some (stC (bsV (best (toldL xs is ser now k))))) := (hb4.block _ (by omega)).trans HXW.out
      replace BW : Hid (Below w1.heap.size w1 w4) := BW.out.trans (hb4.mono BW.out.size)
      clear p0 p2 p3 p4 p6 q0 BQ hv4 hb4 l4
      rcases v4 with _ | _
      · have HQ : Hid (¬ spkP y is now) := fun q => by
          have := HV4.out.2 (q.2.2.2.2.resolve_left (by rw [HIND.out]; decide))
          cases this
        have HNS : Hid (¬ spkP (xs.getD k default) is now) := by rw [← HY.out]; exact fun q => HQ.out q
        have HSC : Hid (scpL xs is now k = scpL xs is now (k + 1)) := (scpL_skip HNS.out).symm
        have HXC : Hid (w4.heap[w1.heap.size]? = some (stC (bsV (best (toldL xs is ser now (k + 1)))))) := by
          show _ = _
          rw [toldL_skip HNS.out]; exact HXW.out
        go_wp2
        go_roundw
        case rel => exact ⟨k + 1, by omega, by go_num, by rw [HSC.out], HXC, BW.out⟩
        case measure => simp [intOf]; omega
      have HSQ : Hid (spkP y is now) := ⟨HCR.out, HC34.out.1, HC34.out.2.1, HC34.out.2.2, .inr (HV4.out.1 rfl)⟩
      have HSP : Hid (spkP (xs.getD k default) is now) := by rw [← HY.out]; exact HSQ.out
      have q5 : w4.cell? ⟨wo.heap.size, 5, none⟩ = some (.int .i64 y.scope) := (cell_of_row _ _ 5 _ 36 (0, 0) YW.out).trans rfl
      have q7 : w4.cell? ⟨wo.heap.size, 7, none⟩ = some (.slice a2 n2 c2) := (cell_of_row _ _ 7 _ 36 (0, 0) YW.out).trans rfl
      go_wp2
      clear q5 q7
      go_loopw [13] (fun i wr => ∃ j : Nat, j ≤ n2 ∧ i = .int .i64 j ∧ Hid (wr.heap[wo.heap.size]? = some (.cells #[.slice a1 n1 c1, .int .i64 y.num, .int .i64 y.base, .int .i64 y.tm, .int .i64 y.next, .int .i64 y.scope, .bool y.ind, .slice a2 n2 c2, .slice a3 n3 c3] 36)) ∧ Hid (wr.heap[w1.heap.size]? = some (stC (bsV (best (toldL xs is ser now k ++ toldE y is ser j))))) ∧ Below w1.heap.size w1 wr) (fun i _ => n2 - (intOf i).toNat)
      case atStart => exact ⟨0, Nat.zero_le _, rfl, YW, (by show _ = _; rw [show toldE y is ser 0 = [] from rfl, List.append_nil]; exact HXW.out), BW.out⟩
      case round =>
        obtain ⟨j, hj, rfl, YJ, XJ, hbj⟩ := hrel
        have l2 : w1.heap.size ≤ wo.heap.size := hbr.size
        have l3 : wo.heap.size < wr.heap.size := (Array.getElem?_eq_some_iff.1 YJ.out).1
        have Bj : Hid (Below w.heap.size w wr) := B1.out.trans (hbj.mono B1.out.size)
        by_cases hjn : j < n2
        case neg =>
          have hjn' : j = n2 := by omega
          subst hjn'
          have hji : ¬ ((j : Int) < (j : Int)) := by omega
          have q7 : wr.cell? ⟨wo.heap.size, 7, none⟩ = some (.slice a2 j c2) := (cell_of_row _ _ 7 _ 36 (0, 0) YJ.out).trans rfl
          have HSC : Hid (bits BinOp.or IntKind.i64 (scpL xs is now k) y.scope = scpL xs is now (k + 1)) := by
            show _ = _
            rw [scpL_take HSP.out, ← HY.out]
          have HXC : Hid (wr.heap[w1.heap.size]? = some (stC (bsV (best (toldL xs is ser now (k + 1)))))) := by
            show _ = _
            rw [toldL_take HSP.out, ← HY.out, HEL.out]; exact XJ.out
          go_wp2
          go_roundw
          case rel => exact ⟨k + 1, by omega, by go_num, by rw [HSC.out], HXC, hbj⟩
          case measure => simp [intOf]; omega
        obtain ⟨b1, off1, an, nn, cn, rfl, hlb1, hc1, hp1⟩ := HP.out.en.get j hjn
        have HGZ : Hid (GpOk (y.ents.getD j default)) := HCZ.out.2.2.2.1 j hjn
        obtain ⟨z, hzz⟩ : ∃ z, z = y.ents.getD j default := ⟨_, rfl⟩
        rw [← hzz] at hc1 hp1 HGZ
        have HZZ : Hid (z = y.ents.getD j default) := hzz
        have HNN : Hid (z.parts.length = nn) := hp1.len
        have HPZ : Hid (∀ W, Below w.heap.size w W → Pts W an nn z.parts) := fun W hW => hp1.kept hW
        have HGN : Hid (∀ i, i < nn → (z.parts.getD i default).val.size ≤ 1048576) := fun i hi => HGZ.out.2 i (by rw [HNN.out]; exact hi)
        obtain ⟨d0, d1, d2, d3⟩ := hc1.of (w' := wr) (fun i => Bj.out.cell (p := ⟨b1, i, none⟩) hlb1)
        have q7 : wr.cell? ⟨wo.heap.size, 7, none⟩ = some (.slice (some ⟨b1, off1, none⟩) n2 c2) := (cell_of_row _ _ 7 _ 36 (0, 0) YJ.out).trans rfl
        obtain ⟨W2, hW2⟩ : ∃ W2, W2 = wr.alloc (.cells #[.slice an nn cn, .int .i64 z.ser, .int .i64 z.tm, .int .i64 z.rs] 63) := ⟨_, rfl⟩
        have hb2 : Below wr.heap.size wr W2 := by rw [hW2]; exact (Below.refl _ _).alloc (Nat.le_refl _) _
        have E2 : Hid (W2.heap[wr.heap.size]? = some (.cells #[.slice an nn cn, .int .i64 z.ser, .int .i64 z.tm, .int .i64 z.rs] 63)) := by show _ = _; rw [hW2]; exact heap_alloc_new wr _
        have Y2 : Hid (W2.heap[wo.heap.size]? = some (.cells #[.slice a1 n1 c1, .int .i64 y.num, .int .i64 y.base, .int .i64 y.tm, .int .i64 y.next, .int .i64 y.scope, .bool y.ind, .slice (some ⟨b1, off1, none⟩) n2 c2, .slice a3 n3 c3] 36)) := (hb2.block _ l3).trans YJ.out
        have X2 : Hid (W2.heap[w1.heap.size]? = some (stC (bsV (best (toldL xs is ser now k ++ toldE y is ser j))))) := (hb2.block _ (by omega)).trans XJ.out
        have B2 : Hid (Below w1.heap.size w1 W2) := hbj.trans (hb2.mono hbj.size)
        have hjni : (j : Int) < (n2 : Int) := by omega
        have HW2 : Hid (_ = _) := hW2
        clear hW2 hb2 hc1 hp1 hzz HGZ
        go_upto_region 15 with fail
        rw [← HW2.out]
        clear HW2 d0 d1 d2 d3 q7
        have f1 : W2.cell? ⟨wr.heap.size, 1, none⟩ = some (.int .i64 z.ser) := (cell_of_row _ _ 1 _ 63 (0, 0) E2.out).trans rfl
        by_cases hs : z.ser = ser
        case neg =>
          have hne : (z.ser != ser) = true := by simp [hs]
          have YV : Hid _ := Y2
          have XV : Hid (W2.heap[w1.heap.size]? = some (stC (bsV (best (toldL xs is ser now k ++ toldE y is ser j))))) := X2
          have BV : Hid (Below w1.heap.size w1 W2) := B2
          have HQ : Hid (z.ser ≠ ser) := hs
          clear hs
          have HNM : Hid (¬ mnsP y (y.ents.getD j default) is ser) := by rw [← HZZ.out]; exact fun q => HQ.out q.1
          have HXC : Hid (W2.heap[w1.heap.size]? = some (stC (bsV (best (toldL xs is ser now k ++ toldE y is ser (j + 1)))))) := by
            show _ = _
            rw [toldE_skip HNM.out]; exact XV.out
          go_wp2
          go_roundw
          case rel => exact ⟨j + 1, by omega, by go_num, YV, HXC, BV.out⟩
          case measure => simp [intOf]; omega
        have hne : (z.ser != ser) = false := by simp [hs]
        have HS : Hid (z.ser = ser) := hs
        clear hs
        have q6 : W2.cell? ⟨wo.heap.size, 6, none⟩ = some (.bool false) := by rw [← HIND.out]; exact (cell_of_row _ _ 6 _ 36 (0, 0) Y2.out).trans rfl
        have HME : Hid (mnsP y z is ser) := ⟨HS.out, .inl HIND.out⟩
        have YV : Hid (_ = _) := Y2.out
        have XV : Hid (W2.heap[w1.heap.size]? = some (stC (bsV (best (toldL xs is ser now k ++ toldE y is ser j))))) := X2
        have BV : Hid (Below w1.heap.size w1 W2) := B2
        have EV : Hid (_ = _) := E2.out
        clear Y2 X2 B2 E2
        have HTE : Hid (toldE y is ser (j + 1) = toldE y is ser j ++ [(z.rs, z.tm)]) := by
          show _ = _
          rw [toldE_take (by rw [← HZZ.out]; exact HME.out), ← HZZ.out]
        have f2 : W2.cell? ⟨wr.heap.size, 2, none⟩ = some (.int .i64 z.tm) := (cell_of_row _ _ 2 _ 63 (0, 0) EV.out).trans rfl
        have f3 : W2.cell? ⟨wr.heap.size, 3, none⟩ = some (.int .i64 z.rs) := (cell_of_row _ _ 3 _ 63 (0, 0) EV.out).trans rfl
        rcases hbst : best (toldL xs is ser now k ++ toldE y is ser j) with _ | b
        · have hxv : W2.heap[w1.heap.size]? = some (.cells #[.int .i64 2, .int .i64 0, .int .i64 0] 48 (0, 0)) := by
            have := XV.out
            rw [hbst] at this
            exact this
          have HXV : Hid (_ = _) := hxv
          have HBT : Hid (best (toldL xs is ser now k ++ toldE y is ser (j + 1)) = some (z.rs, z.tm)) := by
            show _ = _
            rw [HTE.out, ← List.append_assoc, best_snoc, hbst]; rfl
          have k0 : W2.cell? ⟨w1.heap.size, 0, none⟩ = some (.int .i64 2) := (cell_of_row _ _ 0 _ 48 (0, 0) hxv).trans rfl
          have k1 : W2.cell? ⟨w1.heap.size, 1, none⟩ = some (.int .i64 0) := (cell_of_row _ _ 1 _ 48 (0, 0) hxv).trans rfl
          have k2 : W2.cell? ⟨w1.heap.size, 2, none⟩ = some (.int .i64 0) := (cell_of_row _ _ 2 _ 48 (0, 0) hxv).trans rfl
          have m0 : W2.frozen? ⟨w1.heap.size, 0, none⟩ = false := frozen_of_row W2 _ 0 _ _ hxv
          have m1 : W2.frozen? ⟨w1.heap.size, 1, none⟩ = false := frozen_of_row W2 _ 1 _ _ hxv
          have m2 : W2.frozen? ⟨w1.heap.size, 2, none⟩ = false := frozen_of_row W2 _ 2 _ _ hxv
          clear hxv hbst XV
          have HX3 : Hid ((put3 W2 w1.heap.size (.int .i64 1) (.int .i64 z.rs) (.int .i64 z.tm)).heap[w1.heap.size]? = some (stC (bsV (best (toldL xs is ser now k ++ toldE y is ser (j + 1)))))) := by
            show _ = _
            rw [HBT.out]
            exact put3_same W2 w1.heap.size 48 (.int .i64 1) (.int .i64 z.rs) (.int .i64 z.tm) _ _ _ HXV.out
          have Y3 : Hid ((put3 W2 w1.heap.size (.int .i64 1) (.int .i64 z.rs) (.int .i64 z.tm)).heap[wo.heap.size]? = some (.cells #[.slice a1 n1 c1, .int .i64 y.num, .int .i64 y.base, .int .i64 y.tm, .int .i64 y.next, .int .i64 y.scope, .bool y.ind, .slice (some ⟨b1, off1, none⟩) n2 c2, .slice a3 n3 c3] 36)) := (put3_other W2 w1.heap.size wo.heap.size _ _ _ (by have := l2; omega)).trans YV.out
          have B3 : Hid (Below w1.heap.size w1 (put3 W2 w1.heap.size (.int .i64 1) (.int .i64 z.rs) (.int .i64 z.tm))) := put3_below BV.out _ (Nat.le_refl _) _ _ _
          go_wp2
          go_roundw
          case rel => exact ⟨j + 1, by omega, by go_num, Y3, HX3, B3.out⟩
          case measure => simp [intOf]; omega
        · have hxv : W2.heap[w1.heap.size]? = some (.cells #[.int .i64 1, .int .i64 b.1, .int .i64 b.2] 48 (0, 0)) := by
            have := XV.out
            rw [hbst] at this
            exact this
          have HXV : Hid (_ = _) := hxv
          have HBP : Hid (best (toldL xs is ser now k ++ toldE y is ser (j + 1)) = pick (some b) (z.rs, z.tm)) := by
            show _ = _
            rw [HTE.out, ← List.append_assoc, best_snoc, hbst]
          have k0 : W2.cell? ⟨w1.heap.size, 0, none⟩ = some (.int .i64 1) := (cell_of_row _ _ 0 _ 48 (0, 0) hxv).trans rfl
          have k1 : W2.cell? ⟨w1.heap.size, 1, none⟩ = some (.int .i64 b.1) := (cell_of_row _ _ 1 _ 48 (0, 0) hxv).trans rfl
          have k2 : W2.cell? ⟨w1.heap.size, 2, none⟩ = some (.int .i64 b.2) := (cell_of_row _ _ 2 _ 48 (0, 0) hxv).trans rfl
          have m0 : W2.frozen? ⟨w1.heap.size, 0, none⟩ = false := frozen_of_row W2 _ 0 _ _ hxv
          have m1 : W2.frozen? ⟨w1.heap.size, 1, none⟩ = false := frozen_of_row W2 _ 1 _ _ hxv
          have m2 : W2.frozen? ⟨w1.heap.size, 2, none⟩ = false := frozen_of_row W2 _ 2 _ _ hxv
          clear hxv hbst
          by_cases t1 : z.tm < b.2
          · have HBT : Hid (best (toldL xs is ser now k ++ toldE y is ser (j + 1)) = some (z.rs, z.tm)) := HBP.out.trans (by simp only [pick]; rw [if_pos (show aheadP (z.rs, z.tm) b from .inl t1)])
            clear XV
            have HX3 : Hid ((put3 W2 w1.heap.size (.int .i64 1) (.int .i64 z.rs) (.int .i64 z.tm)).heap[w1.heap.size]? = some (stC (bsV (best (toldL xs is ser now k ++ toldE y is ser (j + 1)))))) := by
              show _ = _
              rw [HBT.out]
              exact put3_same W2 w1.heap.size 48 (.int .i64 1) (.int .i64 z.rs) (.int .i64 z.tm) _ _ _ HXV.out
            have Y3 : Hid ((put3 W2 w1.heap.size (.int .i64 1) (.int .i64 z.rs) (.int .i64 z.tm)).heap[wo.heap.size]? = some (.cells #[.slice a1 n1 c1, .int .i64 y.num, .int .i64 y.base, .int .i64 y.tm, .int .i64 y.next, .int .i64 y.scope, .bool y.ind, .slice (some ⟨b1, off1, none⟩) n2 c2, .slice a3 n3 c3] 36)) := (put3_other W2 w1.heap.size wo.heap.size _ _ _ (by have := l2; omega)).trans YV.out
            have B3 : Hid (Below w1.heap.size w1 (put3 W2 w1.heap.size (.int .i64 1) (.int .i64 z.rs) (.int .i64 z.tm))) := put3_below BV.out _ (Nat.le_refl _) _ _ _
            go_wp2
            go_roundw
            case rel => exact ⟨j + 1, by omega, by go_num, Y3, HX3, B3.out⟩
            case measure => simp [intOf]; omega
          · by_cases t2 : z.tm = b.2
            · have e2 : (z.tm == b.2) = true := by simp [t2]
              by_cases t3 : z.rs < b.1
              · have HBT : Hid (best (toldL xs is ser now k ++ toldE y is ser (j + 1)) = some (z.rs, z.tm)) := HBP.out.trans (by simp only [pick]; rw [if_pos (show aheadP (z.rs, z.tm) b from .inr ⟨t2, t3⟩)])
                clear XV t2
                have HX3 : Hid ((put3 W2 w1.heap.size (.int .i64 1) (.int .i64 z.rs) (.int .i64 z.tm)).heap[w1.heap.size]? = some (stC (bsV (best (toldL xs is ser now k ++ toldE y is ser (j + 1)))))) := by
                  show _ = _
                  rw [HBT.out]
                  exact put3_same W2 w1.heap.size 48 (.int .i64 1) (.int .i64 z.rs) (.int .i64 z.tm) _ _ _ HXV.out
                have Y3 : Hid ((put3 W2 w1.heap.size (.int .i64 1) (.int .i64 z.rs) (.int .i64 z.tm)).heap[wo.heap.size]? = some (.cells #[.slice a1 n1 c1, .int .i64 y.num, .int .i64 y.base, .int .i64 y.tm, .int .i64 y.next, .int .i64 y.scope, .bool y.ind, .slice (some ⟨b1, off1, none⟩) n2 c2, .slice a3 n3 c3] 36)) := (put3_other W2 w1.heap.size wo.heap.size _ _ _ (by have := l2; omega)).trans YV.out
                have B3 : Hid (Below w1.heap.size w1 (put3 W2 w1.heap.size (.int .i64 1) (.int .i64 z.rs) (.int .i64 z.tm))) := put3_below BV.out _ (Nat.le_refl _) _ _ _
                go_wp2
                go_roundw
                case rel => exact ⟨j + 1, by omega, by go_num, Y3, HX3, B3.out⟩
                case measure => simp [intOf]; omega
              · have HXC : Hid (W2.heap[w1.heap.size]? = some (stC (bsV (best (toldL xs is ser now k ++ toldE y is ser (j + 1)))))) := by
                  show _ = _
                  have hna : ¬ aheadP (z.rs, z.tm) b := fun q => by rcases q with q | q; exact t1 q; exact t3 q.2
                  rw [HBP.out]; simp only [pick]; rw [if_neg hna]
                  exact HXV.out
                clear XV t2
                go_wp2
                go_roundw
                case rel => exact ⟨j + 1, by omega, by go_num, YV, HXC, BV.out⟩
                case measure => simp [intOf]; omega
            · have e2 : (z.tm == b.2) = false := by simp [t2]
              have HXC : Hid (W2.heap[w1.heap.size]? = some (stC (bsV (best (toldL xs is ser now k ++ toldE y is ser (j + 1)))))) := by
                show _ = _
                have hna : ¬ aheadP (z.rs, z.tm) b := fun q => by rcases q with q | q; exact t1 q; exact t2 q.1
                rw [HBP.out]; simp only [pick]; rw [if_neg hna]
                exact HXV.out
              clear XV t2
              go_wp2
              go_roundw
              case rel => exact ⟨j + 1, by omega, by go_num, YV, HXC, BV.out⟩
              case measure => simp [intOf]; omega
    · have HIND : Hid (y.ind = true) := hind
      have p6 : w3.cell? ⟨wo.heap.size, 6, none⟩ = some (.bool true) := by rw [← hind]; exact (cell_of_row _ _ 6 _ 36 (0, 0) YW.out).trans rfl
      have HSQ : Hid (spkP y is now) := ⟨HCR.out, by omega, by omega, by omega, .inl hind⟩
      clear hind
      have HSP : Hid (spkP (xs.getD k default) is now) := by rw [← HY.out]; exact HSQ.out
      have q5 : w3.cell? ⟨wo.heap.size, 5, none⟩ = some (.int .i64 y.scope) := (cell_of_row _ _ 5 _ 36 (0, 0) YW.out).trans rfl
      have q7 : w3.cell? ⟨wo.heap.size, 7, none⟩ = some (.slice a2 n2 c2) := (cell_of_row _ _ 7 _ 36 (0, 0) YW.out).trans rfl
      go_wp2
      clear q5 q7
      go_loopw [13] (fun i wr => ∃ j : Nat, j ≤ n2 ∧ i = .int .i64 j ∧ Hid (wr.heap[wo.heap.size]? = some (.cells #[.slice a1 n1 c1, .int .i64 y.num, .int .i64 y.base, .int .i64 y.tm, .int .i64 y.next, .int .i64 y.scope, .bool y.ind, .slice a2 n2 c2, .slice a3 n3 c3] 36)) ∧ Hid (wr.heap[w1.heap.size]? = some (stC (bsV (best (toldL xs is ser now k ++ toldE y is ser j))))) ∧ Below w1.heap.size w1 wr) (fun i _ => n2 - (intOf i).toNat)
      case atStart => exact ⟨0, Nat.zero_le _, rfl, YW, (by show _ = _; rw [show toldE y is ser 0 = [] from rfl, List.append_nil]; exact HXW.out), BW.out⟩
      case round =>
        obtain ⟨j, hj, rfl, YJ, XJ, hbj⟩ := hrel
        have l2 : w1.heap.size ≤ wo.heap.size := hbr.size
        have l3 : wo.heap.size < wr.heap.size := (Array.getElem?_eq_some_iff.1 YJ.out).1
        have Bj : Hid (Below w.heap.size w wr) := B1.out.trans (hbj.mono B1.out.size)
        by_cases hjn : j < n2
        case neg =>
          have hjn' : j = n2 := by omega
          subst hjn'
          have hji : ¬ ((j : Int) < (j : Int)) := by omega
          have q7 : wr.cell? ⟨wo.heap.size, 7, none⟩ = some (.slice a2 j c2) := (cell_of_row _ _ 7 _ 36 (0, 0) YJ.out).trans rfl
          have HSC : Hid (bits BinOp.or IntKind.i64 (scpL xs is now k) y.scope = scpL xs is now (k + 1)) := by
            show _ = _
            rw [scpL_take HSP.out, ← HY.out]
          have HXC : Hid (wr.heap[w1.heap.size]? = some (stC (bsV (best (toldL xs is ser now (k + 1)))))) := by
            show _ = _
            rw [toldL_take HSP.out, ← HY.out, HEL.out]; exact XJ.out
          go_wp2
          go_roundw
          case rel => exact ⟨k + 1, by omega, by go_num, by rw [HSC.out], HXC, hbj⟩
          case measure => simp [intOf]; omega
        obtain ⟨b1, off1, an, nn, cn, rfl, hlb1, hc1, hp1⟩ := HP.out.en.get j hjn
        have HGZ : Hid (GpOk (y.ents.getD j default)) := HCZ.out.2.2.2.1 j hjn
        obtain ⟨z, hzz⟩ : ∃ z, z = y.ents.getD j default := ⟨_, rfl⟩
        rw [← hzz] at hc1 hp1 HGZ
        have HZZ : Hid (z = y.ents.getD j default) := hzz
        have HNN : Hid (z.parts.length = nn) := hp1.len
        have HPZ : Hid (∀ W, Below w.heap.size w W → Pts W an nn z.parts) := fun W hW => hp1.kept hW
        have HGN : Hid (∀ i, i < nn → (z.parts.getD i default).val.size ≤ 1048576) := fun i hi => HGZ.out.2 i (by rw [HNN.out]; exact hi)
        obtain ⟨d0, d1, d2, d3⟩ := hc1.of (w' := wr) (fun i => Bj.out.cell (p := ⟨b1, i, none⟩) hlb1)
        have q7 : wr.cell? ⟨wo.heap.size, 7, none⟩ = some (.slice (some ⟨b1, off1, none⟩) n2 c2) := (cell_of_row _ _ 7 _ 36 (0, 0) YJ.out).trans rfl
        obtain ⟨W2, hW2⟩ : ∃ W2, W2 = wr.alloc (.cells #[.slice an nn cn, .int .i64 z.ser, .int .i64 z.tm, .int .i64 z.rs] 63) := ⟨_, rfl⟩
        have hb2 : Below wr.heap.size wr W2 := by rw [hW2]; exact (Below.refl _ _).alloc (Nat.le_refl _) _
        have E2 : Hid (W2.heap[wr.heap.size]? = some (.cells #[.slice an nn cn, .int .i64 z.ser, .int .i64 z.tm, .int .i64 z.rs] 63)) := by show _ = _; rw [hW2]; exact heap_alloc_new wr _
        have Y2 : Hid (W2.heap[wo.heap.size]? = some (.cells #[.slice a1 n1 c1, .int .i64 y.num, .int .i64 y.base, .int .i64 y.tm, .int .i64 y.next, .int .i64 y.scope, .bool y.ind, .slice (some ⟨b1, off1, none⟩) n2 c2, .slice a3 n3 c3] 36)) := (hb2.block _ l3).trans YJ.out
        have X2 : Hid (W2.heap[w1.heap.size]? = some (stC (bsV (best (toldL xs is ser now k ++ toldE y is ser j))))) := (hb2.block _ (by omega)).trans XJ.out
        have B2 : Hid (Below w1.heap.size w1 W2) := hbj.trans (hb2.mono hbj.size)
        have hjni : (j : Int) < (n2 : Int) := by omega
        have HW2 : Hid (_ = _) := hW2
        clear hW2 hb2 hc1 hp1 hzz HGZ
        go_upto_region 15 with fail
        rw [← HW2.out]
        clear HW2 d0 d1 d2 d3 q7
        have f1 : W2.cell? ⟨wr.heap.size, 1, none⟩ = some (.int .i64 z.ser) := (cell_of_row _ _ 1 _ 63 (0, 0) E2.out).trans rfl
        by_cases hs : z.ser = ser
        case neg =>
          have hne : (z.ser != ser) = true := by simp [hs]
          have YV : Hid _ := Y2
          have XV : Hid (W2.heap[w1.heap.size]? = some (stC (bsV (best (toldL xs is ser now k ++ toldE y is ser j))))) := X2
          have BV : Hid (Below w1.heap.size w1 W2) := B2
          have HQ : Hid (z.ser ≠ ser) := hs
          clear hs
          have HNM : Hid (¬ mnsP y (y.ents.getD j default) is ser) := by rw [← HZZ.out]; exact fun q => HQ.out q.1
          have HXC : Hid (W2.heap[w1.heap.size]? = some (stC (bsV (best (toldL xs is ser now k ++ toldE y is ser (j + 1)))))) := by
            show _ = _
            rw [toldE_skip HNM.out]; exact XV.out
          go_wp2
          go_roundw
          case rel => exact ⟨j + 1, by omega, by go_num, YV, HXC, BV.out⟩
          case measure => simp [intOf]; omega
        have hne : (z.ser != ser) = false := by simp [hs]
        have HS : Hid (z.ser = ser) := hs
        clear hs
        have q6 : W2.cell? ⟨wo.heap.size, 6, none⟩ = some (.bool true) := by rw [← HIND.out]; exact (cell_of_row _ _ 6 _ 36 (0, 0) Y2.out).trans rfl
        have f0 : W2.cell? ⟨wr.heap.size, 0, none⟩ = some (.slice an nn cn) := (cell_of_row _ _ 0 _ 63 (0, 0) E2.out).trans rfl
        have BW2 : Hid (Below w.heap.size w W2) := B1.out.trans (B2.out.mono B1.out.size)
        have q0 : W2.cell? ⟨w.heap.size, 0, none⟩ = some (.slice ai ni ci) := (cell_of_row _ _ 0 _ 33 (0, 0) ((B2.out.block _ (by omega)).trans N1.out)).trans rfl
        go_wp2_with fail
        refine (specSameName_any an nn cn z.parts ai ni ci is _ (HPZ.out _ BW2.out) (HI.out.kept BW2.out) HGN.out HZI.out).mono ?_
        rintro e w5 ⟨v5, rfl, hv5, hb5⟩
        have HV5 : Hid _ := hv5
        have l4 : wr.heap.size < W2.heap.size := (Array.getElem?_eq_some_iff.1 E2.out).1
        have EV : Hid (w5.heap[wr.heap.size]? = some (.cells #[.slice an nn cn, .int .i64 z.ser, .int .i64 z.tm, .int .i64 z.rs] 63)) := (hb5.block _ l4).trans E2.out
        have YV : Hid (w5.heap[wo.heap.size]? = some (.cells #[.slice a1 n1 c1, .int .i64 y.num, .int .i64 y.base, .int .i64 y.tm, .int .i64 y.next, .int .i64 y.scope, .bool y.ind, .slice (some ⟨b1, off1, none⟩) n2 c2, .slice a3 n3 c3] 36)) := (hb5.block _ (by omega)).trans Y2.out
        have XV : Hid (w5.heap[w1.heap.size]? = some (stC (bsV (best (toldL xs is ser now k ++ toldE y is ser j))))) := (hb5.block _ (by omega)).trans X2.out
        have BV : Hid (Below w1.heap.size w1 w5) := B2.out.trans (hb5.mono B2.out.size)
        clear hv5 hb5 f0 f1 q0 q6 Y2 X2 B2 E2 l4
        rcases v5 with _ | _
        · have HQ : Hid (¬ mnsP y z is ser) := fun q => by
            have := HV5.out.2 (q.2.resolve_left (by rw [HIND.out]; decide))
            cases this
          have HNM : Hid (¬ mnsP y (y.ents.getD j default) is ser) := by rw [← HZZ.out]; exact fun q => HQ.out q
          have HXC : Hid (w5.heap[w1.heap.size]? = some (stC (bsV (best (toldL xs is ser now k ++ toldE y is ser (j + 1)))))) := by
            show _ = _
            rw [toldE_skip HNM.out]; exact XV.out
          go_wp2
          go_roundw
          case rel => exact ⟨j + 1, by omega, by go_num, YV, HXC, BV.out⟩
          case measure => simp [intOf]; omega
        have HME : Hid (mnsP y z is ser) := ⟨HS.out, .inr (HV5.out.1 rfl)⟩
        have HTE : Hid (toldE y is ser (j + 1) = toldE y is ser j ++ [(z.rs, z.tm)]) := by
          show _ = _
          rw [toldE_take (by rw [← HZZ.out]; exact HME.out), ← HZZ.out]
        have f2 : w5.cell? ⟨wr.heap.size, 2, none⟩ = some (.int .i64 z.tm) := (cell_of_row _ _ 2 _ 63 (0, 0) EV.out).trans rfl
        have f3 : w5.cell? ⟨wr.heap.size, 3, none⟩ = some (.int .i64 z.rs) := (cell_of_row _ _ 3 _ 63 (0, 0) EV.out).trans rfl
        rcases hbst : best (toldL xs is ser now k ++ toldE y is ser j) with _ | b
        · have hxv : w5.heap[w1.heap.size]? = some (.cells #[.int .i64 2, .int .i64 0, .int .i64 0] 48 (0, 0)) := by
            have := XV.out
            rw [hbst] at this
            exact this
          have HXV : Hid (_ = _) := hxv
          have HBT : Hid (best (toldL xs is ser now k ++ toldE y is ser (j + 1)) = some (z.rs, z.tm)) := by
            show _ = _
            rw [HTE.out, ← List.append_assoc, best_snoc, hbst]; rfl
          have k0 : w5.cell? ⟨w1.heap.size, 0, none⟩ = some (.int .i64 2) := (cell_of_row _ _ 0 _ 48 (0, 0) hxv).trans rfl
          have k1 : w5.cell? ⟨w1.heap.size, 1, none⟩ = some (.int .i64 0) := (cell_of_row _ _ 1 _ 48 (0, 0) hxv).trans rfl
          have k2 : w5.cell? ⟨w1.heap.size, 2, none⟩ = some (.int .i64 0) := (cell_of_row _ _ 2 _ 48 (0, 0) hxv).trans rfl
          have m0 : w5.frozen? ⟨w1.heap.size, 0, none⟩ = false := frozen_of_row w5 _ 0 _ _ hxv
          have m1 : w5.frozen? ⟨w1.heap.size, 1, none⟩ = false := frozen_of_row w5 _ 1 _ _ hxv
          have m2 : w5.frozen? ⟨w1.heap.size, 2, none⟩ = false := frozen_of_row w5 _ 2 _ _ hxv
          clear hxv hbst XV
          have HX3 : Hid ((put3 w5 w1.heap.size (.int .i64 1) (.int .i64 z.rs) (.int .i64 z.tm)).heap[w1.heap.size]? = some (stC (bsV (best (toldL xs is ser now k ++ toldE y is ser (j + 1)))))) := by
            show _ = _
            rw [HBT.out]
            exact put3_same w5 w1.heap.size 48 (.int .i64 1) (.int .i64 z.rs) (.int .i64 z.tm) _ _ _ HXV.out
          have Y3 : Hid ((put3 w5 w1.heap.size (.int .i64 1) (.int .i64 z.rs) (.int .i64 z.tm)).heap[wo.heap.size]? = some (.cells #[.slice a1 n1 c1, .int .i64 y.num, .int .i64 y.base, .int .i64 y.tm, .int .i64 y.next, .int .i64 y.scope, .bool y.ind, .slice (some ⟨b1, off1, none⟩) n2 c2, .slice a3 n3 c3] 36)) := (put3_other w5 w1.heap.size wo.heap.size _ _ _ (by have := l2; omega)).trans YV.out
          have B3 : Hid (Below w1.heap.size w1 (put3 w5 w1.heap.size (.int .i64 1) (.int .i64 z.rs) (.int .i64 z.tm))) := put3_below BV.out _ (Nat.le_refl _) _ _ _
          go_wp2
          go_roundw
          case rel => exact ⟨j + 1, by omega, by go_num, Y3, HX3, B3.out⟩
          case measure => simp [intOf]; omega
        · have hxv : w5.heap[w1.heap.size]? = some (.cells #[.int .i64 1, .int .i64 b.1, .int .i64 b.2] 48 (0, 0)) := by
            have := XV.out
            rw [hbst] at this
            exact this
          have HXV : Hid (_ = _) := hxv
          have HBP : Hid (best (toldL xs is ser now k ++ toldE y is ser (j + 1)) = pick (some b) (z.rs, z.tm)) := by
            show _ = _
            rw [HTE.out, ← List.append_assoc, best_snoc, hbst]
          have k0 : w5.cell? ⟨w1.heap.size, 0, none⟩ = some (.int .i64 1) := (cell_of_row _ _ 0 _ 48 (0, 0) hxv).trans rfl
          have k1 : w5.cell? ⟨w1.heap.size, 1, none⟩ = some (.int .i64 b.1) := (cell_of_row _ _ 1 _ 48 (0, 0) hxv).trans rfl
          have k2 : w5.cell? ⟨w1.heap.size, 2, none⟩ = some (.int .i64 b.2) := (cell_of_row _ _ 2 _ 48 (0, 0) hxv).trans rfl
          have m0 : w5.frozen? ⟨w1.heap.size, 0, none⟩ = false := frozen_of_row w5 _ 0 _ _ hxv
          have m1 : w5.frozen? ⟨w1.heap.size, 1, none⟩ = false := frozen_of_row w5 _ 1 _ _ hxv
          have m2 : w5.frozen? ⟨w1.heap.size, 2, none⟩ = false := frozen_of_row w5 _ 2 _ _ hxv
          clear hxv hbst
          by_cases t1 : z.tm < b.2
          · have HBT : Hid (best (toldL xs is ser now k ++ toldE y is ser (j + 1)) = some (z.rs, z.tm)) := HBP.out.trans (by simp only [pick]; rw [if_pos (show aheadP (z.rs, z.tm) b from .inl t1)])
            clear XV
            have HX3 : Hid ((put3 w5 w1.heap.size (.int .i64 1) (.int .i64 z.rs) (.int .i64 z.tm)).heap[w1.heap.size]? = some (stC (bsV (best (toldL xs is ser now k ++ toldE y is ser (j + 1)))))) := by
              show _ = _
              rw [HBT.out]
              exact put3_same w5 w1.heap.size 48 (.int .i64 1) (.int .i64 z.rs) (.int .i64 z.tm) _ _ _ HXV.out
            have Y3 : Hid ((put3 w5 w1.heap.size (.int .i64 1) (.int .i64 z.rs) (.int .i64 z.tm)).heap[wo.heap.size]? = some (.cells #[.slice a1 n1 c1, .int .i64 y.num, .int .i64 y.base, .int .i64 y.tm, .int .i64 y.next, .int .i64 y.scope, .bool y.ind, .slice (some ⟨b1, off1, none⟩) n2 c2, .slice a3 n3 c3] 36)) := (put3_other w5 w1.heap.size wo.heap.size _ _ _ (by have := l2; omega)).trans YV.out
            have B3 : Hid (Below w1.heap.size w1 (put3 w5 w1.heap.size (.int .i64 1) (.int .i64 z.rs) (.int .i64 z.tm))) := put3_below BV.out _ (Nat.le_refl _) _ _ _
            go_wp2
            go_roundw
            case rel => exact ⟨j + 1, by omega, by go_num, Y3, HX3, B3.out⟩
            case measure => simp [intOf]; omega
          · by_cases t2 : z.tm = b.2
            · have e2 : (z.tm == b.2) = true := by simp [t2]
              by_cases t3 : z.rs < b.1
              · have HBT : Hid (best (toldL xs is ser now k ++ toldE y is ser (j + 1)) = some (z.rs, z.tm)) := HBP.out.trans (by simp only [pick]; rw [if_pos (show aheadP (z.rs, z.tm) b from .inr ⟨t2, t3⟩)])
                clear XV t2
                have HX3 : Hid ((put3 w5 w1.heap.size (.int .i64 1) (.int .i64 z.rs) (.int .i64 z.tm)).heap[w1.heap.size]? = some (stC (bsV (best (toldL xs is ser now k ++ toldE y is ser (j + 1)))))) := by
                  show _ = _
                  rw [HBT.out]
                  exact put3_same w5 w1.heap.size 48 (.int .i64 1) (.int .i64 z.rs) (.int .i64 z.tm) _ _ _ HXV.out
                have Y3 : Hid ((put3 w5 w1.heap.size (.int .i64 1) (.int .i64 z.rs) (.int .i64 z.tm)).heap[wo.heap.size]? = some (.cells #[.slice a1 n1 c1, .int .i64 y.num, .int .i64 y.base, .int .i64 y.tm, .int .i64 y.next, .int .i64 y.scope, .bool y.ind, .slice (some ⟨b1, off1, none⟩) n2 c2, .slice a3 n3 c3] 36)) := (put3_other w5 w1.heap.size wo.heap.size _ _ _ (by have := l2; omega)).trans YV.out
                have B3 : Hid (Below w1.heap.size w1 (put3 w5 w1.heap.size (.int .i64 1) (.int .i64 z.rs) (.int .i64 z.tm))) := put3_below BV.out _ (Nat.le_refl _) _ _ _
                go_wp2
                go_roundw
                case rel => exact ⟨j + 1, by omega, by go_num, Y3, HX3, B3.out⟩
                case measure => simp [intOf]; omega
              · have HXC : Hid (w5.heap[w1.heap.size]? = some (stC (bsV (best (toldL xs is ser now k ++ toldE y is ser (j + 1)))))) := by
                  show _ = _
                  have hna : ¬ aheadP (z.rs, z.tm) b := fun q => by rcases q with q | q; exact t1 q; exact t3 q.2
                  rw [HBP.out]; simp only [pick]; rw [if_neg hna]
                  exact HXV.out
                clear XV t2
                go_wp2
                go_roundw
                case rel => exact ⟨j + 1, by omega, by go_num, YV, HXC, BV.out⟩
                case measure => simp [intOf]; omega
            · have e2 : (z.tm == b.2) = false := by simp [t2]
              have HXC : Hid (w5.heap[w1.heap.size]? = some (stC (bsV (best (toldL xs is ser now k ++ toldE y is ser (j + 1)))))) := by
                show _ = _
                have hna : ¬ aheadP (z.rs, z.tm) b := fun q => by rcases q with q | q; exact t1 q; exact t2 q.1
                rw [HBP.out]; simp only [pick]; rw [if_neg hna]
                exact HXV.out
              clear XV t2
              go_wp2
              go_roundw
              case rel => exact ⟨j + 1, by omega, by go_num, YV, HXC, BV.out⟩
              case measure => simp [intOf]; omega

end Go.Proofs.YtbfjkmlmnhphoaaDoor
