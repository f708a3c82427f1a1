import Derived.Test.YtjkkokjojaknkaaDoorDI0
import Derived.Great.BuildSlice
import Derived.Deep.RegionHeldLaw
import Derived.Deep.DeepCutAuto
namespace Go.Proofs.YtjkkokjojaknkaaDoor
open Go.RowKit

set_option maxRecDepth 10000 in
set_option maxHeartbeats 16000000 in
theorem drawItem_next (g : Nat) (a : Option Addr) (n cap : Nat) (bs : List Int) (lev : Nat) (hlev : lev ≤ 4) (IH : ∀ l, lev = l + 1 → DrC g a n cap bs l) : DrC g a n cap bs lev := by
  intro p w h
  obtain ⟨i0, hi, hz0, hz1, hz2⟩ := info_parts Tryd.infoItem
  obtain ⟨i5, hi5, hz50, hz51, hz52⟩ := info_parts Tryd.info5
  have HI : Hid (_ ∧ _ ∧ _ ∧ _) := ⟨hi, hz0, hz1, hz2⟩
  have HI5 : Hid (_ ∧ _ ∧ _ ∧ _) := ⟨hi5, hz50, hz51, hz52⟩
  clear hi hz0 hz1 hz2 hi5 hz50 hz51 hz52
  have hgw : g < w.heap.size := h.lt
  have HQ : Hid (RdQ w g a n cap bs p w) := RdQ.same h
  clear h
  obtain ⟨D, hD⟩ : ∃ D : Int, D = 5 - (lev : Int) := ⟨_, rfl⟩
  have HD : Hid (D = 5 - (lev : Int)) := hD
  rw [← hD]
  have hd0 : 0 ≤ D := by omega
  have hd5 : D ≤ 5 := by omega
  clear hD
  obtain ⟨c, hc⟩ : ∃ c, c = dCls bs p := ⟨_, rfl⟩
  have HC : Hid (c = dCls bs p) := hc
  have hc4 : c < 4 := by rw [hc]; exact bwV_lt bs 4 p (by decide)
  obtain ⟨t, ht⟩ : ∃ t, t = bwV bs 30 (bwP bs 4 p) := ⟨_, rfl⟩
  have HT0 : Hid (t = bwV bs 30 (bwP bs 4 p)) := ht
  have ht30 : t < 30 := by rw [ht]; exact bwV_lt bs 30 _ (by decide)
  have B1 := fun W h => below_p g a n cap bs 4 p W h (by decide)
  have B2 := fun W h => below_p g a n cap bs 30 (bwP bs 4 p) W h (by decide)
  have hcc : bwV bs 4 p = c := hc.symm
  rw [hcc] at B1
  rw [← ht] at B2
  clear hc ht hcc
  go_enter Tryd.func32, Tryd.ntmps32
  go_upto_region 1 with fail
  obtain ⟨W0, hW0⟩ : ∃ W0, W0 = w.alloc (.cells #[.int .i64 0, .int .i64 0, .bool false, .slice none 0 0, .slice none 0 0] 26) := ⟨_, rfl⟩
  have HQ0 : Hid (RdQ w g a n cap bs p W0) := by show RdQ _ _ _ _ _ _ _ _; rw [hW0]; exact HQ.out.allocQ _
  have HE0 : Hid (W0.heap[w.heap.size]? = some (.cells #[.int .i64 0, .int .i64 0, .bool false, .slice none 0 0, .slice none 0 0] 26 (0, 0))) := by show _ = _; rw [hW0]; exact heap_alloc_new w _
  rw [← hW0]
  clear hW0 HQ
  go_wp2_with fail
  refine (B1 _ HQ0.out.1).mono ?_
  rintro e w1 ⟨rfl, hq1⟩
  have HQ1 : Hid (RdQ w g a n cap bs (bwP bs 4 p) w1) := HQ0.out.step hq1
  have he1 := (hq1.2.block w.heap.size (Array.getElem?_eq_some_iff.1 HE0.out).1 (.inr (by omega))).trans HE0.out
  have HE1 : Hid (_ = _) := he1
  clear hq1 he1 HQ0 HE0
  go_wp2_with fail
  refine (B2 _ HQ1.out.1).mono ?_
  rintro e w2 ⟨rfl, hq2⟩
  have HQ2 : Hid (RdQ w g a n cap bs (dPh bs p) w2) := HQ1.out.step hq2
  have he2 := (hq2.2.block w.heap.size (Array.getElem?_eq_some_iff.1 HE1.out).1 (.inr (by omega))).trans HE1.out
  have HE2 : Hid (_ = _) := he2
  clear hq2 he2 HQ1 HE1 B1 B2
  go_upto_region 2 with ((refine wpList_store_rowTo rfl 26 _ _ rfl rfl w2.heap.size #[.int .i64 (c : Int), .int .i64 (1 + (t : Int)), .bool false, .slice none 0 0, .slice none 0 0] rfl rfl 26 #[.int .i64 0, .int .i64 0, .bool false, .slice none 0 0, .slice none 0 0] (heap_alloc_new w2 _) infoSizeIt rfl (by simp [Value.oneCell']) ?_))
  have hs3 := DB.start HQ2.out hgw HE2.out #[.int .i64 (c : Int), .int .i64 (1 + (t : Int)), .bool false, .slice none 0 0, .slice none 0 0]
  obtain ⟨G, hG⟩ : ∃ G, G = w2.heap.size := ⟨_, rfl⟩
  rw [← hG] at hs3 ⊢
  obtain ⟨W3, hW3⟩ : ∃ W3, W3 = (w2.alloc (.cells #[.int .i64 0, .int .i64 0, .bool false, .slice none 0 0, .slice none 0 0] 26)).setRow G #[.int .i64 (c : Int), .int .i64 (1 + (t : Int)), .bool false, .slice none 0 0, .slice none 0 0] := ⟨_, rfl⟩
  rw [← hW3] at hs3 ⊢
  have HD3 : Hid (_) := hs3
  clear hW3 hG hs3 HQ2 HE2
  have BO := once_p g a n cap bs 5 (dPh bs p) W3 HD3.out.rd.1 (by decide)
  obtain ⟨o, ho⟩ : ∃ o, o = onV bs 5 (dPh bs p) := ⟨_, rfl⟩
  have HO : Hid (o = onV bs 5 (dPh bs p)) := ho
  rw [← ho] at BO
  clear ho
  go_wp2_with fail
  refine BO.mono ?_
  rintro e w4 ⟨rfl, hq4⟩
  have HD4 : Hid (_) := HD3.out.rdq hq4
  clear hq4 HD3 BO
  go_upto_if 16 with fail
  go_cut [22] (fun _ wx => Hid (DB w g a n cap bs (dPos0 bs p) wx G #[.int .i64 (c : Int), .int .i64 (dTag0 bs p), .bool false, .slice none 0 0, .slice none 0 0]))
  case first =>
    cases o with
    | false =>
      have hp0 : dPos0 bs p = bwP bs 5 (dPh bs p) := if_neg (by rw [← HO.out]; decide)
      have ht0 : dTag0 bs p = 1 + (t : Int) := by rw [HT0.out]; exact if_neg (by rw [← HO.out]; decide)
      have H9 := HD4.out
      rw [← hp0, ← ht0] at H9
      clear hp0 ht0
      have H9H : Hid (_) := H9
      clear H9
      go_wp2_with fail
      go_meet
      exact H9H
    | true =>
      have hp0 : dPos0 bs p = bwP bs 9 (bwP bs 5 (dPh bs p)) := if_pos HO.out.symm
      have ht0 : dTag0 bs p = tagT.getD (bwV bs 9 (bwP bs 5 (dPh bs p))) 0 := if_pos HO.out.symm
      have HP0 : Hid (_ ∧ _) := ⟨hp0, ht0⟩
      clear hp0 ht0
      obtain ⟨wt, hwt⟩ : ∃ wt, wt = w4.alloc (.cells tagC 2) := ⟨_, rfl⟩
      have hbt : Below w4.heap.size w4 wt := by rw [hwt]; exact (Below.refl _ _).alloc (Nat.le_refl _) _
      have xt : wt.heap[w4.heap.size]? = some (.cells tagC 2) := by rw [hwt]; exact heap_alloc_new w4 _
      have st : w4.heap.size < wt.heap.size := (Array.getElem?_eq_some_iff.1 xt).1
      have HT : Hid (_) := HD4.out.on hbt
      have HBT : Hid (_) := hbt
      have HWT : Hid (_ = _) := hwt
      have BT := below_p g a n cap bs 9 (bwP bs 5 (dPh bs p)) wt HT.out.rd.1 (by decide)
      have hv : bwV bs 9 (bwP bs 5 (dPh bs p)) < 9 := bwV_lt _ _ _ (by decide)
      obtain ⟨v, hve⟩ : ∃ v, v = bwV bs 9 (bwP bs 5 (dPh bs p)) := ⟨_, rfl⟩
      have HV : Hid (v = bwV bs 9 (bwP bs 5 (dPh bs p))) := hve
      rw [← hve] at BT hv
      clear hwt hve hbt
      go_wp2_with fail
      have et : w4.alloc (.cells #[.int .i64 0, .int .i64 1, .int .i64 30, .int .i64 31, .int .i64 32, .int .i64 127, .int .i64 128, .int .i64 16384, .int .i64 268435455] 2) = wt := HWT.out.symm
      rw [et]
      clear HWT et
      refine BT.mono ?_
      rintro e w5 ⟨rfl, hqt⟩
      obtain ⟨z, hz⟩ : ∃ z, z = tagT.getD v 0 := ⟨_, rfl⟩
      have HZ : Hid (z = tagT.getD v 0) := hz
      have hui : (v : Int) < 9 := by omega
      have hgl : g < w4.heap.size := Nat.lt_of_lt_of_le HD4.out.gw HD4.out.rd.2.size
      have js : w5.cell? ⟨w4.heap.size, v, none⟩ = some (.int .i64 z) := by rw [hz]; exact (cell_of_row _ _ v _ 2 (0, 0) ((hqt.2.block _ st (.inr (by omega))).trans xt)).trans (tagC_get v hv)
      have hsw5 := hqt.2.size
      have hlw5 : w4.heap.size < w5.heap.size := by omega
      have HD5 : Hid (_) := HT.out.rdq hqt
      clear hqt xt HT hz
      obtain ⟨⟨x0, x1, x2, x3, x4⟩, y0, y1, y2, y3, y4⟩ := HD5.out.cells
      go_wp2_with fail
      go_meet
      have H9 := HD5.out.put 1 (.int .i64 z) ((heap_setCell_same w5 G 1 _ 26 _ HD5.out.box).trans rfl)
      rw [HP0.out.1, HP0.out.2, ← HV.out, ← HZ.out]
      exact H9
  case rest =>
  have HDc : Hid (DB w g a n cap bs (dPos0 bs p) wc G #[.int .i64 (c : Int), .int .i64 (dTag0 bs p), .bool false, .slice none 0 0, .slice none 0 0]) := hcut
  clear hcut HD4 HT0 HO
  obtain ⟨tg, htg⟩ : ∃ tg, tg = dTag0 bs p := ⟨_, rfl⟩
  have HTG : Hid (tg = dTag0 bs p) := htg
  rw [← htg] at HDc
  clear htg
  obtain ⟨⟨x0, x1, x2, x3, x4⟩, y0, y1, y2, y3, y4⟩ := HDc.out.cells
  go_upto_region 4 with fail
  go_cut [30] (fun v wx => v = .bool (decide (c = 0 ∧ tg = 0)) ∧ wx = wc)
  case first =>
    by_cases k1 : c = 0
    · have k1i : (c : Int) = 0 := by omega
      by_cases k2 : tg = 0
      · have hdc : decide (c = 0 ∧ tg = 0) = true := decide_eq_true ⟨k1, k2⟩
        have HDC : Hid (_ = _) := hdc
        clear hdc
        go_wp2_with fail
        go_meet
        rw [HDC.out]
        exact ⟨by simp, rfl⟩
      · have hdc : decide (c = 0 ∧ tg = 0) = false := decide_eq_false fun h => k2 h.2
        have HDC : Hid (_ = _) := hdc
        have k2b : (tg == 0) = false := by simp [k2]
        clear hdc
        go_wp2_with fail
        go_meet
        rw [HDC.out]
        exact ⟨rfl, rfl⟩
    · have hdc : decide (c = 0 ∧ tg = 0) = false := decide_eq_false fun h => k1 h.1
      have HDC : Hid (_ = _) := hdc
      have k1b : ((c : Int) == 0) = false := by simp; omega
      clear hdc
      go_wp2_with fail
      go_meet
      rw [HDC.out]
      exact ⟨rfl, rfl⟩
  case rest =>
  obtain ⟨rfl, rfl⟩ := hcut
  obtain ⟨o, ho⟩ : ∃ o, o = decide (c = 0 ∧ tg = 0) := ⟨_, rfl⟩
  have HO : Hid (o = decide (c = 0 ∧ tg = 0)) := ho
  rw [← ho]
  clear ho
  go_upto_if 30 with fail
  go_cut [31] (fun _ wx => Hid (DB w g a n cap bs (dPos0 bs p) wx G #[.int .i64 (c : Int), .int .i64 (dTag bs p), .bool false, .slice none 0 0, .slice none 0 0]))
  case first =>
    cases o with
    | false =>
      have H9 : Hid (DB w g a n cap bs (dPos0 bs p) wc G #[.int .i64 (c : Int), .int .i64 (dTag bs p), .bool false, .slice none 0 0, .slice none 0 0]) := by
        have : dTag bs p = tg := by rw [HTG.out]; exact if_neg (by rw [← HTG.out, ← HC.out]; exact of_decide_eq_false HO.out.symm)
        show DB _ _ _ _ _ _ _ _ _ _
        rw [this]
        exact HDc.out
      go_wp2_with fail
      go_meet
      exact H9
    | true =>
      go_wp2_with fail
      go_meet
      have H9 := HDc.out.put 1 (.int .i64 4) ((heap_setCell_same wc G 1 _ 26 _ HDc.out.box).trans rfl)
      have : dTag bs p = 4 := if_pos (by rw [← HTG.out, ← HC.out]; exact of_decide_eq_true HO.out.symm)
      rw [this]
      exact H9
  case rest =>
  have HDd : Hid (DB w g a n cap bs (dPos0 bs p) wc G #[.int .i64 (c : Int), .int .i64 (dTag bs p), .bool false, .slice none 0 0, .slice none 0 0]) := hcut
  clear hcut HDc x0 x1 x2 x3 x4 y0 y1 y2 y3 y4 HO HTG
  obtain ⟨tf, htf⟩ : ∃ tf, tf = dTag bs p := ⟨_, rfl⟩
  have HTF : Hid (tf = dTag bs p) := htf
  rw [← htf] at HDd
  clear htf
  obtain ⟨q, hq⟩ : ∃ q, q = dPos0 bs p := ⟨_, rfl⟩
  have HQP : Hid (q = dPos0 bs p) := hq
  rw [← hq] at HDd
  clear hq
  go_upto_region 6 with fail
  go_cut [38] (fun v wx => v = .bool (cdV bs lev q) ∧ Hid (DB w g a n cap bs (cdP bs lev q) wx G #[.int .i64 (c : Int), .int .i64 tf, .bool false, .slice none 0 0, .slice none 0 0]))
  case first =>
    by_cases h0 : lev = 0
    · have hd : ¬ D < 5 := by have := HD.out; omega
      have e1 : cdV bs lev q = false := if_pos h0
      have e2 : cdP bs lev q = q := if_pos h0
      have H9 : Hid (DB w g a n cap bs (cdP bs lev q) wc G #[.int .i64 (c : Int), .int .i64 tf, .bool false, .slice none 0 0, .slice none 0 0]) := by show DB _ _ _ _ _ _ _ _ _ _; rw [e2]; exact HDd.out
      have HE1 : Hid (_ = _) := e1
      clear e1 e2
      go_wp2_with fail
      go_meet
      rw [HE1.out]
      exact ⟨rfl, H9⟩
    · have hd : D < 5 := by have := HD.out; omega
      have e1 : cdV bs lev q = !onV bs 3 q := if_neg h0
      have e2 : cdP bs lev q = bwP bs 3 q := if_neg h0
      have HE1 : Hid (_ ∧ _) := ⟨e1, e2⟩
      clear e1 e2
      have BO := once_p g a n cap bs 3 q wc HDd.out.rd.1 (by decide)
      obtain ⟨o, ho⟩ : ∃ o, o = onV bs 3 q := ⟨_, rfl⟩
      have HOO : Hid (o = onV bs 3 q) := ho
      rw [← ho] at BO
      clear ho
      go_wp2_with fail
      refine BO.mono ?_
      rintro e w6 ⟨rfl, hq6⟩
      have HD6 : Hid (_) := HDd.out.rdq hq6
      clear hq6
      go_wp2_with fail
      go_meet
      rw [HE1.out.1, HE1.out.2, ← HOO.out]
      exact ⟨rfl, HD6⟩
  case rest =>
  obtain ⟨rfl, HDe⟩ := hcut
  clear HDd
  obtain ⟨cd, hcd⟩ : ∃ cd, cd = cdV bs lev q := ⟨_, rfl⟩
  have HCD : Hid (cd = cdV bs lev q) := hcd
  rw [← hcd]
  clear hcd
  obtain ⟨q2, hq2⟩ : ∃ q2, q2 = cdP bs lev q := ⟨_, rfl⟩
  have HQ2 : Hid (q2 = cdP bs lev q) := hq2
  rw [← hq2] at HDe
  clear hq2
  obtain ⟨⟨x0, x1, x2, x3, x4⟩, y0, y1, y2, y3, y4⟩ := HDe.out.cells
  cases cd with
  | false =>
    have HDR : Hid (drw bs lev p = (.mk (c : Int) tf false (lfV bs q2) [], lfP bs q2)) := by show _ = _; rw [drw_leaf bs lev p (by rw [← HQP.out]; exact HCD.out.symm), ← HQP.out, ← HQ2.out, ← HTF.out, ← HC.out]
    clear HCD HQ2 HQP HTF HC
    have BY := bytes_p g a n cap bs 6 q2 wc HDe.out.rd.1 (by decide)
    obtain ⟨ys, hys⟩ : ∃ ys, ys = bysV bs 6 q2 := ⟨_, rfl⟩
    have HYS : Hid (ys = bysV bs 6 q2) := hys
    rw [← hys] at BY
    clear hys
    obtain ⟨ny, hny⟩ : ∃ ny, ny = ys.length := ⟨_, rfl⟩
    have HNY : Hid (ny = ys.length) := hny
    rw [← hny] at BY
    clear hny x0 x1 x2 x3 x4 y0 y1 y2 y3 y4
    go_wp2_with fail
    refine BY.mono ?_
    rintro e w5 ⟨a5, c5, rfl, ho5, hq5⟩
    have HD5 : Hid (_) := HDe.out.rdq hq5
    have hlG := HDe.out.lt
    have hloG := HDe.out.lo
    have hs5 := hq5.2.size
    have OB5 : Hid (OwnB wc.heap.size w5.heap.size w5 a5 ny c5 ys) := ho5.ownB
    clear ho5 hq5 BY
    obtain ⟨⟨x0, x1, x2, x3, x4⟩, y0, y1, y2, y3, y4⟩ := HD5.out.cells
    go_upto_region 15 with fail
    have H6 := HD5.out.put 3 (.slice a5 ny c5) ((heap_setCell_same w5 G 3 _ 26 _ HD5.out.box).trans rfl)
    have hs6 : (w5.setCell ⟨G, 3, none⟩ (.slice a5 ny c5)).heap.size = w5.heap.size := by simp
    have ob6 := OB5.out.touch (.inr (by omega)) (touch_set w5 G 3 (.slice a5 ny c5) (Nat.le_refl G) (Nat.lt_succ_self G))
    obtain ⟨W6, hW6⟩ : ∃ W6, W6 = w5.setCell ⟨G, 3, none⟩ (.slice a5 ny c5) := ⟨_, rfl⟩
    rw [← hW6] at H6 hs6 ob6 ⊢
    have HD6 : Hid (_) := H6
    have OB6 : Hid (OwnB wc.heap.size w5.heap.size W6 a5 ny c5 ys) := ob6
    clear hW6 H6 ob6 OB5 HD5 x0 x1 x2 x3 x4 y0 y1 y2 y3 y4
    have BO := once_p g a n cap bs 12 _ W6 HD6.out.rd.1 (by decide)
    obtain ⟨o, ho⟩ : ∃ o, o = onV bs 12 (bysP bs 6 q2) := ⟨_, rfl⟩
    have HO : Hid (o = onV bs 12 (bysP bs 6 q2)) := ho
    rw [← ho] at BO
    clear ho
    go_wp2_with fail
    refine BO.mono ?_
    rintro e w7 ⟨rfl, hq7⟩
    have HD7 : Hid (DB w g a n cap bs (lfQ bs q2) w7 G #[.int .i64 (c : Int), .int .i64 tf, .bool false, .slice a5 ny c5, .slice none 0 0]) := HD6.out.rdq hq7
    have hs7 := hq7.2.size
    have hg6 : g < wc.heap.size := by omega
    have OB7 : Hid (OwnB wc.heap.size w5.heap.size w7 a5 ny c5 ys) := OB6.out.touch (.inr (by omega)) hq7.2
    clear hq7 BO HD6 OB6
    obtain ⟨⟨x0, x1, x2, x3, x4⟩, y0, y1, y2, y3, y4⟩ := HD7.out.cells
    go_upto_if 61 with fail
    go_cut [69] (fun _ wx => ∃ (ab : Option Addr) (nb cb : Nat), Hid (DB w g a n cap bs (lfP bs q2) wx G #[.int .i64 (c : Int), .int .i64 tf, .bool false, .slice ab nb cb, .slice none 0 0] ∧ OwnB (w.heap.size + 1) wx.heap.size wx ab nb cb (lfV bs q2)))
    case first =>
      cases o with
      | false =>
        have e1 : lfP bs q2 = lfQ bs q2 := if_neg (by rw [← HO.out]; decide)
        have e2 : lfV bs q2 = ys := by rw [HYS.out]; exact if_neg (by rw [← HO.out]; decide)
        have HE1 : Hid (_ ∧ _) := ⟨e1, e2⟩
        clear e1 e2
        have H9 : Hid (_ ∧ _) := ⟨HD7.out, OB7.out.mono (by omega : w.heap.size + 1 ≤ wc.heap.size) (by omega : w5.heap.size ≤ w7.heap.size)⟩
        go_wp2_with fail
        go_meet
        rw [HE1.out.1, HE1.out.2]
        exact ⟨_, _, _, H9⟩
      | true =>
        have e1 : lfP bs q2 = bwP bs 4 (lfQ bs q2) := if_pos HO.out.symm
        have e2 : lfV bs q2 = List.replicate (lenT.getD (bwV bs 4 (lfQ bs q2)) 0) 0 := if_pos HO.out.symm
        have HE1 : Hid (_ ∧ _) := ⟨e1, e2⟩
        clear e1 e2 x0 x1 x2 x3 x4 y0 y1 y2 y3 y4
        obtain ⟨wt, hwt⟩ : ∃ wt, wt = w7.alloc (.cells lenC 3) := ⟨_, rfl⟩
        have hbt : Below w7.heap.size w7 wt := by rw [hwt]; exact (Below.refl _ _).alloc (Nat.le_refl _) _
        have xt : wt.heap[w7.heap.size]? = some (.cells lenC 3) := by rw [hwt]; exact heap_alloc_new w7 _
        have st : w7.heap.size < wt.heap.size := (Array.getElem?_eq_some_iff.1 xt).1
        have HT : Hid (_) := HD7.out.on hbt
        have HBT : Hid (_) := hbt
        have HWT : Hid (_ = _) := hwt
        have BT := below_p g a n cap bs 4 (lfQ bs q2) wt HT.out.rd.1 (by decide)
        have hv : bwV bs 4 (lfQ bs q2) < 4 := bwV_lt _ _ _ (by decide)
        obtain ⟨v, hve⟩ : ∃ v, v = bwV bs 4 (lfQ bs q2) := ⟨_, rfl⟩
        have HV : Hid (v = bwV bs 4 (lfQ bs q2)) := hve
        rw [← hve] at BT hv
        clear hwt hve hbt
        go_wp2_with fail
        have et : w7.alloc (.cells #[.int .i64 127, .int .i64 128, .int .i64 255, .int .i64 256] 3) = wt := HWT.out.symm
        rw [et]
        clear HWT et
        refine BT.mono ?_
        rintro e w8 ⟨rfl, hqt⟩
        obtain ⟨z, hz⟩ : ∃ z, z = lenT.getD v 0 := ⟨_, rfl⟩
        have HZ : Hid (z = lenT.getD v 0) := hz
        have hui : (v : Int) < 4 := by omega
        have hgl : g < w7.heap.size := Nat.lt_of_lt_of_le HD7.out.gw HD7.out.rd.2.size
        have js : w8.cell? ⟨w7.heap.size, v, none⟩ = some (.int .i64 (z : Int)) := by rw [hz]; exact (cell_of_row _ _ v _ 3 (0, 0) ((hqt.2.block _ st (.inr (by omega))).trans xt)).trans (lenC_get v hv)
        have hsw8 := hqt.2.size
        have hlw8 : w7.heap.size < w8.heap.size := by omega
        have HD8 : Hid (_) := HT.out.rdq hqt
        clear hqt xt HT hz
        have hzle : z ≤ 256 := by rw [HZ.out]; exact lenT_le v
        obtain ⟨hi5, hz50, hz51, hz52⟩ := HI5.out
        go_upto_region 17 with fail
        go_wp2_with (at_make; refine wpList_make_full _ rfl _ _ 22 rfl w8.heap.size 5 i5 (.int .u8 0) 1 Tryd.underlying22 hi5 hz50 hz51 _ _ _ _ z rfl rfl rfl rfl (by rw [hz52]; omega) (by unfold maxLen; omega) (by exact Nat.le_refl _) ?_; intro w9 hown hgrow; have HD9 := HD8.out.on ((Below.refl w8.heap.size w8).grown hgrow (Nat.le_refl _) (by simp)); obtain ⟨⟨x0, x1, x2, x3, x4⟩, y0, y1, y2, y3, y4⟩ := HD9.cells; have HW : Hid (_ ∧ _) := ⟨hown, hgrow⟩; clear hown hgrow)
        go_meet
        have ho9 := (own_made HW.out.1).ownB
        have hs9 := HW.out.2.size
        have H9 := HD9.put 3 (.slice (some ⟨w8.heap.size, 0, none⟩) z z) ((heap_setCell_same w9 G 3 _ 26 _ HD9.box).trans rfl)
        rw [HE1.out.1, HE1.out.2]
        refine ⟨_, _, _, H9, ?_⟩
        rw [← HV.out, ← HZ.out]
        exact (ho9.touch (.inr (by omega)) (touch_set w9 G 3 _ (Nat.le_refl G) (Nat.lt_succ_self G))).mono (by omega) (by simp)
    case rest =>
    obtain ⟨ab, nb, cb, HL⟩ := hcut
    have HDz : Hid (_) := HL.out.1
    have OBz : Hid (_) := HL.out.2
    clear HL HD7 OB7 x0 x1 x2 x3 x4 y0 y1 y2 y3 y4
    go_wp2_with (first | (refine wpList_load_row rfl 26 _ rfl G rfl 26 #[.int .i64 (c : Int), .int .i64 tf, .bool false, .slice ab nb cb, .slice none 0 0] (0, 0) _ HDz.out.box Tryd.underlying26 rfl infoSizeIt ?_) | (refine wpList_store_rowTo rfl 26 _ _ rfl rfl w.heap.size #[.int .i64 (c : Int), .int .i64 tf, .bool false, .slice ab nb cb, .slice none 0 0] rfl rfl 26 #[.int .i64 0, .int .i64 0, .bool false, .slice none 0 0, .slice none 0 0] HDz.out.res infoSizeIt rfl (by simp [Value.oneCell']) ?_))
    have q4 := setRow_heap wc w.heap.size _ #[.int .i64 (c : Int), .int .i64 tf, .bool false, .slice ab nb cb, .slice none 0 0] 26 (0, 0) HDz.out.res
    have tt : Touch w.heap.size (w.heap.size + 1) wc (wc.setRow w.heap.size #[.int .i64 (c : Int), .int .i64 tf, .bool false, .slice ab nb cb, .slice none 0 0]) := touch_setRow16 _ _ _
    have tse : (wc.setRow w.heap.size #[.int .i64 (c : Int), .int .i64 tf, .bool false, .slice ab nb cb, .slice none 0 0]).heap.size = wc.heap.size := by simp
    have HFR := HDz.out.rd.grownQ tt HDz.out.gw (Nat.le_refl _)
    try simp only [Exit.inBlock, Exit.then]
    refine bodyPost_ret (results_item rfl _ w.heap.size rfl _ _ _ _ _ _ q4) rfl ?_
    rw [HDR.out]
    exact ⟨HFR, ab, nb, cb, none, 0, 0, wc.heap.size, rfl, by have := HDz.out.rd.2.size; omega, by rw [tse]; exact Nat.le_refl _, (OBz.out.touch (.inr (Nat.le_refl _)) tt).mono (by omega) (Nat.le_refl _), by decide, [], kidsAt_nil _ _ _⟩
  | true =>
    obtain ⟨lev, rfl⟩ : ∃ l, lev = l + 1 := by
      cases lev with
      | zero => exact absurd HCD.out (by show ¬ true = (if 0 = 0 then false else _); simp)
      | succ l => exact ⟨l, rfl⟩
    have HIH : Hid (DrC g a n cap bs lev) := IH lev rfl
    obtain ⟨N, hN⟩ : ∃ N, N = bwV bs 4 q2 := ⟨_, rfl⟩
    have HN : Hid (N = bwV bs 4 q2) := hN
    have hN4 : N < 4 := by rw [hN]; exact bwV_lt bs 4 q2 (by decide)
    have HDR : Hid (drw bs (lev + 1) p = (.mk (c : Int) tf true [] (kidsD (drw bs lev) N (bwP bs 4 q2)).1, (kidsD (drw bs lev) N (bwP bs 4 q2)).2)) := by show _ = _; rw [drw_box bs lev p (by rw [← HQP.out]; exact HCD.out.symm), ← HQP.out, ← HQ2.out, ← HTF.out, ← HC.out, hN]
    have hlG := HDe.out.lt
    have hloG := HDe.out.lo
    clear HCD HQ2 HQP HTF HC hN
    obtain ⟨hi, hz0, hz1, hz2⟩ := HI.out
    go_upto_region 8 with fail
    have H6 := HDe.out.put 2 (.bool true) ((heap_setCell_same wc G 2 _ 26 _ HDe.out.box).trans rfl)
    obtain ⟨W6, hW6⟩ : ∃ W6, W6 = wc.setCell ⟨G, 2, none⟩ (.bool true) := ⟨_, rfl⟩
    have hs6 : W6.heap.size = wc.heap.size := by rw [hW6]; simp
    rw [← hW6] at H6 ⊢
    have HD6 : Hid (_) := H6
    clear hW6 H6 HDe x0 x1 x2 x3 x4 y0 y1 y2 y3 y4
    have BN := below_p g a n cap bs 4 q2 W6 HD6.out.rd.1 (by decide)
    rw [← HN.out] at BN
    go_wp2_with fail
    refine BN.mono ?_
    rintro e w7 ⟨rfl, hq7⟩
    have HD7 : Hid (_) := HD6.out.rdq hq7
    have hs7 := hq7.2.size
    clear hq7 HD6 BN HN
    obtain ⟨q3, hq3⟩ : ∃ q3, q3 = bwP bs 4 q2 := ⟨_, rfl⟩
    rw [← hq3] at HD7 HDR
    clear hq3
    obtain ⟨R, hR⟩ : ∃ R, R = kidsD (drw bs lev) N q3 := ⟨_, rfl⟩
    rw [← hR] at HDR
    have HR : Hid (R = kidsD (drw bs lev) N q3) := hR
    clear hR
    obtain ⟨D1, hD1⟩ : ∃ D1 : Int, D1 = 5 - (lev : Int) := ⟨_, rfl⟩
    have HD1 : Hid (D1 = 5 - (lev : Int)) := hD1
    have hdd : D + 1 = D1 := by have := HD.out; omega
    have hlv : 0 ≤ D1 ∧ D1 ≤ 5 := by have := HD.out; omega
    clear hD1
    go_upto_region 10 with fail
    go_loopw [7] (fun i wr => ∃ (j q' : Nat) (a2 : Option Addr) (c2 : Nat) (xs : List It) (vs : List Value), i = .int .i64 (j : Int) ∧ j ≤ N ∧ KidsAt (lev + 1 + 8) (G + 1) wr a2 j c2 xs vs ∧ Hid (DB w g a n cap bs q' wr G #[.int .i64 (c : Int), .int .i64 tf, .bool true, .slice none 0 0, .slice a2 j c2]) ∧ R = (xs ++ (kidsD (drw bs lev) (N - j) q').1, (kidsD (drw bs lev) (N - j) q').2)) (fun i _ => N - (intOf i).toNat)
    case atStart => exact ⟨0, q3, none, 0, [], [], rfl, Nat.zero_le _, kidsAt_nil _ _ _, HD7, HR.out⟩
    case round =>
      obtain ⟨j, q', a2, c2, xs, vs, rfl, hjN, hka, HDw, hRq⟩ := hrel
      have HRQ : Hid (R = _) := hRq
      have HKA : Hid (_) := hka
      have hlr := HDw.out.lt
      clear hRq hka
      by_cases hlt : j < N
      · have hlti : (j : Int) < (N : Int) := by omega
        obtain ⟨x, hx⟩ : ∃ x, x = drw bs lev q' := ⟨_, rfl⟩
        have HNX : Hid (R = ((xs ++ [x.1]) ++ (kidsD (drw bs lev) (N - (j + 1)) x.2).1, (kidsD (drw bs lev) (N - (j + 1)) x.2).2)) := by
          show _ = _
          rw [HRQ.out, show N - j = (N - (j + 1)) + 1 by omega, hx]
          simp only [kidsD, List.append_assoc, List.singleton_append]
        have HC := fun W h => HIH.out q' W h
        have hwr : IntKind.i64.wrap D1 = D1 := by rw [IntKind.wrap_i64]; omega
        rw [← hx, ← HD1.out, ← hwr] at HC
        have HCA : Hid (_) := HC
        clear hx HRQ HC hwr
        obtain ⟨⟨x0, x1, x2, x3, x4⟩, y0, y1, y2, y3, y4⟩ := HDw.out.cells
        go_upto_region 12 with fail
        go_region_law (first
          | (go_simp; go_at_call 32; refine (HCA.out (World.drew wr) (HDw.out.rd.1.kept (Below.refl _ _).drew)).mono ?_; rintro e w3 ⟨hq3, ab, nb, cb, ak, nk, ck, M, rfl, m1, m2, ob, nk3, vk, okk⟩; have ok := okk.kids (by omega); unfold itv; have HD3 : Hid (_) := (HDw.out.on (Below.refl _ _).drew).rdq hq3; have hs3 : wr.heap.size ≤ w3.heap.size := hq3.2.size; have tW3 : Touch g (g + 1) wr w3 := ⟨hq3.2.os, hq3.2.tape, hq3.2.output, hq3.2.size, hq3.2.block⟩; have hal : Below w3.heap.size w3 (w3.alloc (.cells #[.int .i64 x.1.cls, .int .i64 x.1.tag, .bool x.1.cons, .slice ab nb cb, .slice ak nk ck] 26)) := (Below.refl _ _).alloc (Nat.le_refl _) _; have hsz5 : (w3.alloc (.cells #[.int .i64 x.1.cls, .int .i64 x.1.tag, .bool x.1.cons, .slice ab nb cb, .slice ak nk ck] 26)).heap.size = w3.heap.size + 1 := (by simp); have HD5 : Hid (_) := HD3.out.on hal; have tW5 : Touch g (g + 1) wr (w3.alloc (.cells #[.int .i64 x.1.cls, .int .i64 x.1.tag, .bool x.1.cons, .slice ab nb cb, .slice ak nk ck] 26)) := ⟨hal.os.trans tW3.os, hal.tape.trans tW3.tape, hal.output.trans tW3.output, Nat.le_trans tW3.size hal.size, fun l hl ho => (hal.block l (Nat.lt_of_lt_of_le hl tW3.size)).trans (tW3.block l hl ho)⟩; have hgG : g + 1 ≤ G + 1 := (by omega); have HK5 : Hid (_) := HKA.out.touch tW5 hgG; have HNEWS : Hid (_) := cells_new w3 #[.int .i64 x.1.cls, .int .i64 x.1.tag, .bool x.1.cons, .slice ab nb cb, .slice ak nk ck] 26; have HOK : Hid (_ ∧ _ ∧ _ ∧ _ ∧ _) := ⟨tW5, ob.kept hal, ok.kept hal, m1, m2⟩; have u4 : w3.cell? ⟨G, 4, none⟩ = some (.slice a2 j c2) := HD3.out.cells.1.2.2.2.2; have v4 : (w3.alloc (.cells #[.int .i64 x.1.cls, .int .i64 x.1.tag, .bool x.1.cons, .slice ab nb cb, .slice ak nk ck] 26)).cell? ⟨G, 4, none⟩ = some (.slice a2 j c2) := HD5.out.cells.1.2.2.2.2; have hl3 : G < w3.heap.size := HD3.out.lt; clear hq3 m1 m2 ob ok okk nk3 tW3 tW5 hal)
          | (refine step_append_lies _ rfl (.tmp 48) (.tmp 53) 24 rfl (G + 1) 26 i0 _ 5 72 Tryd.underlying24 hi hz0 hz1 hz2 rfl (by decide) _ j vs (by first | rfl | simp [Act.eval]) HK5.out.row ⟨w3.heap.size, 0, none⟩ 1 1 [.int .i64 x.1.cls, .int .i64 x.1.tag, .bool x.1.cons, .slice ab nb cb, .slice ak nk ck] (by first | rfl | simp [Act.eval]) rfl HNEWS.out (by intro u hu; simp only [List.mem_cons, List.not_mem_nil, or_false] at hu; rcases hu with rfl | rfl | rfl | rfl | rfl <;> rfl) (by decide) (by unfold maxLen; omega) (by omega) (by omega) (w3.heap.size + 1) hsz5 ?_; intro g5 c5 w5x hown5 hg5 hlies5 hlt5; have y3 := (hg5.block G (by omega) (fun e => by have := HK5.out.block _ e.symm; omega)).trans HD5.out.box; have yc4 : w5x.cell? ⟨G, 4, none⟩ = some (.slice a2 j c2) := (cell_of_row _ G 4 _ 26 (0, 0) y3).trans rfl; have yf4 : w5x.frozen? ⟨G, 4, none⟩ = false := frozen_of_row w5x G 4 _ 26 y3; have HY3 : Hid (_ = _) := y3; have HOW : Hid (_ ∧ _ ∧ _) := ⟨hown5, hg5, hlies5⟩; clear y3 hown5 hg5 hlies5))
        all_goals
          have hka6 := HKA.out.more2 (by omega) HOK.out.1 hgG HOK.out.2.2.2.1 HOK.out.2.2.2.2 (by omega) HOK.out.2.1 HOK.out.2.2.1 HOW.out.1 HOW.out.2.1 (by rw [hsz5]; exact HOW.out.2.2)
          have hg5 := HOW.out.2.1
          have hs5x := hg5.size
          have tG := touch_grown hg5 (fun l hl => ⟨HK5.out.block l hl, (HK5.out.row.lt l hl).2⟩)
          have hgs := HD5.out.gw
          have hlo5 := HD5.out.lo
          have HD6 := HD5.out.turn tG (by omega) HY3.out
          have HD7 := HD6.put 4 (.slice (some ⟨g5, 0, none⟩) (j + 1) c5) ((heap_setCell_same w5x G 4 _ 26 _ HY3.out).trans rfl)
          have hka7 := hka6.touch (touch_set w5x G 4 (.slice (some ⟨g5, 0, none⟩) (j + 1) c5) (Nat.le_refl G) (Nat.lt_succ_self G)) (Nat.le_refl _)
          have HE7 : Hid (_ ∧ _) := ⟨HD7, hka7⟩
          clear HD6 HD7 hka7 tG hka6 hg5 x0 x1 x2 x3 x4 y0 y1 y2 y3 y4
          go_wp2_with fail
          go_roundw
          case rel => exact ⟨j + 1, x.2, some ⟨g5, 0, none⟩, c5, _, _, by go_num, by omega, HE7.out.2, HE7.out.1, HNX.out⟩
          case measure => simp [intOf]; omega
      · obtain rfl : j = N := by omega
        have hR2 : R = (xs, q') := by rw [HRQ.out, Nat.sub_self]; simp only [kidsD, List.append_nil]
        rw [hR2] at HDR
        clear HRQ hR2 HR
        go_wp2_with (first | (refine wpList_load_row rfl 26 _ rfl G rfl 26 #[.int .i64 (c : Int), .int .i64 tf, .bool true, .slice none 0 0, .slice a2 j c2] (0, 0) _ HDw.out.box Tryd.underlying26 rfl infoSizeIt ?_) | (refine wpList_store_rowTo rfl 26 _ _ rfl rfl w.heap.size #[.int .i64 (c : Int), .int .i64 tf, .bool true, .slice none 0 0, .slice a2 j c2] rfl rfl 26 #[.int .i64 0, .int .i64 0, .bool false, .slice none 0 0, .slice none 0 0] HDw.out.res infoSizeIt rfl (by simp [Value.oneCell']) ?_))
        have q4 := setRow_heap wr w.heap.size _ #[.int .i64 (c : Int), .int .i64 tf, .bool true, .slice none 0 0, .slice a2 j c2] 26 (0, 0) HDw.out.res
        have tt : Touch w.heap.size (w.heap.size + 1) wr (wr.setRow w.heap.size #[.int .i64 (c : Int), .int .i64 tf, .bool true, .slice none 0 0, .slice a2 j c2]) := touch_setRow16 _ _ _
        have tse : (wr.setRow w.heap.size #[.int .i64 (c : Int), .int .i64 tf, .bool true, .slice none 0 0, .slice a2 j c2]).heap.size = wr.heap.size := by simp
        have HFR := HDw.out.rd.grownQ tt HDw.out.gw (Nat.le_refl _)
        try simp only [Exit.inBlock, Exit.then]
        refine bodyPost_ret (results_item rfl _ w.heap.size rfl _ _ _ _ _ _ q4) rfl ?_
        rw [HDR.out]
        exact ⟨HFR, none, 0, 0, a2, j, c2, G + 1, rfl, by omega, by rw [tse]; exact hlr, ownB_nil16 _ _ _, by omega, vs, HKA.out.touch tt (by omega)⟩

end Go.Proofs.YtjkkokjojaknkaaDoor
