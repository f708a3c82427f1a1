import Derived.Test.YthncodopdcmfiaaMG1
import Derived.Deep.DeepCutAuto
import Derived.Deep.RegionHeldLaw
import Derived.Deep.CutBlock
namespace Go.Proofs.Ythncodopdcmfiaa
open Go.RowKit Go.Sort

/-- What grow does (shown in another text). -/
def GrowAny : Prop := ∀ (m n : Nat) (own : Bool) (old : Int) (a : Option Addr) (l c : Nat) (ps : List Int) (w : World), 0 < m → m ≤ n → n ≤ 1000 → U64 old → RowU w a l ps → l ≤ 2000 → l ≤ c → c ≤ 9223372036854775807 →
    Calls Try.prog 25 #[.int .i64 m, .int .i64 n, .bool own, .int .u64 old, .slice a l c] w (GrwR (grwR m n own old ps) w)
theorem ext_row (zs : List Int) (m : Int) (h : zs.length ≤ 200) (h0 : 1 ≤ m) (h1 : m ≤ zs.length) : extR zs m = (extL zs m.toNat true, true) := by unfold extR; rw [if_pos ⟨h, h0, h1⟩]
theorem cx_own (zs : List Int) (m : Nat) (h : zs.length ≤ 200) (h0 : 0 < m) (hm : m ≤ zs.length) : cxP (rootL (zs.take m)) m (rootL zs) zs.length (extL zs m true) = true := by
  rw [cxP_impl _ _ m zs.length _ ⟨by omega, by omega, by omega, by omega⟩, both_own _ zs m true _ (Nat.le_refl _) h0 hm (fun _ => rfl)]
  simp
theorem cx_sound (zs : List Int) (m : Int) (old : Int) (ps : List Int) (h : cxP old m (rootL zs) zs.length ps = true) : (1 ≤ m ∧ m ≤ (zs.length : Int)) ∧ (grwR m.toNat zs.length true old ps).ok = true ∧ (old = rootL (zs.take m.toNat) ∨ ClashP (grwR m.toNat zs.length true old ps).list (linksL zs)) := by
  by_cases hh : 1 ≤ (zs.length : Int) ∧ (zs.length : Int) ≤ 200 ∧ 1 ≤ m ∧ m ≤ (zs.length : Int)
  · obtain ⟨m', rfl⟩ := Int.eq_ofNat_of_zero_le (show 0 ≤ m by omega)
    rw [cxP_impl old _ m' zs.length ps hh] at h
    simp only [Bool.and_eq_true, decide_eq_true_eq] at h
    rw [Int.toNat_natCast]
    refine ⟨⟨hh.2.2.1, hh.2.2.2⟩, (grw_both _ m' zs.length true old old ps (Nat.le_refl _) (fun _ => rfl) h.1).1, ?_⟩
    have := grown_or_clash _ zs m' true old old ps (Nat.le_refl _) (by omega) (by omega) (fun _ => rfl) h.1 h.2.2
    rw [h.2.1] at this
    exact this
  · unfold cxP at h
    rw [if_neg hh] at h
    simp at h
/-- What the law has to be checked. -/
structure GS (w : World) (ar : Option Addr) (nr : Nat) (zs : List Int) (old m : Int) (a : Option Addr) (k c : Nat) (qs : List Int) (wx : World) : Prop where
  ou : U64 old
  lo : -1 ≤ m
  hi : m ≤ 400
  row : RowU wx a k qs
  kc : k ≤ c
  cm : c ≤ 9223372036854775807
  k1 : k ≤ 1001
  nl : a = none → c = 0
  rw : RowU wx ar nr zs
  bl : Below w.heap.size w wx

set_option maxRecDepth 10000 in
set_option maxHeartbeats 400000 in
theorem byteAt_fix (a : Option Addr) (n cap : Nat) (bs : List Int) (i m : Nat) (hm0 : 0 < m) (hm : m ≤ 100000) :
    ∃ v : Nat, v < m ∧ ∀ W, Row W a n bs → Calls Try.prog 23 #[.slice a n cap, .int .i64 i, .int .i64 m] W fun e w' => e = .returned (.int .i64 v) ∧ w' = W := by
  by_cases hin : i < n
  · refine ⟨(bs.getD i 0).toNat % m, Nat.mod_lt _ hm0, fun w h => ?_⟩
    obtain ⟨b, off, rfl, hlb, hc⟩ := h.get i hin
    have hxb := h.byte i
    obtain ⟨x, hx⟩ : ∃ x, x = bs.getD i 0 := ⟨_, rfl⟩
    rw [← hx] at hc hxb ⊢
    clear hx h
    obtain ⟨y, rfl⟩ := Int.eq_ofNat_of_zero_le hxb.1
    rw [Int.toNat_natCast]
    have h1 : ¬ (n : Int) ≤ (i : Int) := by omega
    have h2 : (i : Int) < (n : Int) := by omega
    have hm1 : ¬ (m : Int) = 0 := by omega
    obtain ⟨R, hR⟩ : ∃ R, R = y % m := ⟨_, rfl⟩
    have hv : (y : Int) % (m : Int) = (R : Int) := by rw [hR]; exact (Int.natCast_emod _ _).symm
    have hRm : R < m := by rw [hR]; exact Nat.mod_lt _ hm0
    rw [← hR]
    clear hR
    go_enter Try.func23, Try.ntmps23
    go_wp2
    go_ret
    exact ⟨rfl, rfl⟩
  · refine ⟨0, hm0, fun w h => ?_⟩
    have h1 : (n : Int) ≤ (i : Int) := by omega
    clear h
    go_enter Try.func23, Try.ntmps23
    go_wp2
    go_ret
    exact ⟨rfl, rfl⟩

set_option maxRecDepth 20000 in
set_option maxHeartbeats 16000000 in
theorem lawGrown_walk (GA : GrowAny) (a : Option Addr) (n cap : Nat) (bz : List Int) (a2 : Option Addr) (n2 cap2 : Nat) (bz2 : List Int) (w : World) (hr : IsRow .u8 w a n cap bz) (hr2 : IsRow .u8 w a2 n2 cap2 bz2) :
    Calls Try.prog 4 #[.slice a n cap, .slice a2 n2 cap2] w fun e w' => e = .returned (.bool true) ∧ Below w.heap.size w w' := by
  obtain ⟨i0, hi, hz0, hz1, hz2⟩ := info_parts Try.infoU
  obtain ⟨hrow, hmax⟩ := hr.row
  obtain ⟨hrow2, hmax2⟩ := hr2.row
  obtain ⟨bs, hbs⟩ : ∃ bs, bs = bz.take n := ⟨_, rfl⟩
  obtain ⟨bs2, hbs2⟩ : ∃ bs2, bs2 = bz2.take n2 := ⟨_, rfl⟩
  rw [← hbs] at hrow
  rw [← hbs2] at hrow2
  clear hbs hbs2 hr hr2
  unfold maxLen at hmax hmax2
  have H0 : Hid (Row w a n bs) := hrow
  have H2 : Hid (Row w a2 n2 bs2) := hrow2
  have HGA : Hid GrowAny := GA
  clear hrow hrow2 GA
  by_cases hbig : 1048576 < n
  · have hd : decide (1048576 < n) = true := decide_eq_true hbig
    go_enter Try.func4, Try.ntmps4
    go_wp2_with fail
    refine (big_anyQ a n cap _ (by omega)).mono ?_
    rintro e w1 ⟨rfl, hw⟩
    have hw2 := hw.symm
    subst hw2
    rw [hd]
    go_wp2
    go_ret
    exact ⟨rfl, Below.refl _ _⟩
  have hd : decide (1048576 < n) = false := decide_eq_false hbig
  by_cases hbig2 : 1048576 < n2
  · have hd2 : decide (1048576 < n2) = true := decide_eq_true hbig2
    go_enter Try.func4, Try.ntmps4
    go_wp2_with fail
    refine (big_anyQ a n cap _ (by omega)).mono ?_
    rintro e w1 ⟨rfl, hw⟩
    have hw2 := hw.symm
    subst hw2
    rw [hd]
    go_wp2_with fail
    refine (big_anyQ a2 n2 cap2 _ (by omega)).mono ?_
    rintro e w1 ⟨rfl, hw⟩
    have hw2 := hw.symm
    subst hw2
    rw [hd2]
    go_wp2
    go_ret
    exact ⟨rfl, Below.refl _ _⟩
  have hd2 : decide (1048576 < n2) = false := decide_eq_false hbig2
  have hn : n ≤ 1000000000 := by omega
  go_enter Try.func4, Try.ntmps4
  go_wp2_with fail
  refine (big_anyQ a n cap _ (by omega)).mono ?_
  rintro e w1 ⟨rfl, hw⟩
  have hw2 := hw.symm
  subst hw2
  rw [hd]
  go_wp2_with fail
  refine (big_anyQ a2 n2 cap2 _ (by omega)).mono ?_
  rintro e w1 ⟨rfl, hw⟩
  have hw2 := hw.symm
  subst hw2
  rw [hd2]
  clear hd hd2
  go_wp2_with fail
  refine (drawExtend_any a n cap bs _ H0.out hn).mono ?_
  rintro e w1 ⟨ar, nr, cr, zs, ii, rfl, hnr, hii0, hii1, hor, hb1⟩
  have hcr := hor.caps
  have HX1 : Hid (RowU w1 ar nr zs) := hor.toRow
  have HLN : Hid (zs.length = nr) := hor.len
  clear hor
  go_wp2_with fail
  refine (implLogRoot_any ar nr cr zs _ HX1.out).mono ?_
  rintro e w2 ⟨rfl, hb2⟩
  have B2 := keepT hb1 hb2
  have HX2 : Hid (RowU w2 ar nr zs) := HX1.out.kept hb2
  obtain ⟨t, ht⟩ : ∃ t, t = lrR zs := ⟨_, rfl⟩
  have HT : Hid (t = lrR zs) := ht
  rw [← ht]
  clear ht HX1 hb1 hb2
  obtain ⟨root, ok⟩ := t
  go_wp2_with fail
  refine (specLogRoot_any ar nr cr zs _ HX2.out hcr.1 hcr.2).mono ?_
  rintro e w3 ⟨rfl, hb3⟩
  rw [← HT.out]
  have B3 := keepT B2 hb3
  have HX3 : Hid (RowU w3 ar nr zs) := HX2.out.kept hb3
  clear HX2 hb3
  have y1 : (ok != ok) = false := by simp
  have y2 : (root != root) = false := by simp
  by_cases hsm : 0 < nr ∧ nr ≤ 60
  · obtain ⟨hs0, hs60⟩ := hsm
    have hTR : lrR zs = (rootL zs, true) := by unfold lrR; rw [if_pos (by rw [HLN.out]; omega)]
    have hrr := HT.out.trans hTR
    simp only [Prod.mk.injEq] at hrr
    obtain ⟨hroot, hok⟩ := hrr
    subst hok
    have HRT : Hid (root = rootL zs) := hroot
    clear hroot hTR HT
    have x1 : ¬ (nr : Int) = 0 := by omega
    have x1' : ((nr : Int) == 0) = false := by simp; omega
    have x2 : ¬ (60 : Int) < (nr : Int) := by omega
    obtain ⟨b, off, rfl, hlb, _⟩ := HX3.out.get 0 (by omega)
    clear y1
    go_wp2
    go_loopw [12] (fun v wr => ∃ k : Nat, 0 < k ∧ k ≤ nr + 1 ∧ v = .int .i64 k ∧ Hid (RowU wr (some ⟨b, off, none⟩) nr zs) ∧ Below w.heap.size w wr) (fun v _ => nr + 1 - (intOf v).toNat)
    case atStart => exact ⟨1, by decide, by omega, rfl, HX3, B3⟩
    case round =>
      obtain ⟨k, hk0, hk, rfl, HX, hbr⟩ := hrel
      clear HX3 B3
      by_cases hkn : k ≤ nr
      · have hkni : (k : Int) ≤ (nr : Int) := by omega
        have hkc : (k : Int) ≤ (cr : Int) := by omega
        have hin := ext_row zs k (by rw [HLN.out]; omega) (by omega) (by rw [HLN.out]; omega)
        rw [Int.toNat_natCast] at hin
        have hlen := extL_len _ zs k true (Nat.le_refl _)
        obtain ⟨ps, hps⟩ : ∃ ps, ps = extL zs k true := ⟨_, rfl⟩
        obtain ⟨L, hL⟩ : ∃ L, L = ps.length := ⟨_, rfl⟩
        rw [← hps] at hin hlen
        rw [HLN.out] at hlen
        have hL8 : L ≤ 61 := by omega
        have im := fun W (hW : RowU W (some ⟨b, off, none⟩) nr zs) => implExtend_any (some ⟨b, off, none⟩) nr cr zs k W hW (by omega) hcr.1 hcr.2
        rw [hin] at im
        simp only [← hL] at im
        have IM : Hid (_) := im
        have hlr : lrR (zs.take k) = (rootL (zs.take k), true) := by unfold lrR; rw [if_pos (by rw [List.length_take, HLN.out]; omega)]
        have hou := rootL_bd (zs.take k) (u64_take HX.out.rng k)
        obtain ⟨o, ho⟩ : ∃ o, o = rootL (zs.take k) := ⟨_, rfl⟩
        rw [← ho] at hlr hou
        have HLR : Hid (lrR (zs.take k) = (o, true)) := hlr
        have HCX : Hid (cxP o (k : Int) root (nr : Int) ps = true) := by
          show _ = _
          rw [HRT.out, hps, ho, ← HLN.out]
          exact cx_own zs k (by rw [HLN.out]; omega) hk0 (by rw [HLN.out]; exact hkn)
        clear hin hps im hL hlr ho hlen
        go_wp2_with fail
        refine (implLogRoot_any (some ⟨b, off, none⟩) k cr (zs.take k) _ (HX.out.take k hkn)).mono ?_
        rintro e w4 ⟨rfl, hb4⟩
        rw [HLR.out]
        have HX4 : Hid (RowU w4 (some ⟨b, off, none⟩) nr zs) := HX.out.kept hb4
        have B4 := keepT hbr hb4
        clear HX hbr hb4
        go_wp2_with fail
        refine (IM.out _ HX4.out).mono ?_
        rintro e w5 ⟨ap, cp, rfl, hop, hb5⟩
        have hcp := hop.caps
        have HOP : Hid (RowU w5 ap L ps) := hop.toRow
        have HX5 : Hid (RowU w5 (some ⟨b, off, none⟩) nr zs) := HX4.out.kept hb5
        have B5 := keepT B4 hb5
        clear hop HX4 hb5 B4
        go_wp2_with fail
        refine (implCheckExtend_any o (k : Int) root (nr : Int) ap L cp ps _ hou HOP.out hcp.1 hcp.2).mono ?_
        rintro e w6 ⟨rfl, hb6⟩
        rw [HCX.out]
        have HX6 : Hid (RowU w6 (some ⟨b, off, none⟩) nr zs) := HX5.out.kept hb6
        have B6 := keepT B5 hb6
        clear HOP HX5 hb6 B5
        go_wp2
        go_roundw
        case rel => exact ⟨k + 1, by omega, by omega, by go_num, HX6, B6⟩
        case measure => simp [intOf]; omega
      · have hkn2 : ¬ (k : Int) ≤ (nr : Int) := by omega
        go_wp2_with fail
        refine (drawCheckExtend_any a n cap bs _ (H0.out.kept hbr) hn).mono ?_
        rintro e w4 ⟨old0, m0, r0, n0, aq, kq, cq, qs, rfl, hou0, hm0, hm1, hqr, hq1, hq2, hq3, hq4, hb4⟩
        have B4 := keepT hbr hb4
        have HX4 : Hid (RowU w4 (some ⟨b, off, none⟩) nr zs) := HX.out.kept hb4
        have HS4 : Hid (GS w (some ⟨b, off, none⟩) nr zs old0 m0 aq kq cq qs w4) := ⟨hou0, hm0, hm1, hqr, hq1, hq2, hq3, hq4, HX4.out, B4⟩
        have H24 : Hid (Row w4 a2 n2 bs2) := H2.out.kept B4
        clear hqr hq4 HX hbr hb4 hq1 hq2 hq3 hm0 hm1
        go_wp2_with fail
        refine (byteAt_ex a2 n2 cap2 bs2 0 3 _ H24.out (by decide) (by decide)).mono ?_
        rintro e w5 ⟨v, rfl, hv3, hw⟩
        have hw2 := hw.symm
        subst hw2
        by_cases hv0 : v = 0
        · subst hv0
          by_cases hn1 : nr = 1
          · have hn1i : ¬ (1 : Int) < (nr : Int) := by omega
            clear hn1
            have HOE : Hid (OwnU w4.heap.size (w4.alloc (.cells #[] 27)) (some ⟨w4.heap.size, 0, none⟩) 0 0 []) := ownU_empty w4
            have hbe : Below w4.heap.size w4 (w4.alloc (.cells #[] 27)) := (Below.refl _ _).alloc (Nat.le_refl _) _
            have hk1x := HS4.out.k1
            go_wp2_with (first | (refine wpList_append_rowU _ rfl (.tmp 152) (.tmp 153) 24 rfl w4.heap.size i0 Try.underlying24 hi hz0 hz1 hz2 _ 0 _ rfl HOE.out.row aq kq cq qs rfl (HS4.out.row.kept hbe) HS4.out.nl (by omega) (by simp) ?_; intro v20 w20 hv20 hg20))
            rw [Nat.zero_add, List.map_nil, List.nil_append] at hv20
            obtain ⟨a20, c20, rfl, ho20⟩ := ownU_appended HS4.out.row.rng hv20
            have hs20 : Below w4.heap.size w4 w20 := hbe.grown hg20 hbe.size (fun k hk => (HOE.out.row.lt k hk).1)
            have B20 : Below w.heap.size w w20 := keepT HS4.out.bl hs20
            have HX20 : Hid (RowU w20 (some ⟨b, off, none⟩) nr zs) := HS4.out.rw.kept hs20
            have HQ20 : Hid (RowU w20 aq kq qs) := HS4.out.row.kept hs20
            have hc20 := ho20.caps
            have HO20 : Hid (RowU w20 a20 kq qs) := ho20.toRow
            have hkc := HS4.out.kc
            have hcm := HS4.out.cm
            have hou := HS4.out.ou
            have hmlo := HS4.out.lo
            have hmhi := HS4.out.hi
            clear hv20 hg20 ho20 HOE hbe hs20
            obtain ⟨tt, htt⟩ : ∃ tt, tt = cxP old0 m0 root (nr : Int) qs := ⟨_, rfl⟩
            have HTT : Hid (tt = cxP old0 m0 root (nr : Int) qs) := htt
            have ci := fun W (hW : RowU W a20 kq qs) => implCheckExtend_any old0 m0 root (nr : Int) a20 kq c20 qs W hou hW hc20.1 hc20.2
            rw [← htt] at ci
            have CI : Hid (_) := ci
            clear htt ci
            go_wp2_with fail
            refine (CI.out _ HO20.out).mono ?_
            rintro e w21 ⟨rfl, hb21⟩
            have B21 := keepT B20 hb21
            have HX21 : Hid (RowU w21 (some ⟨b, off, none⟩) nr zs) := HX20.out.kept hb21
            have HQ21 : Hid (RowU w21 aq kq qs) := HQ20.out.kept hb21
            clear HX20 HQ20 HO20 CI B20 hb21
            cases tt with
            | false =>
              go_wp2_with fail
              refine (lives_any _).mono ?_
              rintro e w22 ⟨rfl, hb22⟩
              go_wp2
              go_ret
              exact ⟨rfl, keepT B21 hb22⟩
            | true =>
              have hsd := cx_sound zs m0 old0 qs (by rw [HLN.out, ← HRT.out]; exact HTT.out.symm)
              rw [HLN.out] at hsd
              obtain ⟨hrg, hgok, hcl⟩ := hsd
              obtain ⟨mq, hmq⟩ := Int.eq_ofNat_of_zero_le (show 0 ≤ m0 by omega)
              rw [hmq, Int.toNat_natCast] at hgok hcl
              rw [hmq] at hrg ⊢
              have hmqr : mq ≤ nr := by omega
              have hmqc : (mq : Int) ≤ (cr : Int) := by omega
              have hlr : lrR (zs.take mq) = (rootL (zs.take mq), true) := by unfold lrR; rw [if_pos (by rw [List.length_take, HLN.out]; omega)]
              obtain ⟨wt, hwt⟩ : ∃ wt, wt = rootL (zs.take mq) := ⟨_, rfl⟩
              rw [← hwt] at hlr hcl
              have HLR : Hid (lrR (zs.take mq) = (wt, true)) := hlr
              have hgk := grwR_ok nr mq nr true old0 qs (Nat.le_refl _) hou HQ21.out.rng
              have GAx : Hid (_) := fun W (hW : Below w21.heap.size w21 W) => HGA.out mq nr true old0 aq kq cq qs W (by omega) hmqr (by omega) hou (HQ21.out.kept hW) (by omega) hkc hcm
              obtain ⟨g, hg⟩ : ∃ g, g = grwR mq nr true old0 qs := ⟨_, rfl⟩
              rw [← hg] at hgok hcl hgk GAx
              obtain ⟨gold, gall, gl, gk⟩ := g
              have hgk1 : gk = true := hgok
              subst hgk1
              have HUG : Hid (UK gl) := hgk.2.2.1
              have hgll : gl.length ≤ 3000 := by have := hgk.2.2.2; rw [HQ21.out.len] at this; have : gl.length ≤ 2 * kq := this; omega
              have HCL : Hid (old0 = wt ∨ ClashP gl (linksL zs)) := hcl
              have HLU : Hid (UK (linksL zs)) := linksL_uk _ zs (Nat.le_refl _) HX21.out.rng
              have hll : (linksL zs).length ≤ 200 := by have := linksL_len _ zs (Nat.le_refl _) (by rw [HLN.out]; omega); rw [HLN.out] at this; omega
              clear hgok hgk hg hlr hwt hcl hmq
              go_wp2_with fail
              refine (in_t (mq : Int) 1 (nr : Int) _ hrg).mono ?_
              rintro e w22 ⟨rfl, hw⟩
              have hw2 := hw.symm
              subst hw2
              go_wp2_with fail
              refine (implLogRoot_any (some ⟨b, off, none⟩) mq cr (zs.take mq) _ (HX21.out.take mq hmqr)).mono ?_
              rintro e w22 ⟨rfl, hb22⟩
              rw [HLR.out]
              go_wp2_with fail
              refine (GAx.out _ hb22).mono ?_
              rintro e w23 ⟨al, cl, ar2, nr2, cr2, rfl, hol, hb23⟩
              have hol' : OwnK w22.heap.size w23 al gl.length cl gl := hol
              have HOL : Hid (RowK w23 al gl.length gl) := hol'.toRow
              have b123 := keepT hb22 hb23
              have B23 := keepT B21 b123
              have HX23 : Hid (RowU w23 (some ⟨b, off, none⟩) nr zs) := HX21.out.kept b123
              clear hol hol' HX21 HQ21 B21 GAx
              unfold grv
              simp only []
              obtain ⟨w24, hw24⟩ : ∃ w24, w24 = w23.alloc (.cells #[.int .u64 gold, .int .u64 gall, .slice al gl.length cl, .slice ar2 nr2 cr2, .bool true] 47) := ⟨_, rfl⟩
              have hb24 : Below w23.heap.size w23 w24 := by rw [hw24]; exact (Below.refl _ _).alloc (Nat.le_refl _) _
              have hG24 : w24.heap[w23.heap.size]? = some (.cells #[.int .u64 gold, .int .u64 gall, .slice al gl.length cl, .slice ar2 nr2 cr2, .bool true] 47) := by rw [hw24]; exact heap_alloc_new _ _
              have e2 : w24.cell? ⟨w23.heap.size, 2, none⟩ = some (.slice al gl.length cl) := (cell_of_row _ _ 2 _ 47 (0, 0) hG24).trans rfl
              have e4 : w24.cell? ⟨w23.heap.size, 4, none⟩ = some (.bool true) := (cell_of_row _ _ 4 _ 47 (0, 0) hG24).trans rfl
              have hlt24 : w23.heap.size < w24.heap.size := (Array.getElem?_eq_some_iff.1 hG24).1
              have B24 := keepT B23 hb24
              have HX24 : Hid (RowU w24 (some ⟨b, off, none⟩) nr zs) := HX23.out.kept hb24
              have HOL24 : Hid (RowK w24 al gl.length gl) := HOL.out.kept hb24
              have HW24 : Hid (_ = _) := hw24
              clear hw24 hG24 HX23 HOL hb24 b123 hb22 hb23
              go_upto_region 32 with fail
              rw [← HW24.out]
              clear HW24
              have HXD : Hid (∀ W, Below w24.heap.size w24 W → W.cell? ⟨w23.heap.size, 2, none⟩ = some (.slice al gl.length cl) ∧ W.cell? ⟨w23.heap.size, 4, none⟩ = some (.bool true)) := fun W hW => ⟨(hW.cell (p := ⟨w23.heap.size, 2, none⟩) hlt24).trans e2, (hW.cell (p := ⟨w23.heap.size, 4, none⟩) hlt24).trans e4⟩
              have SS0 := HXD.out _ (Below.refl _ _)
              have hdr : Below w24.heap.size w24 w24.drew := (Below.refl _ _).drew
              have SS1 := HXD.out _ hdr
              have LK : Hid (_) := fun W (hW : Below w24.heap.size w24 W) => links_any nr (some ⟨b, off, none⟩) nr cr zs W (Nat.le_refl _) (HX24.out.kept hW) (by omega) hcr.1 hcr.2
              by_cases how : old0 = wt
              · have zo : (old0 == wt) = true := by simpa using how
                clear how HCL
                have ca0 : Hid (∀ d os, Calls Try.prog 11 #[] (grow (redrawn w24 d) os) fun e w'' => e = .returned (.bool true) ∧ ∃ p : Regrown, w'' = grow (redrawn w24 p.d) p.os) := fun d os => Calls.regrown_of (lives_any _)
                have qe4 := cell_regrown SS0.2
                clear SS0 SS1
                refine wp_region_quiet_below (by kernel_rfl) (by kernel_rfl) ?_
                go_big_quiet_step (exact ca0.out _ _)
                iterate 17 (go_big_quiet_step (fail))
                refine wpQuiet_nil ?_
                intro _ hw'
                obtain ⟨⟨dq, osq⟩, hw''⟩ := hw'
                subst hw''
                have HBQ : Hid (Below w.heap.size w (grow (redrawn w24 dq) osq)) := keepT B24 (below_regrown w24 dq osq)
                go_wp2
                go_ret
                exact ⟨rfl, HBQ.out⟩
              · have zo : (old0 == wt) = false := by simpa using how
                have HCC : Hid (ClashP gl (linksL zs)) := by rcases HCL.out with h | h; exact absurd h how; exact h
                clear how HCL
                first
                  | go_region_held_law (fun w' => w'.cell? ⟨w23.heap.size, 2, none⟩ = some (.slice al gl.length cl) ∧ w'.cell? ⟨w23.heap.size, 4, none⟩ = some (.bool true)) (first | assumption | exact SS0 | exact SS1 | exact SS2 | exact SS3 | exact SS4) (first
                      | (go_at_call 11; refine (lives_any _).mono ?_; rintro e w25 ⟨rfl, hb25⟩; have b25 := keepT hdr hb25; have SS2 := HXD.out _ b25)
                      | (go_at_call 18; refine (LK.out _ b25).mono ?_; rintro e w26 ⟨g26, c26, rfl, ho26, hb26⟩; have b26 := keepT b25 hb26; have SS3 := HXD.out _ b26; have HL26 : Hid (RowK w26 (some ⟨g26, 0, none⟩) (linksL zs).length (linksL zs)) := ho26.toRow; have HO26 := HOL24.out.kept b26)
                      | (go_at_call 16; refine (clash_any al (some ⟨g26, 0, none⟩) gl.length (linksL zs).length cl c26 gl (linksL zs) _ HO26 HL26.out HUG.out HLU.out (by omega) (by omega) HCC.out).mono ?_; rintro e w27 ⟨rfl, hb27⟩; have b27 := keepT b26 hb27; have SS4 := HXD.out _ b27))
                  | fail
                all_goals
                  have HBQ : Hid (Below w.heap.size w w27) := keepT B24 b27
                  go_wp2
                  go_ret
                  exact ⟨by simp [Array.getD], HBQ.out⟩
          · have hnr1 : (1 : Int) < (nr : Int) := by omega
            go_wp2_with fail
            refine (byteAt_ex a2 n2 cap2 bs2 1 nr _ H24.out (by omega) (by omega)).mono ?_
            rintro e w5 ⟨v1, rfl, hv1, hw⟩
            have hw2 := hw.symm
            subst hw2
            obtain ⟨mx, hmx⟩ : ∃ mx : Nat, (mx : Int) = 1 + (v1 : Int) := ⟨v1 + 1, by omega⟩
            have hmx1 : 0 < mx := by omega
            have hmx2 : mx ≤ nr := by omega
            have hin := ext_row zs (mx : Int) (by rw [HLN.out]; omega) (by omega) (by rw [HLN.out]; omega)
            rw [Int.toNat_natCast] at hin
            have hlen := extL_len _ zs mx true (Nat.le_refl _)
            obtain ⟨ps0, hps⟩ : ∃ ps0, ps0 = extL zs mx true := ⟨_, rfl⟩
            obtain ⟨L, hL⟩ : ∃ L, L = ps0.length := ⟨_, rfl⟩
            rw [← hps] at hin hlen
            rw [HLN.out] at hlen
            have hL8 : L ≤ 61 := by omega
            have im := fun W (hW : RowU W (some ⟨b, off, none⟩) nr zs) => specExtend_any (some ⟨b, off, none⟩) nr cr zs (mx : Int) W hW (by omega) hcr.1 hcr.2
            rw [hin] at im
            simp only [← hL] at im
            have IM : Hid (_) := im
            clear hin hps im hL hlen
            go_wp2_with fail
            rw [← hmx]
            clear hmx
            refine (IM.out _ HS4.out.rw).mono ?_
            rintro e w6 ⟨ap, cp, rfl, hop, hb6⟩
            have hou0' := HS4.out.ou
            have hcp := hop.caps
            have HOP : Hid (OwnU w4.heap.size w6 ap L cp ps0) := hop
            have H26 : Hid (Row w6 a2 n2 bs2) := H24.out.kept hb6
            have hs6 := hb6.size
            have hb46 : Hid (Below w4.heap.size w4 w6) := hb6
            clear hop hb6 IM
            by_cases hL0 : L = 0
            · have hl0 : ¬ (0 : Int) < (L : Int) := by omega
              clear hL0
              have HXa : Hid (RowU w6 (some ⟨b, off, none⟩) nr zs) := HS4.out.rw.kept hb46.out
              have Ba := keepT HS4.out.bl hb46.out
              have HRa : Hid (RowU w6 ap L ps0) := HOP.out.toRow
              have hnil := HOP.out.nilc
              have GA0 : Hid (_) := fun W (hW : RowU W ap L ps0) => HGA.out mx nr true old0 ap L cp ps0 W (by omega) (by omega) (by omega) hou0' hW (by omega) hcp.1 hcp.2
              have hgk0 := grwR_ok nr mx nr true old0 ps0 (Nat.le_refl _) hou0' HRa.out.rng
              obtain ⟨g0, hg0⟩ : ∃ g0, g0 = grwR mx nr true old0 ps0 := ⟨_, rfl⟩
              rw [← hg0] at hgk0 GA0
              clear hg0
              obtain ⟨ox, gall0, gl0, gk0⟩ := g0
              have hoxu : U64 ox := hgk0.1
              clear hgk0
              go_wp2_with fail
              refine (GA0.out _ HRa.out).mono ?_
              rintro e w17 ⟨al0, cl0, ar0, nr0, cr0, rfl, hol0, hb17⟩
              clear hol0 GA0
              unfold grv
              simp only []
              obtain ⟨w19, hw19⟩ : ∃ w19, w19 = w17.alloc (.cells #[.int .u64 ox, .int .u64 gall0, .slice al0 gl0.length cl0, .slice ar0 nr0 cr0, .bool gk0] 47) := ⟨_, rfl⟩
              have hb19 : Below w17.heap.size w17 w19 := by rw [hw19]; exact (Below.refl _ _).alloc (Nat.le_refl _) _
              have e0 : (w17.alloc (.cells #[.int .u64 ox, .int .u64 gall0, .slice al0 gl0.length cl0, .slice ar0 nr0 cr0, .bool gk0] 47)).cell? ⟨w17.heap.size, 0, none⟩ = some (.int .u64 ox) := (cell_of_row _ _ 0 _ 47 (0, 0) (heap_alloc_new _ _)).trans rfl
              have b1819 := keepT hb17 hb19
              have HS9 : Hid (GS w (some ⟨b, off, none⟩) nr zs ox (mx : Int) ap L cp ps0 w19) := ⟨hoxu, by omega, by omega, HRa.out.kept b1819, hcp.1, hcp.2, by omega, hnil, HXa.out.kept b1819, keepT Ba b1819⟩
              have HW19 : Hid (_ = _) := hw19
              clear hw19 hb19 b1819 hb17 HRa HXa Ba hnil hoxu
              go_upto_region 26 with fail
              rw [← HW19.out]
              clear HW19 e0
              have HOE : Hid (OwnU w19.heap.size (w19.alloc (.cells #[] 27)) (some ⟨w19.heap.size, 0, none⟩) 0 0 []) := ownU_empty w19
              have hbe : Below w19.heap.size w19 (w19.alloc (.cells #[] 27)) := (Below.refl _ _).alloc (Nat.le_refl _) _
              have hk1x := HS9.out.k1
              go_wp2_with (first | (refine wpList_append_rowU _ rfl (.tmp 152) (.tmp 153) 24 rfl w19.heap.size i0 Try.underlying24 hi hz0 hz1 hz2 _ 0 _ rfl HOE.out.row ap L cp ps0 rfl (HS9.out.row.kept hbe) HS9.out.nl (by omega) (by simp) ?_; intro v20 w20 hv20 hg20))
              rw [Nat.zero_add, List.map_nil, List.nil_append] at hv20
              obtain ⟨a20, c20, rfl, ho20⟩ := ownU_appended HS9.out.row.rng hv20
              have hs20 : Below w19.heap.size w19 w20 := hbe.grown hg20 hbe.size (fun k hk => (HOE.out.row.lt k hk).1)
              have B20 : Below w.heap.size w w20 := keepT HS9.out.bl hs20
              have HX20 : Hid (RowU w20 (some ⟨b, off, none⟩) nr zs) := HS9.out.rw.kept hs20
              have HQ20 : Hid (RowU w20 ap L ps0) := HS9.out.row.kept hs20
              have hc20 := ho20.caps
              have HO20 : Hid (RowU w20 a20 L ps0) := ho20.toRow
              have hkc := HS9.out.kc
              have hcm := HS9.out.cm
              have hou := HS9.out.ou
              have hmlo := HS9.out.lo
              have hmhi := HS9.out.hi
              clear hv20 hg20 ho20 HOE hbe hs20
              obtain ⟨tt, htt⟩ : ∃ tt, tt = cxP ox (mx : Int) root (nr : Int) ps0 := ⟨_, rfl⟩
              have HTT : Hid (tt = cxP ox (mx : Int) root (nr : Int) ps0) := htt
              have ci := fun W (hW : RowU W a20 L ps0) => implCheckExtend_any ox (mx : Int) root (nr : Int) a20 L c20 ps0 W hou hW hc20.1 hc20.2
              rw [← htt] at ci
              have CI : Hid (_) := ci
              clear htt ci
              go_wp2_with fail
              refine (CI.out _ HO20.out).mono ?_
              rintro e w21 ⟨rfl, hb21⟩
              have B21 := keepT B20 hb21
              have HX21 : Hid (RowU w21 (some ⟨b, off, none⟩) nr zs) := HX20.out.kept hb21
              have HQ21 : Hid (RowU w21 ap L ps0) := HQ20.out.kept hb21
              clear HX20 HQ20 HO20 CI B20 hb21
              cases tt with
              | false =>
                go_wp2_with fail
                refine (lives_any _).mono ?_
                rintro e w22 ⟨rfl, hb22⟩
                go_wp2
                go_ret
                exact ⟨rfl, keepT B21 hb22⟩
              | true =>
                have hsd := cx_sound zs (mx : Int) ox ps0 (by rw [HLN.out, ← HRT.out]; exact HTT.out.symm)
                rw [HLN.out] at hsd
                obtain ⟨hrg, hgok, hcl⟩ := hsd
                obtain ⟨mq, hmq⟩ := Int.eq_ofNat_of_zero_le (show 0 ≤ (mx : Int) by omega)
                rw [hmq, Int.toNat_natCast] at hgok hcl
                rw [hmq] at hrg ⊢
                have hmqr : mq ≤ nr := by omega
                have hmqc : (mq : Int) ≤ (cr : Int) := by omega
                have hlr : lrR (zs.take mq) = (rootL (zs.take mq), true) := by unfold lrR; rw [if_pos (by rw [List.length_take, HLN.out]; omega)]
                obtain ⟨wt, hwt⟩ : ∃ wt, wt = rootL (zs.take mq) := ⟨_, rfl⟩
                rw [← hwt] at hlr hcl
                have HLR : Hid (lrR (zs.take mq) = (wt, true)) := hlr
                have hgk := grwR_ok nr mq nr true ox ps0 (Nat.le_refl _) hou HQ21.out.rng
                have GAx : Hid (_) := fun W (hW : Below w21.heap.size w21 W) => HGA.out mq nr true ox ap L cp ps0 W (by omega) hmqr (by omega) hou (HQ21.out.kept hW) (by omega) hkc hcm
                obtain ⟨g, hg⟩ : ∃ g, g = grwR mq nr true ox ps0 := ⟨_, rfl⟩
                rw [← hg] at hgok hcl hgk GAx
                obtain ⟨gold, gall, gl, gk⟩ := g
                have hgk1 : gk = true := hgok
                subst hgk1
                have HUG : Hid (UK gl) := hgk.2.2.1
                have hgll : gl.length ≤ 3000 := by have := hgk.2.2.2; rw [HQ21.out.len] at this; have : gl.length ≤ 2 * L := this; omega
                have HCL : Hid (ox = wt ∨ ClashP gl (linksL zs)) := hcl
                have HLU : Hid (UK (linksL zs)) := linksL_uk _ zs (Nat.le_refl _) HX21.out.rng
                have hll : (linksL zs).length ≤ 200 := by have := linksL_len _ zs (Nat.le_refl _) (by rw [HLN.out]; omega); rw [HLN.out] at this; omega
                clear hgok hgk hg hlr hwt hcl hmq
                go_wp2_with fail
                refine (in_t (mq : Int) 1 (nr : Int) _ hrg).mono ?_
                rintro e w22 ⟨rfl, hw⟩
                have hw2 := hw.symm
                subst hw2
                go_wp2_with fail
                refine (implLogRoot_any (some ⟨b, off, none⟩) mq cr (zs.take mq) _ (HX21.out.take mq hmqr)).mono ?_
                rintro e w22 ⟨rfl, hb22⟩
                rw [HLR.out]
                go_wp2_with fail
                refine (GAx.out _ hb22).mono ?_
                rintro e w23 ⟨al, cl, ar2, nr2, cr2, rfl, hol, hb23⟩
                have hol' : OwnK w22.heap.size w23 al gl.length cl gl := hol
                have HOL : Hid (RowK w23 al gl.length gl) := hol'.toRow
                have b123 := keepT hb22 hb23
                have B23 := keepT B21 b123
                have HX23 : Hid (RowU w23 (some ⟨b, off, none⟩) nr zs) := HX21.out.kept b123
                clear hol hol' HX21 HQ21 B21 GAx
                unfold grv
                simp only []
                obtain ⟨w24, hw24⟩ : ∃ w24, w24 = w23.alloc (.cells #[.int .u64 gold, .int .u64 gall, .slice al gl.length cl, .slice ar2 nr2 cr2, .bool true] 47) := ⟨_, rfl⟩
                have hb24 : Below w23.heap.size w23 w24 := by rw [hw24]; exact (Below.refl _ _).alloc (Nat.le_refl _) _
                have hG24 : w24.heap[w23.heap.size]? = some (.cells #[.int .u64 gold, .int .u64 gall, .slice al gl.length cl, .slice ar2 nr2 cr2, .bool true] 47) := by rw [hw24]; exact heap_alloc_new _ _
                have e2 : w24.cell? ⟨w23.heap.size, 2, none⟩ = some (.slice al gl.length cl) := (cell_of_row _ _ 2 _ 47 (0, 0) hG24).trans rfl
                have e4 : w24.cell? ⟨w23.heap.size, 4, none⟩ = some (.bool true) := (cell_of_row _ _ 4 _ 47 (0, 0) hG24).trans rfl
                have hlt24 : w23.heap.size < w24.heap.size := (Array.getElem?_eq_some_iff.1 hG24).1
                have B24 := keepT B23 hb24
                have HX24 : Hid (RowU w24 (some ⟨b, off, none⟩) nr zs) := HX23.out.kept hb24
                have HOL24 : Hid (RowK w24 al gl.length gl) := HOL.out.kept hb24
                have HW24 : Hid (_ = _) := hw24
                clear hw24 hG24 HX23 HOL hb24 b123 hb22 hb23
                go_upto_region 32 with fail
                rw [← HW24.out]
                clear HW24
                have HXD : Hid (∀ W, Below w24.heap.size w24 W → W.cell? ⟨w23.heap.size, 2, none⟩ = some (.slice al gl.length cl) ∧ W.cell? ⟨w23.heap.size, 4, none⟩ = some (.bool true)) := fun W hW => ⟨(hW.cell (p := ⟨w23.heap.size, 2, none⟩) hlt24).trans e2, (hW.cell (p := ⟨w23.heap.size, 4, none⟩) hlt24).trans e4⟩
                have SS0 := HXD.out _ (Below.refl _ _)
                have hdr : Below w24.heap.size w24 w24.drew := (Below.refl _ _).drew
                have SS1 := HXD.out _ hdr
                have LK : Hid (_) := fun W (hW : Below w24.heap.size w24 W) => links_any nr (some ⟨b, off, none⟩) nr cr zs W (Nat.le_refl _) (HX24.out.kept hW) (by omega) hcr.1 hcr.2
                by_cases how : ox = wt
                · have zo : (ox == wt) = true := by simpa using how
                  clear how HCL
                  have ca0 : Hid (∀ d os, Calls Try.prog 11 #[] (grow (redrawn w24 d) os) fun e w'' => e = .returned (.bool true) ∧ ∃ p : Regrown, w'' = grow (redrawn w24 p.d) p.os) := fun d os => Calls.regrown_of (lives_any _)
                  have qe4 := cell_regrown SS0.2
                  clear SS0 SS1
                  refine wp_region_quiet_below (by kernel_rfl) (by kernel_rfl) ?_
                  go_big_quiet_step (exact ca0.out _ _)
                  iterate 17 (go_big_quiet_step (fail))
                  refine wpQuiet_nil ?_
                  intro _ hw'
                  obtain ⟨⟨dq, osq⟩, hw''⟩ := hw'
                  subst hw''
                  have HBQ : Hid (Below w.heap.size w (grow (redrawn w24 dq) osq)) := keepT B24 (below_regrown w24 dq osq)
                  go_wp2
                  go_ret
                  exact ⟨rfl, HBQ.out⟩
                · have zo : (ox == wt) = false := by simpa using how
                  have HCC : Hid (ClashP gl (linksL zs)) := by rcases HCL.out with h | h; exact absurd h how; exact h
                  clear how HCL
                  first
                    | go_region_held_law (fun w' => w'.cell? ⟨w23.heap.size, 2, none⟩ = some (.slice al gl.length cl) ∧ w'.cell? ⟨w23.heap.size, 4, none⟩ = some (.bool true)) (first | assumption | exact SS0 | exact SS1 | exact SS2 | exact SS3 | exact SS4) (first
                        | (go_at_call 11; refine (lives_any _).mono ?_; rintro e w25 ⟨rfl, hb25⟩; have b25 := keepT hdr hb25; have SS2 := HXD.out _ b25)
                        | (go_at_call 18; refine (LK.out _ b25).mono ?_; rintro e w26 ⟨g26, c26, rfl, ho26, hb26⟩; have b26 := keepT b25 hb26; have SS3 := HXD.out _ b26; have HL26 : Hid (RowK w26 (some ⟨g26, 0, none⟩) (linksL zs).length (linksL zs)) := ho26.toRow; have HO26 := HOL24.out.kept b26)
                        | (go_at_call 16; refine (clash_any al (some ⟨g26, 0, none⟩) gl.length (linksL zs).length cl c26 gl (linksL zs) _ HO26 HL26.out HUG.out HLU.out (by omega) (by omega) HCC.out).mono ?_; rintro e w27 ⟨rfl, hb27⟩; have b27 := keepT b26 hb27; have SS4 := HXD.out _ b27))
                    | fail
                  all_goals
                    have HBQ : Hid (Below w.heap.size w w27) := keepT B24 b27
                    go_wp2
                    go_ret
                    exact ⟨by simp [Array.getD], HBQ.out⟩
            · have hl0 : (0 : Int) < (L : Int) := by omega
              obtain ⟨v2, hv2, BA2⟩ := byteAt_fix a2 n2 cap2 bs2 2 L (by omega) (by omega)
              obtain ⟨v3, hv3, BA3⟩ := byteAt_fix a2 n2 cap2 bs2 3 2 (by decide) (by decide)
              have HB2 : Hid (_) := BA2
              have HB3 : Hid (_) := BA3
              clear BA2 BA3
              obtain ⟨gp, rfl, hgp, _⟩ := HOP.out.shape (by omega)
              have hd6 : Below w6.heap.size w6 w6.drew := (Below.refl _ _).drew
              have hod : OwnU w4.heap.size w6.drew (some ⟨gp, 0, none⟩) L cp ps0 := HOP.out.kept hd6
              obtain ⟨b', off', e, hlb', hc⟩ := hod.toRow.get v2 hv2
              simp only [Option.some.injEq, Addr.mk.injEq, and_true] at e
              obtain ⟨rfl, rfl⟩ := e
              rw [Nat.zero_add] at hc
              have hfr : w6.drew.frozen? ⟨gp, v2, none⟩ = false := hod.row.frozenAt v2
              obtain ⟨y, hy⟩ : ∃ y, y = ps0.getD v2 0 := ⟨_, rfl⟩
              rw [← hy] at hc
              have hs := (HOP.out.row.stored v2 (.int .u64 (bits .xor .u64 y (IntKind.u64.wrap (v3 : Int))))).1
              rw [← List.map_set] at hs
              obtain ⟨ps, hps⟩ : ∃ ps, ps = ps0.set v2 (bits .xor .u64 y (IntKind.u64.wrap (v3 : Int))) := ⟨_, rfl⟩
              rw [← hps] at hs
              have hpr : ∀ k, U64 (ps.getD k 0) := by rw [hps]; exact u64_set hod.rng v2 (bits_u64_range .xor y (IntKind.u64.wrap (v3 : Int)))
              have ho1 : OwnU w4.heap.size (w6.setCell ⟨gp, v2, none⟩ (.int .u64 (bits .xor .u64 y (IntKind.u64.wrap (v3 : Int))))) (some ⟨gp, 0, none⟩) L cp ps := ⟨hs, hpr⟩
              have HN : Hid (OwnU w4.heap.size (w6.setCell ⟨gp, v2, none⟩ (.int .u64 (bits .xor .u64 y (IntKind.u64.wrap (v3 : Int))))).drew (some ⟨gp, 0, none⟩) L cp ps) := ho1.kept (Below.refl _ _).drew
              have HBN : Hid (Below w4.heap.size w4 (w6.setCell ⟨gp, v2, none⟩ (.int .u64 (bits .xor .u64 y (IntKind.u64.wrap (v3 : Int))))).drew) := (hb46.out.setCell (by simp; omega) _).drew
              have HD6 : Hid (Below w6.heap.size w6 w6.drew) := hd6
              have hv2i : (v2 : Int) < (L : Int) := by omega
              clear hs hpr hps hy hod ho1 HOP hd6 hb46
              have TOK : Hid True := trivial
              go_upto_region 23 with fail
              go_cut [21] (fun s wx => s = .slice (some ⟨gp, 0, none⟩) L cp ∧ (w6.setCell ⟨gp, v2, none⟩ (.int .u64 (bits .xor .u64 y (IntKind.u64.wrap (v3 : Int))))).drew = wx)
              case first =>
                go_region_with (first
                  | (clear TOK; go_at_call 23; refine (HB2.out _ (H26.out.kept HD6.out)).mono ?_; rintro e w7 ⟨rfl, hw⟩; have hw2 := hw.symm; subst hw2)
                  | (go_at_call 23; refine (HB3.out _ (H26.out.kept HD6.out)).mono ?_; rintro e w7 ⟨rfl, hw⟩; have hw2 := hw.symm; subst hw2))
                all_goals
                  go_wp2
                  go_meet
                  exact ⟨rfl, rfl⟩
              case rest =>
                obtain ⟨rfl, hwx⟩ := hcut
                obtain ⟨w18, hw18⟩ : ∃ w18, w18 = (w6.setCell ⟨gp, v2, none⟩ (.int .u64 (bits .xor .u64 y (IntKind.u64.wrap (v3 : Int))))).drew := ⟨_, rfl⟩
                rw [← hw18] at HN HBN hwx
                subst hwx
                clear hw18 hc hfr TOK
                have HXa : Hid (RowU w18 (some ⟨b, off, none⟩) nr zs) := HS4.out.rw.kept HBN.out
                have Ba := keepT HS4.out.bl HBN.out
                have HRa : Hid (RowU w18 (some ⟨gp, 0, none⟩) L ps) := HN.out.toRow
                have hnil := HN.out.nilc
                have GA0 : Hid (_) := fun W (hW : RowU W (some ⟨gp, 0, none⟩) L ps) => HGA.out mx nr true old0 (some ⟨gp, 0, none⟩) L cp ps W (by omega) (by omega) (by omega) hou0' hW (by omega) hcp.1 hcp.2
                have hgk0 := grwR_ok nr mx nr true old0 ps (Nat.le_refl _) hou0' HRa.out.rng
                obtain ⟨g0, hg0⟩ : ∃ g0, g0 = grwR mx nr true old0 ps := ⟨_, rfl⟩
                rw [← hg0] at hgk0 GA0
                clear hg0
                obtain ⟨ox, gall0, gl0, gk0⟩ := g0
                have hoxu : U64 ox := hgk0.1
                clear hgk0
                go_wp2_with fail
                refine (GA0.out _ HRa.out).mono ?_
                rintro e w17 ⟨al0, cl0, ar0, nr0, cr0, rfl, hol0, hb17⟩
                clear hol0 GA0
                unfold grv
                simp only []
                obtain ⟨w19, hw19⟩ : ∃ w19, w19 = w17.alloc (.cells #[.int .u64 ox, .int .u64 gall0, .slice al0 gl0.length cl0, .slice ar0 nr0 cr0, .bool gk0] 47) := ⟨_, rfl⟩
                have hb19 : Below w17.heap.size w17 w19 := by rw [hw19]; exact (Below.refl _ _).alloc (Nat.le_refl _) _
                have e0 : (w17.alloc (.cells #[.int .u64 ox, .int .u64 gall0, .slice al0 gl0.length cl0, .slice ar0 nr0 cr0, .bool gk0] 47)).cell? ⟨w17.heap.size, 0, none⟩ = some (.int .u64 ox) := (cell_of_row _ _ 0 _ 47 (0, 0) (heap_alloc_new _ _)).trans rfl
                have b1819 := keepT hb17 hb19
                have HS9 : Hid (GS w (some ⟨b, off, none⟩) nr zs ox (mx : Int) (some ⟨gp, 0, none⟩) L cp ps w19) := ⟨hoxu, by omega, by omega, HRa.out.kept b1819, hcp.1, hcp.2, by omega, hnil, HXa.out.kept b1819, keepT Ba b1819⟩
                have HW19 : Hid (_ = _) := hw19
                clear hw19 hb19 b1819 hb17 HRa HXa Ba hnil hoxu
                go_upto_region 26 with fail
                rw [← HW19.out]
                clear HW19 e0
                have HOE : Hid (OwnU w19.heap.size (w19.alloc (.cells #[] 27)) (some ⟨w19.heap.size, 0, none⟩) 0 0 []) := ownU_empty w19
                have hbe : Below w19.heap.size w19 (w19.alloc (.cells #[] 27)) := (Below.refl _ _).alloc (Nat.le_refl _) _
                have hk1x := HS9.out.k1
                go_wp2_with (first | (refine wpList_append_rowU _ rfl (.tmp 152) (.tmp 153) 24 rfl w19.heap.size i0 Try.underlying24 hi hz0 hz1 hz2 _ 0 _ rfl HOE.out.row (some ⟨gp, 0, none⟩) L cp ps rfl (HS9.out.row.kept hbe) HS9.out.nl (by omega) (by simp) ?_; intro v20 w20 hv20 hg20))
                rw [Nat.zero_add, List.map_nil, List.nil_append] at hv20
                obtain ⟨a20, c20, rfl, ho20⟩ := ownU_appended HS9.out.row.rng hv20
                have hs20 : Below w19.heap.size w19 w20 := hbe.grown hg20 hbe.size (fun k hk => (HOE.out.row.lt k hk).1)
                have B20 : Below w.heap.size w w20 := keepT HS9.out.bl hs20
                have HX20 : Hid (RowU w20 (some ⟨b, off, none⟩) nr zs) := HS9.out.rw.kept hs20
                have HQ20 : Hid (RowU w20 (some ⟨gp, 0, none⟩) L ps) := HS9.out.row.kept hs20
                have hc20 := ho20.caps
                have HO20 : Hid (RowU w20 a20 L ps) := ho20.toRow
                have hkc := HS9.out.kc
                have hcm := HS9.out.cm
                have hou := HS9.out.ou
                have hmlo := HS9.out.lo
                have hmhi := HS9.out.hi
                clear hv20 hg20 ho20 HOE hbe hs20
                obtain ⟨tt, htt⟩ : ∃ tt, tt = cxP ox (mx : Int) root (nr : Int) ps := ⟨_, rfl⟩
                have HTT : Hid (tt = cxP ox (mx : Int) root (nr : Int) ps) := htt
                have ci := fun W (hW : RowU W a20 L ps) => implCheckExtend_any ox (mx : Int) root (nr : Int) a20 L c20 ps W hou hW hc20.1 hc20.2
                rw [← htt] at ci
                have CI : Hid (_) := ci
                clear htt ci
                go_wp2_with fail
                refine (CI.out _ HO20.out).mono ?_
                rintro e w21 ⟨rfl, hb21⟩
                have B21 := keepT B20 hb21
                have HX21 : Hid (RowU w21 (some ⟨b, off, none⟩) nr zs) := HX20.out.kept hb21
                have HQ21 : Hid (RowU w21 (some ⟨gp, 0, none⟩) L ps) := HQ20.out.kept hb21
                clear HX20 HQ20 HO20 CI B20 hb21
                cases tt with
                | false =>
                  go_wp2_with fail
                  refine (lives_any _).mono ?_
                  rintro e w22 ⟨rfl, hb22⟩
                  go_wp2
                  go_ret
                  exact ⟨rfl, keepT B21 hb22⟩
                | true =>
                  have hsd := cx_sound zs (mx : Int) ox ps (by rw [HLN.out, ← HRT.out]; exact HTT.out.symm)
                  rw [HLN.out] at hsd
                  obtain ⟨hrg, hgok, hcl⟩ := hsd
                  obtain ⟨mq, hmq⟩ := Int.eq_ofNat_of_zero_le (show 0 ≤ (mx : Int) by omega)
                  rw [hmq, Int.toNat_natCast] at hgok hcl
                  rw [hmq] at hrg ⊢
                  have hmqr : mq ≤ nr := by omega
                  have hmqc : (mq : Int) ≤ (cr : Int) := by omega
                  have hlr : lrR (zs.take mq) = (rootL (zs.take mq), true) := by unfold lrR; rw [if_pos (by rw [List.length_take, HLN.out]; omega)]
                  obtain ⟨wt, hwt⟩ : ∃ wt, wt = rootL (zs.take mq) := ⟨_, rfl⟩
                  rw [← hwt] at hlr hcl
                  have HLR : Hid (lrR (zs.take mq) = (wt, true)) := hlr
                  have hgk := grwR_ok nr mq nr true ox ps (Nat.le_refl _) hou HQ21.out.rng
                  have GAx : Hid (_) := fun W (hW : Below w21.heap.size w21 W) => HGA.out mq nr true ox (some ⟨gp, 0, none⟩) L cp ps W (by omega) hmqr (by omega) hou (HQ21.out.kept hW) (by omega) hkc hcm
                  obtain ⟨g, hg⟩ : ∃ g, g = grwR mq nr true ox ps := ⟨_, rfl⟩
                  rw [← hg] at hgok hcl hgk GAx
                  obtain ⟨gold, gall, gl, gk⟩ := g
                  have hgk1 : gk = true := hgok
                  subst hgk1
                  have HUG : Hid (UK gl) := hgk.2.2.1
                  have hgll : gl.length ≤ 3000 := by have := hgk.2.2.2; rw [HQ21.out.len] at this; have : gl.length ≤ 2 * L := this; omega
                  have HCL : Hid (ox = wt ∨ ClashP gl (linksL zs)) := hcl
                  have HLU : Hid (UK (linksL zs)) := linksL_uk _ zs (Nat.le_refl _) HX21.out.rng
                  have hll : (linksL zs).length ≤ 200 := by have := linksL_len _ zs (Nat.le_refl _) (by rw [HLN.out]; omega); rw [HLN.out] at this; omega
                  clear hgok hgk hg hlr hwt hcl hmq
                  go_wp2_with fail
                  refine (in_t (mq : Int) 1 (nr : Int) _ hrg).mono ?_
                  rintro e w22 ⟨rfl, hw⟩
                  have hw2 := hw.symm
                  subst hw2
                  go_wp2_with fail
                  refine (implLogRoot_any (some ⟨b, off, none⟩) mq cr (zs.take mq) _ (HX21.out.take mq hmqr)).mono ?_
                  rintro e w22 ⟨rfl, hb22⟩
                  rw [HLR.out]
                  go_wp2_with fail
                  refine (GAx.out _ hb22).mono ?_
                  rintro e w23 ⟨al, cl, ar2, nr2, cr2, rfl, hol, hb23⟩
                  have hol' : OwnK w22.heap.size w23 al gl.length cl gl := hol
                  have HOL : Hid (RowK w23 al gl.length gl) := hol'.toRow
                  have b123 := keepT hb22 hb23
                  have B23 := keepT B21 b123
                  have HX23 : Hid (RowU w23 (some ⟨b, off, none⟩) nr zs) := HX21.out.kept b123
                  clear hol hol' HX21 HQ21 B21 GAx
                  unfold grv
                  simp only []
                  obtain ⟨w24, hw24⟩ : ∃ w24, w24 = w23.alloc (.cells #[.int .u64 gold, .int .u64 gall, .slice al gl.length cl, .slice ar2 nr2 cr2, .bool true] 47) := ⟨_, rfl⟩
                  have hb24 : Below w23.heap.size w23 w24 := by rw [hw24]; exact (Below.refl _ _).alloc (Nat.le_refl _) _
                  have hG24 : w24.heap[w23.heap.size]? = some (.cells #[.int .u64 gold, .int .u64 gall, .slice al gl.length cl, .slice ar2 nr2 cr2, .bool true] 47) := by rw [hw24]; exact heap_alloc_new _ _
                  have e2 : w24.cell? ⟨w23.heap.size, 2, none⟩ = some (.slice al gl.length cl) := (cell_of_row _ _ 2 _ 47 (0, 0) hG24).trans rfl
                  have e4 : w24.cell? ⟨w23.heap.size, 4, none⟩ = some (.bool true) := (cell_of_row _ _ 4 _ 47 (0, 0) hG24).trans rfl
                  have hlt24 : w23.heap.size < w24.heap.size := (Array.getElem?_eq_some_iff.1 hG24).1
                  have B24 := keepT B23 hb24
                  have HX24 : Hid (RowU w24 (some ⟨b, off, none⟩) nr zs) := HX23.out.kept hb24
                  have HOL24 : Hid (RowK w24 al gl.length gl) := HOL.out.kept hb24
                  have HW24 : Hid (_ = _) := hw24
                  clear hw24 hG24 HX23 HOL hb24 b123 hb22 hb23
                  go_upto_region 32 with fail
                  rw [← HW24.out]
                  clear HW24
                  have HXD : Hid (∀ W, Below w24.heap.size w24 W → W.cell? ⟨w23.heap.size, 2, none⟩ = some (.slice al gl.length cl) ∧ W.cell? ⟨w23.heap.size, 4, none⟩ = some (.bool true)) := fun W hW => ⟨(hW.cell (p := ⟨w23.heap.size, 2, none⟩) hlt24).trans e2, (hW.cell (p := ⟨w23.heap.size, 4, none⟩) hlt24).trans e4⟩
                  have SS0 := HXD.out _ (Below.refl _ _)
                  have hdr : Below w24.heap.size w24 w24.drew := (Below.refl _ _).drew
                  have SS1 := HXD.out _ hdr
                  have LK : Hid (_) := fun W (hW : Below w24.heap.size w24 W) => links_any nr (some ⟨b, off, none⟩) nr cr zs W (Nat.le_refl _) (HX24.out.kept hW) (by omega) hcr.1 hcr.2
                  by_cases how : ox = wt
                  · have zo : (ox == wt) = true := by simpa using how
                    clear how HCL
                    have ca0 : Hid (∀ d os, Calls Try.prog 11 #[] (grow (redrawn w24 d) os) fun e w'' => e = .returned (.bool true) ∧ ∃ p : Regrown, w'' = grow (redrawn w24 p.d) p.os) := fun d os => Calls.regrown_of (lives_any _)
                    have qe4 := cell_regrown SS0.2
                    clear SS0 SS1
                    refine wp_region_quiet_below (by kernel_rfl) (by kernel_rfl) ?_
                    go_big_quiet_step (exact ca0.out _ _)
                    iterate 17 (go_big_quiet_step (fail))
                    refine wpQuiet_nil ?_
                    intro _ hw'
                    obtain ⟨⟨dq, osq⟩, hw''⟩ := hw'
                    subst hw''
                    have HBQ : Hid (Below w.heap.size w (grow (redrawn w24 dq) osq)) := keepT B24 (below_regrown w24 dq osq)
                    go_wp2
                    go_ret
                    exact ⟨rfl, HBQ.out⟩
                  · have zo : (ox == wt) = false := by simpa using how
                    have HCC : Hid (ClashP gl (linksL zs)) := by rcases HCL.out with h | h; exact absurd h how; exact h
                    clear how HCL
                    first
                      | go_region_held_law (fun w' => w'.cell? ⟨w23.heap.size, 2, none⟩ = some (.slice al gl.length cl) ∧ w'.cell? ⟨w23.heap.size, 4, none⟩ = some (.bool true)) (first | assumption | exact SS0 | exact SS1 | exact SS2 | exact SS3 | exact SS4) (first
                          | (go_at_call 11; refine (lives_any _).mono ?_; rintro e w25 ⟨rfl, hb25⟩; have b25 := keepT hdr hb25; have SS2 := HXD.out _ b25)
                          | (go_at_call 18; refine (LK.out _ b25).mono ?_; rintro e w26 ⟨g26, c26, rfl, ho26, hb26⟩; have b26 := keepT b25 hb26; have SS3 := HXD.out _ b26; have HL26 : Hid (RowK w26 (some ⟨g26, 0, none⟩) (linksL zs).length (linksL zs)) := ho26.toRow; have HO26 := HOL24.out.kept b26)
                          | (go_at_call 16; refine (clash_any al (some ⟨g26, 0, none⟩) gl.length (linksL zs).length cl c26 gl (linksL zs) _ HO26 HL26.out HUG.out HLU.out (by omega) (by omega) HCC.out).mono ?_; rintro e w27 ⟨rfl, hb27⟩; have b27 := keepT b26 hb27; have SS4 := HXD.out _ b27))
                      | fail
                    all_goals
                      have HBQ : Hid (Below w.heap.size w w27) := keepT B24 b27
                      go_wp2
                      go_ret
                      exact ⟨by simp [Array.getD], HBQ.out⟩
        · have hv0i : ¬ (v : Int) = 0 := by omega
          have hv0' : ((v : Int) == 0) = false := by simp; omega
          have HOE : Hid (OwnU w4.heap.size (w4.alloc (.cells #[] 27)) (some ⟨w4.heap.size, 0, none⟩) 0 0 []) := ownU_empty w4
          have hbe : Below w4.heap.size w4 (w4.alloc (.cells #[] 27)) := (Below.refl _ _).alloc (Nat.le_refl _) _
          have hk1x := HS4.out.k1
          go_wp2_with (first | (refine wpList_append_rowU _ rfl (.tmp 152) (.tmp 153) 24 rfl w4.heap.size i0 Try.underlying24 hi hz0 hz1 hz2 _ 0 _ rfl HOE.out.row aq kq cq qs rfl (HS4.out.row.kept hbe) HS4.out.nl (by omega) (by simp) ?_; intro v20 w20 hv20 hg20))
          rw [Nat.zero_add, List.map_nil, List.nil_append] at hv20
          obtain ⟨a20, c20, rfl, ho20⟩ := ownU_appended HS4.out.row.rng hv20
          have hs20 : Below w4.heap.size w4 w20 := hbe.grown hg20 hbe.size (fun k hk => (HOE.out.row.lt k hk).1)
          have B20 : Below w.heap.size w w20 := keepT HS4.out.bl hs20
          have HX20 : Hid (RowU w20 (some ⟨b, off, none⟩) nr zs) := HS4.out.rw.kept hs20
          have HQ20 : Hid (RowU w20 aq kq qs) := HS4.out.row.kept hs20
          have hc20 := ho20.caps
          have HO20 : Hid (RowU w20 a20 kq qs) := ho20.toRow
          have hkc := HS4.out.kc
          have hcm := HS4.out.cm
          have hou := HS4.out.ou
          have hmlo := HS4.out.lo
          have hmhi := HS4.out.hi
          clear hv20 hg20 ho20 HOE hbe hs20
          obtain ⟨tt, htt⟩ : ∃ tt, tt = cxP old0 m0 root (nr : Int) qs := ⟨_, rfl⟩
          have HTT : Hid (tt = cxP old0 m0 root (nr : Int) qs) := htt
          have ci := fun W (hW : RowU W a20 kq qs) => implCheckExtend_any old0 m0 root (nr : Int) a20 kq c20 qs W hou hW hc20.1 hc20.2
          rw [← htt] at ci
          have CI : Hid (_) := ci
          clear htt ci
          go_wp2_with fail
          refine (CI.out _ HO20.out).mono ?_
          rintro e w21 ⟨rfl, hb21⟩
          have B21 := keepT B20 hb21
          have HX21 : Hid (RowU w21 (some ⟨b, off, none⟩) nr zs) := HX20.out.kept hb21
          have HQ21 : Hid (RowU w21 aq kq qs) := HQ20.out.kept hb21
          clear HX20 HQ20 HO20 CI B20 hb21
          cases tt with
          | false =>
            go_wp2_with fail
            refine (lives_any _).mono ?_
            rintro e w22 ⟨rfl, hb22⟩
            go_wp2
            go_ret
            exact ⟨rfl, keepT B21 hb22⟩
          | true =>
            have hsd := cx_sound zs m0 old0 qs (by rw [HLN.out, ← HRT.out]; exact HTT.out.symm)
            rw [HLN.out] at hsd
            obtain ⟨hrg, hgok, hcl⟩ := hsd
            obtain ⟨mq, hmq⟩ := Int.eq_ofNat_of_zero_le (show 0 ≤ m0 by omega)
            rw [hmq, Int.toNat_natCast] at hgok hcl
            rw [hmq] at hrg ⊢
            have hmqr : mq ≤ nr := by omega
            have hmqc : (mq : Int) ≤ (cr : Int) := by omega
            have hlr : lrR (zs.take mq) = (rootL (zs.take mq), true) := by unfold lrR; rw [if_pos (by rw [List.length_take, HLN.out]; omega)]
            obtain ⟨wt, hwt⟩ : ∃ wt, wt = rootL (zs.take mq) := ⟨_, rfl⟩
            rw [← hwt] at hlr hcl
            have HLR : Hid (lrR (zs.take mq) = (wt, true)) := hlr
            have hgk := grwR_ok nr mq nr true old0 qs (Nat.le_refl _) hou HQ21.out.rng
            have GAx : Hid (_) := fun W (hW : Below w21.heap.size w21 W) => HGA.out mq nr true old0 aq kq cq qs W (by omega) hmqr (by omega) hou (HQ21.out.kept hW) (by omega) hkc hcm
            obtain ⟨g, hg⟩ : ∃ g, g = grwR mq nr true old0 qs := ⟨_, rfl⟩
            rw [← hg] at hgok hcl hgk GAx
            obtain ⟨gold, gall, gl, gk⟩ := g
            have hgk1 : gk = true := hgok
            subst hgk1
            have HUG : Hid (UK gl) := hgk.2.2.1
            have hgll : gl.length ≤ 3000 := by have := hgk.2.2.2; rw [HQ21.out.len] at this; have : gl.length ≤ 2 * kq := this; omega
            have HCL : Hid (old0 = wt ∨ ClashP gl (linksL zs)) := hcl
            have HLU : Hid (UK (linksL zs)) := linksL_uk _ zs (Nat.le_refl _) HX21.out.rng
            have hll : (linksL zs).length ≤ 200 := by have := linksL_len _ zs (Nat.le_refl _) (by rw [HLN.out]; omega); rw [HLN.out] at this; omega
            clear hgok hgk hg hlr hwt hcl hmq
            go_wp2_with fail
            refine (in_t (mq : Int) 1 (nr : Int) _ hrg).mono ?_
            rintro e w22 ⟨rfl, hw⟩
            have hw2 := hw.symm
            subst hw2
            go_wp2_with fail
            refine (implLogRoot_any (some ⟨b, off, none⟩) mq cr (zs.take mq) _ (HX21.out.take mq hmqr)).mono ?_
            rintro e w22 ⟨rfl, hb22⟩
            rw [HLR.out]
            go_wp2_with fail
            refine (GAx.out _ hb22).mono ?_
            rintro e w23 ⟨al, cl, ar2, nr2, cr2, rfl, hol, hb23⟩
            have hol' : OwnK w22.heap.size w23 al gl.length cl gl := hol
            have HOL : Hid (RowK w23 al gl.length gl) := hol'.toRow
            have b123 := keepT hb22 hb23
            have B23 := keepT B21 b123
            have HX23 : Hid (RowU w23 (some ⟨b, off, none⟩) nr zs) := HX21.out.kept b123
            clear hol hol' HX21 HQ21 B21 GAx
            unfold grv
            simp only []
            obtain ⟨w24, hw24⟩ : ∃ w24, w24 = w23.alloc (.cells #[.int .u64 gold, .int .u64 gall, .slice al gl.length cl, .slice ar2 nr2 cr2, .bool true] 47) := ⟨_, rfl⟩
            have hb24 : Below w23.heap.size w23 w24 := by rw [hw24]; exact (Below.refl _ _).alloc (Nat.le_refl _) _
            have hG24 : w24.heap[w23.heap.size]? = some (.cells #[.int .u64 gold, .int .u64 gall, .slice al gl.length cl, .slice ar2 nr2 cr2, .bool true] 47) := by rw [hw24]; exact heap_alloc_new _ _
            have e2 : w24.cell? ⟨w23.heap.size, 2, none⟩ = some (.slice al gl.length cl) := (cell_of_row _ _ 2 _ 47 (0, 0) hG24).trans rfl
            have e4 : w24.cell? ⟨w23.heap.size, 4, none⟩ = some (.bool true) := (cell_of_row _ _ 4 _ 47 (0, 0) hG24).trans rfl
            have hlt24 : w23.heap.size < w24.heap.size := (Array.getElem?_eq_some_iff.1 hG24).1
            have B24 := keepT B23 hb24
            have HX24 : Hid (RowU w24 (some ⟨b, off, none⟩) nr zs) := HX23.out.kept hb24
            have HOL24 : Hid (RowK w24 al gl.length gl) := HOL.out.kept hb24
            have HW24 : Hid (_ = _) := hw24
            clear hw24 hG24 HX23 HOL hb24 b123 hb22 hb23
            go_upto_region 32 with fail
            rw [← HW24.out]
            clear HW24
            have HXD : Hid (∀ W, Below w24.heap.size w24 W → W.cell? ⟨w23.heap.size, 2, none⟩ = some (.slice al gl.length cl) ∧ W.cell? ⟨w23.heap.size, 4, none⟩ = some (.bool true)) := fun W hW => ⟨(hW.cell (p := ⟨w23.heap.size, 2, none⟩) hlt24).trans e2, (hW.cell (p := ⟨w23.heap.size, 4, none⟩) hlt24).trans e4⟩
            have SS0 := HXD.out _ (Below.refl _ _)
            have hdr : Below w24.heap.size w24 w24.drew := (Below.refl _ _).drew
            have SS1 := HXD.out _ hdr
            have LK : Hid (_) := fun W (hW : Below w24.heap.size w24 W) => links_any nr (some ⟨b, off, none⟩) nr cr zs W (Nat.le_refl _) (HX24.out.kept hW) (by omega) hcr.1 hcr.2
            by_cases how : old0 = wt
            · have zo : (old0 == wt) = true := by simpa using how
              clear how HCL
              have ca0 : Hid (∀ d os, Calls Try.prog 11 #[] (grow (redrawn w24 d) os) fun e w'' => e = .returned (.bool true) ∧ ∃ p : Regrown, w'' = grow (redrawn w24 p.d) p.os) := fun d os => Calls.regrown_of (lives_any _)
              have qe4 := cell_regrown SS0.2
              clear SS0 SS1
              refine wp_region_quiet_below (by kernel_rfl) (by kernel_rfl) ?_
              go_big_quiet_step (exact ca0.out _ _)
              iterate 17 (go_big_quiet_step (fail))
              refine wpQuiet_nil ?_
              intro _ hw'
              obtain ⟨⟨dq, osq⟩, hw''⟩ := hw'
              subst hw''
              have HBQ : Hid (Below w.heap.size w (grow (redrawn w24 dq) osq)) := keepT B24 (below_regrown w24 dq osq)
              go_wp2
              go_ret
              exact ⟨rfl, HBQ.out⟩
            · have zo : (old0 == wt) = false := by simpa using how
              have HCC : Hid (ClashP gl (linksL zs)) := by rcases HCL.out with h | h; exact absurd h how; exact h
              clear how HCL
              first
                | go_region_held_law (fun w' => w'.cell? ⟨w23.heap.size, 2, none⟩ = some (.slice al gl.length cl) ∧ w'.cell? ⟨w23.heap.size, 4, none⟩ = some (.bool true)) (first | assumption | exact SS0 | exact SS1 | exact SS2 | exact SS3 | exact SS4) (first
                    | (go_at_call 11; refine (lives_any _).mono ?_; rintro e w25 ⟨rfl, hb25⟩; have b25 := keepT hdr hb25; have SS2 := HXD.out _ b25)
                    | (go_at_call 18; refine (LK.out _ b25).mono ?_; rintro e w26 ⟨g26, c26, rfl, ho26, hb26⟩; have b26 := keepT b25 hb26; have SS3 := HXD.out _ b26; have HL26 : Hid (RowK w26 (some ⟨g26, 0, none⟩) (linksL zs).length (linksL zs)) := ho26.toRow; have HO26 := HOL24.out.kept b26)
                    | (go_at_call 16; refine (clash_any al (some ⟨g26, 0, none⟩) gl.length (linksL zs).length cl c26 gl (linksL zs) _ HO26 HL26.out HUG.out HLU.out (by omega) (by omega) HCC.out).mono ?_; rintro e w27 ⟨rfl, hb27⟩; have b27 := keepT b26 hb27; have SS4 := HXD.out _ b27))
                | fail
              all_goals
                have HBQ : Hid (Below w.heap.size w w27) := keepT B24 b27
                go_wp2
                go_ret
                exact ⟨by simp [Array.getD], HBQ.out⟩
  · by_cases hn0 : nr = 0
    · subst hn0
      have hTR : lrR zs = (rootL zs, true) := by unfold lrR; rw [if_pos (by rw [HLN.out]; omega)]
      have hrr := HT.out.trans hTR
      simp only [Prod.mk.injEq] at hrr
      have hok := hrr.2
      subst hok
      clear hrr hTR y1
      go_wp2_with fail
      refine (lives_any _).mono ?_
      rintro e w5 ⟨rfl, hb5⟩
      go_wp2
      go_ret
      exact ⟨rfl, keepT B3 hb5⟩
    · have x1 : (60 : Int) < (nr : Int) := by omega
      have x3 : ¬ (nr : Int) = 0 := by omega
      have x3' : ((nr : Int) == 0) = false := by simp; omega
      clear hsm
      cases ok with
      | false =>
        go_wp2_with fail
        refine (lives_any _).mono ?_
        rintro e w5 ⟨rfl, hb5⟩
        go_wp2
        go_ret
        exact ⟨rfl, keepT B3 hb5⟩
      | true =>
        go_wp2_with fail
        refine (lives_any _).mono ?_
        rintro e w5 ⟨rfl, hb5⟩
        go_wp2
        go_ret
        exact ⟨rfl, keepT B3 hb5⟩

end Go.Proofs.Ythncodopdcmfiaa

