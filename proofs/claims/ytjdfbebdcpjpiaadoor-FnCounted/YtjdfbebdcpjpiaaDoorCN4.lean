import Derived.Test.YtjdfbebdcpjpiaaDoorCN3
import Derived.Deep.DeepCutAuto
import Derived.BigQuiet
namespace Go.Proofs.YtjdfbebdcpjpiaaDoor
open Go.RowKit

set_option maxRecDepth 100000 in
set_option maxRecDepth 10000 in
set_option maxHeartbeats 4000000 in
theorem lawCounted_walk (a0 : Option Addr) (n0 c0 : Nat) (z0 : List Int) (a1 : Option Addr) (n1 c1 : Nat) (z1 : List Int) (w : World) (hT : TabW w) (hP : PowW w) (hr0 : IsRow .u8 w a0 n0 c0 z0) (hr1 : IsRow .u8 w a1 n1 c1 z1) :
    Calls Tryd.prog 3 #[.slice a0 n0 c0, .slice a1 n1 c1] w fun e w' => e = .returned (.bool true) ∧ Below w.heap.size w w' := by
  obtain ⟨hrow0, hmax0⟩ := hr0.row
  obtain ⟨hrow1, hmax1⟩ := hr1.row
  obtain ⟨x0, hx0⟩ : ∃ bs, bs = z0.take n0 := ⟨_, rfl⟩
  obtain ⟨x1, hx1⟩ : ∃ bs, bs = z1.take n1 := ⟨_, rfl⟩
  rw [← hx0] at hrow0
  rw [← hx1] at hrow1
  clear hx0 hx1 hr0 hr1
  unfold maxLen at hmax0 hmax1
  have S0 : Hid (Sit w w [] [(a0, n0, x0), (a1, n1, x1)]) := ⟨Below.refl _ _, hT, hP, fun x hx => absurd hx List.not_mem_nil, fun x hx => by
    simp only [List.mem_cons, List.not_mem_nil, or_false] at hx
    rcases hx with rfl | rfl
    · exact hrow0
    · exact hrow1⟩
  clear hrow0 hrow1 hT hP
  by_cases hb0 : 1048576 < (n0 : Int)
  · have hd0 : decide (1048576 < (n0 : Int)) = true := by simp; omega
    go_enter Tryd.func3, Tryd.ntmps3
    go_wp2_with fail
    refine (big_any7 a0 n0 c0 _ (by omega)).mono ?_
    rintro e w' ⟨rfl, rfl⟩
    rw [hd0]
    go_wp2
    go_ret
    exact ⟨rfl, Below.refl _ _⟩
  have hd0 : decide (1048576 < (n0 : Int)) = false := by simp; omega
  by_cases hb1 : 1048576 < (n1 : Int)
  · have hd1 : decide (1048576 < (n1 : Int)) = true := by simp; omega
    go_enter Tryd.func3, Tryd.ntmps3
    go_wp2_with fail
    refine (big_any7 a0 n0 c0 _ (by omega)).mono ?_
    rintro e w' ⟨rfl, rfl⟩
    rw [hd0]
    go_wp2_with fail
    refine (big_any7 a1 n1 c1 _ (by omega)).mono ?_
    rintro e w' ⟨rfl, rfl⟩
    rw [hd1]
    go_wp2
    go_ret
    exact ⟨rfl, Below.refl _ _⟩
  have hd1 : decide (1048576 < (n1 : Int)) = false := by simp; omega
  go_enter Tryd.func3, Tryd.ntmps3
  go_wp2_with fail
  refine (big_any7 a0 n0 c0 _ (by omega)).mono ?_
  rintro e w' ⟨rfl, rfl⟩
  rw [hd0]
  go_wp2_with fail
  refine (big_any7 a1 n1 c1 _ (by omega)).mono ?_
  rintro e w' ⟨rfl, rfl⟩
  rw [hd1]
  clear hd0 hd1
  go_wp2_with fail
  refine (drawOidBytes_any a0 n0 c0 x0 _ (S0.out.r8 (a0, n0, x0) (by simp)) (by omega)).mono ?_
  rintro e w1 ⟨aA, nA, cA, zA, rfl, hnA, hoA, hb⟩
  have hcA := owns_caps hoA
  have S1 : Hid (Sit w w1 [(aA, nA, zA)] [(a0, n0, x0), (a1, n1, x1)]) := (S0.out.step hb).add64 (own64_of hoA).toRow
  clear hoA hb S0
  go_wp2_with fail
  refine (drawOidBytes_any a1 n1 c1 x1 _ (S1.out.r8 (a1, n1, x1) (by simp)) (by omega)).mono ?_
  rintro e w2 ⟨aB, nB, cB, zB, rfl, hnB, hoB, hb⟩
  have hcB := owns_caps hoB
  have S2 : Hid (Sit w w2 [(aB, nB, zB), (aA, nA, zA)] [(a0, n0, x0), (a1, n1, x1)]) := (S1.out.step hb).add64 (own64_of hoB).toRow
  clear hoB hb S1
  go_wp2_with fail
  refine (implOidBytes_any aA nA cA zA _ (S2.out.r64 (aA, nA, zA) (by simp)) (by omega) (by omega) (by omega)).mono ?_
  rintro e w3 ⟨aX, nX, cX, bX, e1, rfl, hrX, hnX, hoX, hb⟩
  have HNX : Hid (aX = none → cX = 0) := hoX.nil_cap
  have S3 : Hid (Sit w w3 [(aB, nB, zB), (aA, nA, zA)] [(aX, nX, bX), (a0, n0, x0), (a1, n1, x1)]) := (S2.out.step hb).add8 hoX.toRow
  have HRX : Hid (oidRes zA bX e1) := hrX
  clear hoX hb S2 hrX
  go_wp2_with fail
  refine (implOidBytes_any aB nB cB zB _ (S3.out.r64 (aB, nB, zB) (by simp)) (by omega) (by omega) (by omega)).mono ?_
  rintro e w4 ⟨aY, nY, cY, bY, e2, rfl, hrY, hnY, hoY, hb⟩
  have S4 : Hid (Sit w w4 [(aB, nB, zB), (aA, nA, zA)] [(aY, nY, bY), (aX, nX, bX), (a0, n0, x0), (a1, n1, x1)]) := (S3.out.step hb).add8 hoY.toRow
  have HRY : Hid (oidRes zB bY e2) := hrY
  clear hoY hb S3 hrY
  go_wp2_with fail
  refine (specOidBytes_any aA nA cA zA _ (S4.out.r64 (aA, nA, zA) (by simp)) (by omega)).mono ?_
  rintro e w5 ⟨aS, nS, cS, bS, e1s, rfl, hrS, hnS, hoS, hb⟩
  obtain ⟨_, rfl⟩ := oidRes_one hrS HRX.out
  have S5 : Hid (Sit w w5 [(aB, nB, zB), (aA, nA, zA)] [(aY, nY, bY), (aX, nX, bX), (a0, n0, x0), (a1, n1, x1)]) := S4.out.step hb
  clear hoS hb S4 hrS
  have hee : (e1s != e1s) = false := by simp
  go_wp2_with fail
  refine (copied_any aX nX cX bX _ (S5.out.r8 (aX, nX, bX) (by simp)) HNX.out (by omega)).mono ?_
  rintro e w6 ⟨aC, cC, rfl, hoC, hb⟩
  have S6 : Hid (Sit w w6 [(aB, nB, zB), (aA, nA, zA)] [(aC, nX, bX), (aY, nY, bY), (aX, nX, bX), (a0, n0, x0), (a1, n1, x1)]) := (S5.out.step hb).add8 hoC.toRow
  clear hoC hb S5 hee
  go_wp2_with fail
  refine (implOidRead_any aC nX cC bX _ (S6.out.r8 (aC, nX, bX) (by simp)) (by omega)).mono ?_
  rintro e w7 ⟨aK, nK, cK, zK, e3, rfl, hrK, hnK, hoK, hb⟩
  have S7 : Hid (Sit w w7 [(aK, nK, zK), (aB, nB, zB), (aA, nA, zA)] [(aY, nY, bY), (aX, nX, bX), (a0, n0, x0), (a1, n1, x1)]) := by
    have h := (S6.out.step hb).add64 hoK.toRow
    exact ⟨h.below, h.tab, h.pow, h.r64, fun x hx => h.r8 x (List.mem_cons_of_mem _ hx)⟩
  have HRK : Hid (oidR bX zK e3) := hrK
  clear hoK hb S6 hrK
  go_upto_region 11 with fail
  go_cut [107] (fun v wx => v = .bool false ∧ Hid (Sit w wx [(aB, nB, zB), (aA, nA, zA)] [(aY, nY, bY), (aX, nX, bX), (a0, n0, x0), (a1, n1, x1)]))
  case first => as_aux_lemma =>
    cases e1s with
    | false =>
      have hbn := oidRes_none HRX.out
      have hlx := (S7.out.r8 (aX, nX, bX) (by simp)).len
      have hn0 : nX = 0 := by rw [hbn] at hlx; exact hlx.symm
      clear hbn hlx
      subst hn0
      go_wp2_with fail
      go_meet
      exact ⟨rfl, ⟨S7.out.below, S7.out.tab, S7.out.pow, fun x hx => S7.out.r64 x (List.mem_cons_of_mem _ hx), S7.out.r8⟩⟩
    | true =>
      obtain ⟨rfl, rfl⟩ := oidR_one HRK.out (oid_there HRX.out)
      go_wp2_with fail
      refine (sameNums_any aK aA nK nA cK cA zK zK _ (S7.out.r64 (aK, nK, zK) (by simp)) (S7.out.r64 (aA, nA, zK) (by simp)) (by omega) (by omega)).mono ?_
      rintro e w8 ⟨rfl, hb⟩
      rw [dec_self]
      have S8 : Hid (Sit w w8 [(aB, nB, zB), (aA, nA, zK)] [(aY, nY, bY), (aX, nX, bX), (a0, n0, x0), (a1, n1, x1)]) := by
        have h := S7.out.step hb
        exact ⟨h.below, h.tab, h.pow, fun x hx => h.r64 x (List.mem_cons_of_mem _ hx), h.r8⟩
      clear hb S7
      cases e2 with
      | false =>
        go_wp2_with fail
        go_meet
        exact ⟨rfl, S8⟩
      | true =>
        have hdx : decide (zK = zB) = decide (bX = bY) := by
          have h := oid_same HRX.out HRY.out
          by_cases e : bX = bY
          · rw [decide_eq_true e, decide_eq_true (h.1 e)]
          · rw [decide_eq_false e, decide_eq_false fun k => e (h.2 k)]
        obtain ⟨b, hbb⟩ : ∃ b, b = decide (bX = bY) := ⟨_, rfl⟩
        rw [← hbb] at hdx
        have hbx : (b != b) = false := by simp
        go_wp2_with fail
        refine (sameBytes_any aX aY nX nY cX cY bX bY _ (S8.out.r8 (aX, nX, bX) (by simp)) (S8.out.r8 (aY, nY, bY) (by simp))).mono ?_
        rintro e w9 ⟨rfl, rfl⟩
        rw [← hbb]
        clear hbb
        go_wp2_with fail
        refine (sameNums_any aA aB nA nB cA cB zK zB _ (S8.out.r64 (aA, nA, zK) (by simp)) (S8.out.r64 (aB, nB, zB) (by simp)) (by omega) (by omega)).mono ?_
        rintro e w10 ⟨rfl, hb⟩
        rw [hdx]
        clear hdx
        go_wp2_with fail
        go_meet
        exact ⟨rfl, S8.out.step hb⟩
  case rest =>
    obtain ⟨rfl, S8⟩ := hcut
    clear S7 HRX HRY HRK
    go_wp2_with fail
    refine (drawOidRead_any a1 n1 c1 x1 _ (S8.out.r8 (a1, n1, x1) (by simp)) (by omega)).mono ?_
    rintro e w9 ⟨aR, nR, cR, bR, rfl, hnR, hoR, hb⟩
    have HNR : Hid (aR = none → cR = 0) := hoR.nil_cap
    have HBR : Hid (∀ k, 0 ≤ bR.getD k 0 ∧ bR.getD k 0 ≤ 255) := hoR.byte
    have S9 : Hid (Sit w w9 [] [(aR, nR, bR), (a0, n0, x0), (a1, n1, x1)]) := by
      have h := S8.out.step hb
      refine ⟨h.below, h.tab, h.pow, fun x hx => absurd hx List.not_mem_nil, fun x hx => ?_⟩
      simp only [List.mem_cons, List.not_mem_nil, or_false] at hx
      rcases hx with rfl | rfl | rfl
      · exact hoR.toRow
      · exact h.r8 (a0, n0, x0) (by simp)
      · exact h.r8 (a1, n1, x1) (by simp)
    clear hoR hb S8
    go_wp2_with fail
    refine (copied_any aR nR cR bR _ (S9.out.r8 (aR, nR, bR) (by simp)) HNR.out (by omega)).mono ?_
    rintro e w10 ⟨aC, cC, rfl, hoC, hb⟩
    have SA : Hid (Sit w w10 [] [(aC, nR, bR), (aR, nR, bR), (a0, n0, x0), (a1, n1, x1)]) := (S9.out.step hb).add8 hoC.toRow
    clear hoC hb S9
    go_wp2_with fail
    refine (implOidRead_any aC nR cC bR _ (SA.out.r8 (aC, nR, bR) (by simp)) (by omega)).mono ?_
    rintro e w11 ⟨aK, nK, cK, zK, e3, rfl, hrK, hnK, hoK, hb⟩
    have hcK := owns_caps hoK.row
    have SB : Hid (Sit w w11 [(aK, nK, zK)] [(aC, nR, bR), (aR, nR, bR), (a0, n0, x0), (a1, n1, x1)]) := (SA.out.step hb).add64 hoK.toRow
    have HRK : Hid (oidR bR zK e3) := hrK
    clear hoK hb SA hrK
    go_wp2_with fail
    refine (specOidRead_any aR nR cR bR _ (SB.out.r8 (aR, nR, bR) (by simp)) (by omega)).mono ?_
    rintro e w12 ⟨aK2, nK2, cK2, zK2, e4, rfl, hrK, hnK2, hoK, hb⟩
    obtain ⟨_, rfl⟩ := oidR_one hrK HRK.out
    have SC : Hid (Sit w w12 [(aK, nK, zK)] [(aC, nR, bR), (aR, nR, bR), (a0, n0, x0), (a1, n1, x1)]) := SB.out.step hb
    clear hoK hb SB hrK
    have hee : (e4 != e4) = false := by simp
    go_upto_if 124 with fail
    go_cut [20] (fun _ wx => Hid (Sit w wx [] [(a0, n0, x0), (a1, n1, x1)]))
    case first => as_aux_lemma =>
      cases e4 with
      | false =>
        go_wp2_with fail
        go_meet
        exact ⟨SC.out.below, SC.out.tab, SC.out.pow, fun x hx => absurd hx List.not_mem_nil, fun x hx => SC.out.r8 x (List.mem_cons_of_mem _ (List.mem_cons_of_mem _ hx))⟩
      | true =>
        have hnK12 : nK ≤ 12 := by
          have h1 := oidR_len HRK.out
          have h2 : zK.length = nK := (SC.out.r64 (aK, nK, zK) (by simp)).len
          omega
        go_wp2_with fail
        refine (implOidBytes_any aK nK cK zK _ (SC.out.r64 (aK, nK, zK) (by simp)) (by omega) (by omega) (by omega)).mono ?_
        rintro e w13 ⟨aZ, nZ, cZ, bZ, e5, rfl, hrZ, hnZ, hoZ, hb⟩
        obtain ⟨rfl, rfl⟩ := oidRes_one hrZ (oid_back HBR.out HRK.out)
        have SD : Hid (Sit w w13 [(aK, nK, zK)] [(aZ, nZ, bZ), (aC, nR, bZ), (aR, nR, bZ), (a0, n0, x0), (a1, n1, x1)]) := (SC.out.step hb).add8 hoZ.toRow
        clear hoZ hb SC hrZ
        go_wp2_with fail
        refine (sameBytes_any aZ aR nZ nR cZ cR bZ bZ _ (SD.out.r8 (aZ, nZ, bZ) (by simp)) (SD.out.r8 (aR, nR, bZ) (by simp))).mono ?_
        rintro e w14 ⟨rfl, rfl⟩
        rw [dec_self]
        go_wp2_with fail
        go_meet
        exact ⟨SD.out.below, SD.out.tab, SD.out.pow, fun x hx => absurd hx List.not_mem_nil, fun x hx => SD.out.r8 x (List.mem_cons_of_mem _ (List.mem_cons_of_mem _ (List.mem_cons_of_mem _ hx)))⟩
    case rest =>
      have SD : Hid (Sit w wc [] [(a0, n0, x0), (a1, n1, x1)]) := hcut
      clear SC hcut HRK HBR HNR hee
      go_wp2_with fail
      refine (drawTimeText_any a0 n0 c0 x0 _ (SD.out.r8 (a0, n0, x0) (by simp)) (by omega)).mono ?_
      rintro e w15 ⟨t, rfl, ht0, ht1, hb⟩
      have SE : Hid (Sit w w15 [] [(a0, n0, x0), (a1, n1, x1)]) := SD.out.step hb
      clear hb SD
      go_wp2_with fail
      refine (drawTimeText_any a1 n1 c1 x1 _ (SE.out.r8 (a1, n1, x1) (by simp)) (by omega)).mono ?_
      rintro e w16 ⟨u, rfl, hu0, hu1, hb⟩
      have SF : Hid (Sit w w16 [] [(a0, n0, x0), (a1, n1, x1)]) := SE.out.step hb
      clear hb SE
      go_wp2_with fail
      refine (implTimeText_any t _ SF.out.tab SF.out.pow).mono ?_
      rintro e w17 ⟨s, e4, rfl, hs, hb⟩
      have SG : Hid (Sit w w17 [] [(a0, n0, x0), (a1, n1, x1)]) := SF.out.step hb
      have HS : Hid (timeX t s e4) := hs
      clear hb SF hs
      go_wp2_with fail
      refine (implTimeText_any u _ SG.out.tab SG.out.pow).mono ?_
      rintro e w18 ⟨r, e5, rfl, hr, hb⟩
      have SH : Hid (Sit w w18 [] [(a0, n0, x0), (a1, n1, x1)]) := SG.out.step hb
      have HR : Hid (timeX u r e5) := hr
      clear hb SG hr
      have h44 : (e4 != e4) = false := by simp
      have h55 : (e5 != e5) = false := by simp
      go_wp2_with fail
      refine (timeX_in HS.out _).mono ?_
      rintro e w19 ⟨rfl, hw⟩
      subst hw
      go_wp2_with fail
      refine (timeX_in HR.out _).mono ?_
      rintro e w19 ⟨rfl, hw⟩
      subst hw
      clear h44 h55
      go_upto_if 162 with fail
      go_cut [28] (fun _ wx => Hid (Sit w wx [] [(a0, n0, x0), (a1, n1, x1)]))
      case first => as_aux_lemma =>
        cases e4 with
        | false =>
          go_wp2_with fail
          go_meet
          exact SH
        | true =>
          have htb := (timeX_open HS.out).1
          have hsz : s.size = 19 := timeX_size HS.out
          go_wp2_with fail
          refine (implTimeRead_any s _ SH.out.tab).mono ?_
          rintro e w20 ⟨v, e6, rfl, hv, hb⟩
          obtain ⟨rfl, rfl⟩ := timeR_one hv (time_there HS.out)
          have SI : Hid (Sit w w20 [] [(a0, n0, x0), (a1, n1, x1)]) := SH.out.step hb
          clear hb SH hv
          have hvv : (v != v) = false := by simp
          have hw64 : IntKind.i64.wrap (v + 86400) = v + 86400 := by rw [IntKind.wrap_i64]; omega
          go_wp2_with fail
          refine (implTimeText_any (v + 86400) _ SI.out.tab SI.out.pow).mono ?_
          rintro e w21 ⟨x', e7, rfl, hx', hb⟩
          have SJ : Hid (Sit w w21 [] [(a0, n0, x0), (a1, n1, x1)]) := SI.out.step hb
          clear hb SI hw64
          cases e7 with
          | false =>
            clear hx'
            go_wp2_with fail
            go_quiet (fail)
            go_wp2_with fail
            go_meet
            exact SJ.out.step (below_drewN' (Below.refl _ _) nq)
          | true =>
            obtain ⟨d1, d2, d3⟩ := timeX_day2 HS.out hx'
            have hsz' : x'.size = 19 := timeX_size hx'
            clear hx'
            go_wp2_with fail
            go_quiet (fail)
            go_wp2_with fail
            go_meet
            exact SJ.out.step (below_drewN' (Below.refl _ _) nq)
      case rest =>
        have SI : Hid (Sit w wc [] [(a0, n0, x0), (a1, n1, x1)]) := hcut
        clear SH hcut
        have HORD : Hid (e4 = true → e5 = true → Op.bytesLess s.toList r.toList = decide (t < u)) := fun h1 h2 => by
          subst h1
          subst h2
          exact timeX_order2 HS.out HR.out
        go_upto_region 35 with fail
        go_cut [213] (fun v wx => v = .bool false ∧ Hid (Sit w wx [] [(a0, n0, x0), (a1, n1, x1)]))
        case first => as_aux_lemma =>
          cases e4 with
          | false =>
            go_wp2_with fail
            go_meet
            exact ⟨rfl, SI⟩
          | true =>
            cases e5 with
            | false =>
              go_wp2_with fail
              go_meet
              exact ⟨rfl, SI⟩
            | true =>
              have h1 := HORD.out rfl rfl
              go_wp2_with fail
              go_meet
              exact ⟨by simp, SI⟩
        case rest =>
          obtain ⟨rfl, SJ⟩ := hcut
          clear SI HORD
          go_wp2_with fail
          refine (drawTimeRead_any a1 n1 c1 x1 _ (SJ.out.r8 (a1, n1, x1) (by simp)) (by omega)).mono ?_
          rintro e w23 ⟨l, rfl, hl, hb⟩
          have SK : Hid (Sit w w23 [] [(a0, n0, x0), (a1, n1, x1)]) := SJ.out.step hb
          clear hb SJ
          go_wp2_with fail
          refine (implTimeRead_any l _ SK.out.tab).mono ?_
          rintro e w24 ⟨v, e8, rfl, hv, hb⟩
          have SL : Hid (Sit w w24 [] [(a0, n0, x0), (a1, n1, x1)]) := SK.out.step hb
          have HV : Hid (timeR l v e8) := hv
          clear hb SK hv
          cases e8 with
          | false =>
            go_wp2_with fail
            refine (specTimeRead_any l _).mono ?_
            rintro e w25 ⟨v2, e9, rfl, hv2, hb⟩
            obtain ⟨rfl, rfl⟩ := timeR_one hv2 HV.out
            have SM : Hid (Sit w w25 [] [(a0, n0, x0), (a1, n1, x1)]) := SL.out.step hb
            clear hb SL hv2
            go_wp2_with fail
            refine (lives_any _).mono ?_
            rintro e w26 ⟨rfl, hb⟩
            have SN : Hid (Sit w w26 [] [(a0, n0, x0), (a1, n1, x1)]) := SM.out.step hb
            clear hb
            go_wp2
            go_ret
            exact ⟨rfl, SN.out.below⟩
          | true =>
            have hX := time_back HV.out
            go_wp2_with fail
            refine (implTimeText_any v _ SL.out.tab SL.out.pow).mono ?_
            rintro e w25 ⟨x9, e9, rfl, hx9, hb⟩
            obtain ⟨rfl, rfl⟩ := timeX_one hx9 hX
            have SM : Hid (Sit w w25 [] [(a0, n0, x0), (a1, n1, x1)]) := SL.out.step hb
            clear hb SL hx9 hX HV
            have hee : (x9.toList == x9.toList) = true := by simp
            go_wp2_with fail
            refine (lives_any _).mono ?_
            rintro e w26 ⟨rfl, hb⟩
            have SN : Hid (Sit w w26 [] [(a0, n0, x0), (a1, n1, x1)]) := SM.out.step hb
            clear hb
            go_wp2
            go_ret
            exact ⟨by simp, SN.out.below⟩

end Go.Proofs.YtjdfbebdcpjpiaaDoor
