import Derived.Test.YtdkgilkjcndonaaFP1
import Derived.Test.YtdkgilkjcndonaaFP2
import Derived.Test.YtdkgilkjcndonaaPP6
import Derived.Test.YtdkgilkjcndonaaLChained
namespace Go.Proofs.Ytdkgilkjcndonaa
open Go.RowKit

set_option maxHeartbeats 400000 in
theorem sameNums_same (a b : Option Addr) (n ca cb : Nat) (zs : List Int) (w : World) (hx : Row64 w a n zs) (hy : Row64 w b n zs) (hn : n ≤ 9223372036854775807) :
    Calls Try.prog 17 #[.slice a n ca, .slice b n cb] w fun e w' => e = .returned (.bool true) ∧ Below w.heap.size w w' := by
  have HX : Hid (Row64 w a n zs) := hx
  have HY : Hid (Row64 w b n zs) := hy
  clear hx hy
  go_enter Try.func17, Try.ntmps17
  go_wp2
  go_loopw [5] (fun i wr => ∃ k : Nat, k ≤ n ∧ i = .int .i64 k ∧ Below w.heap.size w wr) (fun i _ => n - (intOf i).toNat)
  case atStart => exact ⟨0, Nat.zero_le _, rfl, Below.refl _ _⟩
  case round =>
    obtain ⟨k, hk, rfl, hbr⟩ := hrel
    by_cases hlt : k < n
    · obtain ⟨b1, off1, rfl, hb1, hc1⟩ := HX.out.get k hlt
      obtain ⟨b2, off2, rfl, hb2, hc2⟩ := HY.out.get k hlt
      have hr1 : wr.cell? ⟨b1, off1 + k, none⟩ = some (.int .i64 (zs.getD k 0)) := (hbr.cell (p := ⟨b1, off1 + k, none⟩) hb1).trans hc1
      have hr2 : wr.cell? ⟨b2, off2 + k, none⟩ = some (.int .i64 (zs.getD k 0)) := (hbr.cell (p := ⟨b2, off2 + k, none⟩) hb2).trans hc2
      clear hc1 hc2
      obtain ⟨z, hz⟩ : ∃ z, z = zs.getD k 0 := ⟨_, rfl⟩
      rw [← hz] at hr1 hr2
      clear hz
      go_wp2
      go_quiet (fail)
      go_wp2
      go_roundw
      case rel => exact ⟨k + 1, by omega, by go_num, below_drewN hbr nq⟩
      case measure => simp [intOf]; omega
    · go_wp2
      go_ret
      exact ⟨rfl, hbr⟩

theorem mem_ppT {xs : List PC} {q : List Int} {b1 b2 : Bool} {p : Int} (h1 : 1 ≤ p) (h2 : p ≤ 1000) : p ∈ ppT xs q b1 b2 ↔ tellB (namesL q xs xs.length) q (holdB xs b1 b2) p = true := by
  unfold ppT toldL
  rw [List.mem_append, mem_head, mem_tail]
  constructor
  · rintro (⟨h, _⟩ | ⟨_, h⟩)
    · omega
    · exact h
  · exact fun h => .inr ⟨⟨h1, h2⟩, h⟩
theorem pp_one {xs : List PC} {b1 b2 : Bool} {p : Int} (h1 : 1 ≤ p) (h2 : p ≤ 1000) : ppT xs [p] b1 b2 = if holdB xs b1 b2 p = true then [p] else [] := by
  unfold ppT
  exact told_one h1 h2 (by unfold namesL; simp)

set_option maxRecDepth 20000 in
set_option maxHeartbeats 8000000 in
theorem lawPolicies_walk (a : Option Addr) (n cap : Nat) (bs : List Int) (w : World) (h : Row w a n bs) (hn : n ≤ 9223372036854775807) :
    Calls Try.prog 4 #[.slice a n cap] w fun e w' => e = .returned (.bool true) ∧ Below w.heap.size w w' := by
  have HR : Hid (Row w a n bs) := h
  clear h
  go_enter Try.func4, Try.ntmps4
  go_wp2_with fail
  refine (bigP_any a n cap _ hn).mono ?_
  rintro e w1 ⟨rfl, hw1⟩; have hw2 := hw1.symm; subst hw2
  by_cases hbig : 1048576 < n
  · rw [decide_eq_true hbig]
    go_wp2
    go_ret
    exact ⟨rfl, Below.refl _ _⟩
  rw [decide_eq_false hbig]
  go_wp2_with fail
  refine (drawPath_any a n cap bs _ HR.out (by omega)).mono ?_
  rintro e w2 ⟨ao, m, c, xs, ai, ni, ci, q, b0, b1, b2, rfl, hm, hni, hx, hq, hb2⟩
  have HX : Hid (Pcs w2 ao m xs) := hx
  have HQ : Hid (Row64 w2 ai ni q) := hq
  have HL : Hid (xs.length = m) := hx.len
  have HB2 : Hid (Below w.heap.size w w2) := hb2
  clear hx hq hb2 hbig
  go_wp2_with fail
  refine (implPathPolicies_any ao m c xs ai ni ci q b0 b1 b2 _ HX.out HQ.out (by omega)).mono ?_
  rintro e w3 ⟨a3, n3, c3, L, ok, rfl, hp3, ho3, hl3, hb3⟩
  have HP3 : Hid (IsPp xs q b0 b1 b2 L ok) := hp3
  have HB3 : Hid (Below w2.heap.size w2 w3) := hb3
  have HO3 : Hid (OwnL w2.heap.size w3 a3 n3 c3 L) := ho3
  clear hp3 ho3 hb3
  go_wp2_with fail
  refine (specPathPolicies_any ao m c xs ai ni ci q b0 b1 b2 _ (HX.out.kept HB3.out) (HQ.out.kept HB3.out)).mono ?_
  rintro e w4 ⟨a4, n4, c4, L4, ok4, rfl, hp4, ho4, hl4, hb4⟩
  obtain ⟨e1, e2⟩ := hp4.same HP3.out
  subst e1
  subst e2
  have hk3 := HO3.out.len
  have hk4 := ho4.len
  have hnn : n4 = n3 := by omega
  subst hnn
  have HB4 : Hid (Below w2.heap.size w2 w4) := HB3.out.trans (hb4.mono HB3.out.size)
  have HRO : Hid (Row64 w4 a3 n4 L4) := (HO3.out.kept hb4).toRow
  have HR4 : Hid (Row64 w4 a4 n4 L4) := ho4.toRow
  have t0 : (ok4 != ok4) = false := by simp
  clear hp4 ho4 hb4 hk3 hk4 HO3 HB3
  go_wp2_with fail
  refine (sameNums_same a3 a4 n4 c3 c4 L4 _ HRO.out HR4.out (by omega)).mono ?_
  rintro e w5 ⟨rfl, hb5⟩
  have HB5 : Hid (Below w2.heap.size w2 w5) := HB4.out.trans (hb5.mono HB4.out.size)
  have HRO5 : Hid (Row64 w5 a3 n4 L4) := HRO.out.kept hb5
  have HLN : Hid (L4.length = n4) := HRO.out.len
  clear hb5 HRO HR4 HB4
  have HW : Hid (∀ W, Below w5.heap.size w5 W → Below w2.heap.size w2 W) := fun W hW => HB5.out.trans (hW.mono HB5.out.size)
  have HFB : Hid (∀ W, Below w5.heap.size w5 W → Below w.heap.size w W) := fun W hW => HB2.out.trans ((HW.out W hW).mono HB2.out.size)
  cases ok4 with
  | false =>
    have HN0 : Hid (L4 = []) := by
      rcases HP3.out with ⟨h, _⟩ | ⟨_, _, h⟩
      · cases h
      · exact h
    have hz : n4 = 0 := by rw [← HLN.out, HN0.out]; rfl
    subst hz
    go_wp2_with fail
    refine (lives_any _).mono ?_
    rintro e w6 ⟨rfl, hb6⟩
    have HF : Hid (Below w.heap.size w w6) := HFB.out _ hb6
    clear hb6
    go_wp2
    go_ret
    exact ⟨rfl, HF.out⟩
  | true =>
    have HPP : Hid (ppP xs q b0 b1 b2 ∧ L4 = ppT xs q b1 b2) := by
      rcases HP3.out with ⟨_, h1, h2⟩ | ⟨h, _⟩
      · exact ⟨h1, h2⟩
      · cases h
    have hm8 : m ≤ 8 := by rw [← HL.out]; exact HPP.out.1.1.1.2
    have HQN : Hid (∀ (x : Int) (W : World), Below w5.heap.size w5 W → Calls Try.prog 18 #[.slice ai ni ci, .int .i64 x] W fun e w' => e = .returned (.bool (decide (x ∈ q))) ∧ w' = W) := fun x W hW => hasNum_any ai ni ci q x W (HQ.out.kept (HW.out W hW)) (by omega)
    have HON : Hid (∀ (x : Int) (W : World), Below w5.heap.size w5 W → Calls Try.prog 18 #[.slice a3 n4 c3, .int .i64 x] W fun e w' => e = .returned (.bool (decide (x ∈ L4))) ∧ w' = W) := fun x W hW => hasNum_any a3 n4 c3 L4 x W (HRO5.out.kept hW) (by omega)
    have HHO : Hid (∀ (x : Int) (W : World), 1 ≤ x → x ≤ 1000 → Below w5.heap.size w5 W → Calls Try.prog 10 #[.slice ao m c, .int .i64 x, .bool b1, .bool b2] W fun e w' => e = .returned (.bool (holdB xs b1 b2 x)) ∧ Below W.heap.size W w') := fun x W h1 h2 hW => (implHolds_any ao m c xs x b1 b2 W (HX.out.kept (HW.out W hW))).mono (fun e w' h => by
      obtain ⟨b, rfl, hb, hbl⟩ := h
      refine ⟨?_, hbl⟩
      have e : holdB xs b1 b2 x = b := by
        unfold holdB
        cases b with
        | true => exact decide_eq_true (hb.out.1 rfl).2.2
        | false => exact decide_eq_false (fun h => absurd (hb.out.2 ⟨HPP.out.1.1, ⟨h1, h2⟩, h⟩) (by decide))
      rw [e])
    go_wp2
    go_loopw [12] (fun p wr => ∃ P : Nat, 1 ≤ P ∧ P ≤ 7 ∧ p = .int .i64 (P : Int) ∧ Hid (Below w5.heap.size w5 wr)) (fun p _ => 7 - (intOf p).toNat)
    case atStart => exact ⟨1, Nat.le_refl _, by decide, rfl, Below.refl _ _⟩
    case round =>
      obtain ⟨P, hP1, hP7, rfl, HBR⟩ := hrel
      by_cases hlt : P < 7
      · have hlti : (P : Int) < 7 := by omega
        obtain ⟨d0, hd0⟩ : ∃ d0, d0 = decide ((P : Int) ∈ q) := ⟨_, rfl⟩
        have HD0 : Hid (d0 = decide ((P : Int) ∈ namesL q xs 0)) := by show _ = _; rw [names_zero]; exact hd0
        have HDQ : Hid (d0 = decide ((P : Int) ∈ q)) := hd0
        go_wp2_with fail
        refine (HQN.out _ _ HBR.out).mono ?_
        rintro e w6 ⟨rfl, hw6⟩; have hw7 := hw6.symm; subst hw7
        rw [← HDQ.out]
        clear hd0
        go_wp2
        obtain ⟨wB, hwB⟩ : ∃ wB, wB = wr := ⟨_, rfl⟩
        rw [← hwB] at HBR ⊢
        clear hwB
        go_loopw [13, 14] (fun d i wr => ∃ (k : Nat) (b : Bool), k ≤ m ∧ d = .bool b ∧ i = .int .i64 (k : Int) ∧ wB = wr ∧ Hid (b = decide ((P : Int) ∈ namesL q xs k))) (fun _ i _ => m - (intOf i).toNat)
        case atStart => exact ⟨0, d0, Nat.zero_le _, rfl, rfl, rfl, HD0⟩
        case round =>
          obtain ⟨k, b, hk, rfl, rfl, hwr, HDK⟩ := hrel
          subst hwr
          by_cases hkm : k < m
          · obtain ⟨b', off, p1, n1, d1, p2, n2, d2, rfl, hlb, hcc, hpc⟩ := (HX.out.kept (HW.out _ HBR.out)).get k hkm
            obtain ⟨y, hy⟩ : ∃ y, y = xs.getD k default := ⟨_, rfl⟩
            rw [← hy] at hcc hpc
            have HY : Hid (y = xs.getD k default) := hy
            have HPC : Hid (PcAt wB p1 n1 d1 p2 n2 y) := hpc
            have HNL : Hid (y.maps.length = n2) := hpc.mp.len
            have hn26 : n2 ≤ 6 := by rw [← hpc.mp.len, hy]; exact HPP.out.1.1.maps k
            have hn1m : n1 ≤ 9223372036854775807 := Nat.le_trans hpc.le hpc.max
            obtain ⟨c0, c1, -, -, -, -⟩ := hcc
            have hki : (k : Int) < (m : Int) := by omega
            obtain ⟨bb, hbb⟩ : ∃ bb, bb = decide ((P : Int) ∈ namesL q xs k ++ y.pols) := ⟨_, rfl⟩
            have HBB : Hid (bb = (b || decide ((P : Int) ∈ y.pols))) := by show _ = _; rw [hbb, HDK.out]; simp
            have HB0 : Hid (bb = decide ((P : Int) ∈ namesL q xs k ++ y.pols ++ (y.maps.take 0).flatMap two)) := by show _ = _; rw [hbb]; simp
            clear hy hpc hbb HDK
            go_upto_region 17 with fail
            go_cut [13] (fun s wx => s = .bool bb ∧ wB = wx)
            case first =>
              cases b with
              | true =>
                have HT : Hid (bb = true) := HBB.out
                go_wp2
                go_meet
                exact ⟨by rw [HT.out], rfl⟩
              | false =>
                have HT : Hid (decide ((P : Int) ∈ y.pols) = bb) := HBB.out.symm
                go_wp2_with fail
                refine (hasNum_any p1 n1 d1 y.pols P _ HPC.out.pol hn1m).mono ?_
                rintro e w6 ⟨rfl, hw6⟩; have hw7 := hw6.symm; subst hw7
                rw [HT.out]
                go_wp2
                go_meet
                exact ⟨rfl, rfl⟩
            case rest =>
              obtain ⟨rfl, hwx⟩ := hcut
              subst hwx
              clear HBB
              go_wp2
              go_loopw [13, 15] (fun d t wr => ∃ (r : Nat) (b3 : Bool), r ≤ n2 ∧ d = .bool b3 ∧ t = .int .i64 (r : Int) ∧ wB = wr ∧ Hid (b3 = decide ((P : Int) ∈ namesL q xs k ++ y.pols ++ (y.maps.take r).flatMap two))) (fun _ t _ => n2 - (intOf t).toNat)
              case atStart => exact ⟨0, bb, Nat.zero_le _, rfl, rfl, rfl, HB0⟩
              case round =>
                obtain ⟨r, b3, hr, rfl, rfl, hwr, HB3⟩ := hrel
                subst hwr
                by_cases hrl : r < n2
                · obtain ⟨bo, oo, rfl, hbo, hv, hu⟩ := HPC.out.mp.get r hrl
                  obtain ⟨v, hvv⟩ : ∃ v, v = (y.maps.getD r (0, 0)).1 := ⟨_, rfl⟩
                  obtain ⟨u, huu⟩ : ∃ u, u = (y.maps.getD r (0, 0)).2 := ⟨_, rfl⟩
                  rw [← hvv] at hv
                  rw [← huu] at hu
                  have hri : (r : Int) < (n2 : Int) := by omega
                  have HBN : Hid (decide ((P : Int) ∈ namesL q xs k ++ y.pols ++ (y.maps.take (r + 1)).flatMap two) = (b3 || (v == (P : Int)) || (u == (P : Int)))) := by
                    show _ = _
                    rw [maps_next y.maps r (by rw [HNL.out]; exact hrl), ← hvv, ← huu, HB3.out]
                    rw [Bool.eq_iff_iff]
                    simp only [Bool.or_eq_true, decide_eq_true_eq, List.mem_append, List.mem_singleton, beq_iff_eq]
                    rw [@eq_comm _ v, @eq_comm _ u]
                    simp only [or_assoc]
                  clear hvv huu HB3
                  cases b3 with
                  | true =>
                    have HT : Hid (true = decide ((P : Int) ∈ namesL q xs k ++ y.pols ++ (y.maps.take (r + 1)).flatMap two)) := by show _ = _; rw [HBN.out]; rfl
                    go_wp2
                    go_roundw
                    case rel => exact ⟨r + 1, true, by omega, rfl, by go_num, by simp, HT⟩
                    case measure => simp [intOf]; omega
                  | false =>
                    by_cases hvp : v = (P : Int)
                    · have hvb : (v == (P : Int)) = true := beq_iff_eq.2 hvp
                      have HT : Hid (true = decide ((P : Int) ∈ namesL q xs k ++ y.pols ++ (y.maps.take (r + 1)).flatMap two)) := by show _ = _; rw [HBN.out, hvb]; rfl
                      clear hvp
                      go_wp2
                      go_roundw
                      case rel => exact ⟨r + 1, true, by omega, rfl, by go_num, by simp, HT⟩
                      case measure => simp [intOf]; omega
                    · have hvb : (v == (P : Int)) = false := beq_false_of_ne hvp
                      have HT : Hid ((u == (P : Int)) = decide ((P : Int) ∈ namesL q xs k ++ y.pols ++ (y.maps.take (r + 1)).flatMap two)) := by show _ = _; rw [HBN.out, hvb]; rfl
                      clear hvp
                      go_wp2
                      go_roundw
                      case rel => exact ⟨r + 1, (u == (P : Int)), by omega, rfl, by go_num, by simp, HT⟩
                      case measure => simp [intOf]; omega
                · obtain rfl : r = n2 := by omega
                  have hge2 : ¬ ((r : Int) < (r : Int)) := by omega
                  have HDN : Hid (b3 = decide ((P : Int) ∈ namesL q xs (k + 1))) := by
                    have h := HB3.out
                    rw [List.take_of_length_le (by rw [HNL.out]; exact Nat.le_refl _)] at h
                    show _ = _
                    rw [h, names_next q xs k (by rw [HL.out]; exact hkm), ← HY.out]
                    unfold nmOf
                    rw [List.append_assoc]
                  clear HB3
                  go_wp2
                  go_roundw
                  case rel => exact ⟨k + 1, b3, by omega, rfl, by go_num, by simp, HDN⟩
                  case measure => simp [intOf]; omega
          · obtain rfl : k = m := by omega
            have hge : ¬ ((k : Int) < (k : Int)) := by omega
            obtain ⟨hd, hhd⟩ : ∃ hd, hd = holdB xs b1 b2 (P : Int) := ⟨_, rfl⟩
            obtain ⟨z, hz⟩ : ∃ z, z = decide (0 ∈ q) := ⟨_, rfl⟩
            obtain ⟨bl, hbl⟩ : ∃ bl, bl = decide ((P : Int) ∈ L4) := ⟨_, rfl⟩
            have HBL : Hid (bl = (b && (z || d0) && hd)) := by
              show _ = _
              rw [hbl, HPP.out.2, HDK.out, hz, HDQ.out, hhd, Bool.eq_iff_iff, decide_eq_true_iff, mem_ppT (by omega) (by omega), HL.out]
              rfl
            have HHP : Hid (∀ W, Below w5.heap.size w5 W → Calls Try.prog 10 #[.slice ao k c, .int .i64 (P : Int), .bool b1, .bool b2] W fun e w' => e = .returned (.bool hd) ∧ Below W.heap.size W w') := fun W hW => by rw [hhd]; exact HHO.out P W (by omega) (by omega) hW
            have HOP : Hid (∀ W, Below w5.heap.size w5 W → Calls Try.prog 18 #[.slice a3 n4 c3, .int .i64 (P : Int)] W fun e w' => e = .returned (.bool bl) ∧ w' = W) := fun W hW => by rw [hbl]; exact HON.out P W hW
            have HQZ : Hid (∀ W, Below w5.heap.size w5 W → Calls Try.prog 18 #[.slice ai ni ci, .int .i64 0] W fun e w' => e = .returned (.bool z) ∧ w' = W) := fun W hW => by rw [hz]; exact HQN.out 0 W hW
            have HQP : Hid (∀ W, Below w5.heap.size w5 W → Calls Try.prog 18 #[.slice ai ni ci, .int .i64 (P : Int)] W fun e w' => e = .returned (.bool d0) ∧ w' = W) := fun W hW => by rw [HDQ.out]; exact HQN.out P W hW
            have HHD : Hid (hd = holdB xs b1 b2 (P : Int)) := hhd
            clear hhd hz hbl HDK
            go_wp2_with fail
            refine (HHP.out _ HBR.out).mono ?_
            rintro e w7 ⟨rfl, hb7⟩
            have HB7 : Hid (Below w5.heap.size w5 w7) := HBR.out.trans (hb7.mono HBR.out.size)
            clear hb7
            go_upto_region 23 with fail
            go_cut [149] (fun cv wx => cv = .bool false ∧ w7 = wx)
            case first =>
              go_wp2_with fail
              refine (HOP.out _ HB7.out).mono ?_
              rintro e w8 ⟨rfl, hw8⟩; have hw9 := hw8.symm; subst hw9
              cases b with
              | false =>
                obtain rfl : bl = false := HBL.out
                go_wp2
                go_meet
                exact ⟨rfl, rfl⟩
              | true =>
                cases hd with
                | false =>
                  obtain rfl : bl = false := by have := HBL.out; simpa using this
                  go_wp2
                  go_meet
                  exact ⟨rfl, rfl⟩
                | true =>
                  go_wp2_with fail
                  refine (HQZ.out _ HB7.out).mono ?_
                  rintro e w8 ⟨rfl, hw8⟩; have hw9 := hw8.symm; subst hw9
                  cases z with
                  | true =>
                    obtain rfl : bl = true := HBL.out
                    go_wp2
                    go_meet
                    exact ⟨rfl, rfl⟩
                  | false =>
                    obtain rfl : bl = d0 := by have := HBL.out; simpa using this
                    go_wp2_with fail
                    refine (HQP.out _ HB7.out).mono ?_
                    rintro e w8 ⟨rfl, hw8⟩; have hw9 := hw8.symm; subst hw9
                    have tb : (bl != bl) = false := by simp
                    go_wp2
                    go_meet
                    exact ⟨by first | rfl | rw [tb], rfl⟩
            case rest =>
              obtain ⟨rfl, hwx⟩ := hcut
              subst hwx
              clear HHP HOP HQZ HQP HBL
              have HB8 : Hid (Below w5.heap.size w5 (w7.alloc (.cells #[.int .i64 (P : Int)] 2))) := HB7.out.alloc HB7.out.size _
              have HR8 : Hid (Row64 (w7.alloc (.cells #[.int .i64 (P : Int)] 2)) (some ⟨w7.heap.size, 0, none⟩) 1 [(P : Int)]) := (ownL_one w7 _).toRow
              go_wp2_with fail
              refine (implPathPolicies_any ao k c xs _ 1 1 [(P : Int)] false b1 b2 _ (HX.out.kept (HW.out _ HB8.out)) HR8.out (by decide)).mono ?_
              rintro e w9 ⟨a9, n9, c9, L9, e9, rfl, hp9, ho9, hl9, hb9⟩
              have HB9 : Hid (Below w5.heap.size w5 w9) := HB8.out.trans (hb9.mono HB8.out.size)
              have hl := ho9.len
              have HE : Hid ((e9 = true → n9 = if hd = true then 1 else 0) ∧ (e9 = false → hd = false)) := by
                have e1 : ppT xs [(P : Int)] b1 b2 = if hd = true then [(P : Int)] else [] := by rw [HHD.out]; exact pp_one (by omega) (by omega)
                rcases hp9 with ⟨rfl, h1, h2⟩ | ⟨rfl, h1, h2⟩
                · refine ⟨fun _ => ?_, fun h => (by cases h)⟩
                  rw [← hl, h2, e1]
                  cases hd <;> rfl
                · refine ⟨fun h => (by cases h), fun _ => ?_⟩
                  cases hd with
                  | false => rfl
                  | true =>
                    refine absurd ⟨HPP.out.1.1, ⟨by simp, fun j hj => ?_⟩, fun h => ?_⟩ h1
                    · have : j = 0 := by simpa using hj
                      subst this
                      show 0 ≤ (P : Int) ∧ (P : Int) ≤ 1000
                      omega
                    · rw [e1] at h; exact absurd h.1 (by simp)
              clear hp9 ho9 hb9 hl HB8 HR8
              cases e9 with
              | true =>
                cases hd with
                | true =>
                  obtain rfl : n9 = 1 := HE.out.1 rfl
                  go_wp2
                  go_roundw
                  case rel => exact ⟨P + 1, by omega, by omega, by go_num, HB9⟩
                  case measure => simp [intOf]; omega
                | false =>
                  obtain rfl : n9 = 0 := HE.out.1 rfl
                  go_wp2
                  go_roundw
                  case rel => exact ⟨P + 1, by omega, by omega, by go_num, HB9⟩
                  case measure => simp [intOf]; omega
              | false =>
                obtain rfl : hd = false := HE.out.2 rfl
                go_wp2
                go_roundw
                case rel => exact ⟨P + 1, by omega, by omega, by go_num, HB9⟩
                case measure => simp [intOf]; omega
      · have hge7 : ¬ ((P : Int) < 7) := by omega
        have HIM : Hid (∀ (bm ba : Bool) (W : World), (b1 = true → bm = true) → (b2 = true → ba = true) → Below w5.heap.size w5 W → Calls Try.prog 15 #[.slice ao m c, .slice ai ni ci, .bool false, .bool bm, .bool ba] W fun e w' => ∃ a' n' c' L' ok', e = .returned (.tuple #[.slice a' n' c', .bool ok']) ∧ Hid (Row64 w' a' n' L' ∧ n' ≤ 1001 ∧ ∀ x, x ∈ L' → x ∈ L4) ∧ Below W.heap.size W w') := fun bm ba W h1 h2 hW => (implPathPolicies_any ao m c xs ai ni ci q false bm ba W (HX.out.kept (HW.out W hW)) (HQ.out.kept (HW.out W hW)) (by omega)).mono (fun e w' h => by
          obtain ⟨a', n', c', L', ok', rfl, hp, ho, hl, hb⟩ := h
          refine ⟨a', n', c', L', ok', rfl, ⟨ho.toRow, hl, fun x hx => ?_⟩, hb⟩
          rcases hp with ⟨_, _, rfl⟩ | ⟨_, _, rfl⟩
          · rw [HPP.out.2]; exact told_fewer (fun p hh => holdB_mono xs h1 h2 p hh) x hx
          · cases hx)
        go_wp2
        go_loopw [19] (fun kv wr => ∃ k : Nat, k ≤ 2 ∧ kv = .int .i64 (k : Int) ∧ Hid (Below w5.heap.size w5 wr)) (fun kv _ => 2 - (intOf kv).toNat)
        case atStart => exact ⟨0, by decide, rfl, HBR⟩
        case round =>
          obtain ⟨k, hk2, rfl, HBK⟩ := hrel
          by_cases hkl : k < 2
          · go_upto_region 31 with fail
            go_cut [20] (fun s wx => ∃ a' n' c' L', s = .slice a' n' c' ∧ Hid (Row64 wx a' n' L' ∧ n' ≤ 1001 ∧ ∀ x, x ∈ L' → x ∈ L4) ∧ Hid (Below w5.heap.size w5 wx))
            case first =>
              have hk01 : k = 0 ∨ k = 1 := by omega
              rcases hk01 with rfl | rfl <;> cases b1 <;> cases b2
              all_goals (
                go_wp2_with fail
                refine (HIM.out _ _ _ (by simp) (by simp) HBK.out).mono ?_
                rintro e wx ⟨a', n', c', L', ok', rfl, hr', hbx⟩
                have HBX : Hid (Below w5.heap.size w5 wx) := HBK.out.trans (hbx.mono HBK.out.size)
                have HR' : Hid (Row64 wx a' n' L' ∧ n' ≤ 1001 ∧ ∀ x, x ∈ L' → x ∈ L4) := hr'
                clear hbx hr'
                go_wp2
                go_meet
                exact ⟨a', n', c', L', rfl, HR', HBX⟩)
            case rest =>
              obtain ⟨a', n', c', L', rfl, HR', HBX⟩ := hcut
              have hn' : n' ≤ 1001 := HR'.out.2.1
              go_wp2
              obtain ⟨wB, hwB⟩ : ∃ wB, wB = wc := ⟨_, rfl⟩
              rw [← hwB] at HBX HR' ⊢
              clear hwB
              go_loopw [22] (fun i wr => ∃ j : Nat, j ≤ n' ∧ i = .int .i64 (j : Int) ∧ wB = wr) (fun i _ => n' - (intOf i).toNat)
              case atStart => exact ⟨0, Nat.zero_le _, rfl, rfl⟩
              case round =>
                obtain ⟨j, hj, rfl, hwr⟩ := hrel
                subst hwr
                by_cases hjl : j < n'
                · obtain ⟨b', off, rfl, hb', hc'⟩ := HR'.out.1.get j hjl
                  obtain ⟨z, hz⟩ : ∃ z, z = L'.getD j 0 := ⟨_, rfl⟩
                  rw [← hz] at hc'
                  have HZ : Hid (decide (z ∈ L4) = true) := decide_eq_true (HR'.out.2.2 z (by
                    have hl : j < L'.length := by rw [HR'.out.1.len]; exact hjl
                    rw [hz, List.getD_eq_getElem?_getD, List.getElem?_eq_getElem hl]
                    exact List.getElem_mem hl))
                  clear hz
                  go_wp2_with fail
                  refine (HON.out z _ HBX.out).mono ?_
                  rintro e w6 ⟨rfl, hw6⟩; have hw7 := hw6.symm; subst hw7
                  rw [HZ.out]
                  go_wp2
                  go_roundw
                  case rel => exact ⟨j + 1, by omega, by go_num, by simp⟩
                  case measure => simp [intOf]; omega
                · obtain rfl : j = n' := by omega
                  go_wp2
                  go_roundw
                  case rel => exact ⟨k + 1, by omega, by go_num, HBX⟩
                  case measure => simp [intOf]; omega
          · obtain rfl : k = 2 := by omega
            go_wp2_with fail
            refine (lives_any _).mono ?_
            rintro e w6 ⟨rfl, hb6⟩
            have HF : Hid (Below w.heap.size w w6) := HFB.out _ (HBK.out.trans (hb6.mono HBK.out.size))
            clear hb6
            go_wp2
            go_ret
            exact ⟨rfl, HF.out⟩

end Go.Proofs.Ytdkgilkjcndonaa
