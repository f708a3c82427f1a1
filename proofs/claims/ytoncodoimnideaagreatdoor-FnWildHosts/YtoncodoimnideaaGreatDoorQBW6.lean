import Derived.Test.YtoncodoimnideaaGreatDoorQBW6a
namespace Go.Proofs.YtoncodoimnideaaGreatDoor
open Go.RowKit

set_option maxRecDepth 100000 in
set_option maxRecDepth 10000 in
set_option maxHeartbeats 4000000 in
theorem lawWildHosts_walk (a0 : Option Addr) (n0 c0 : Nat) (z0 : List Int) (a1 : Option Addr) (n1 c1 : Nat) (z1 : List Int) (w : World) (hM : MaxW w) (hr0 : IsRow .u8 w a0 n0 c0 z0) (hr1 : IsRow .u8 w a1 n1 c1 z1) :
    Calls Tryz.prog 3 #[.slice a0 n0 c0, .slice a1 n1 c1] w fun e w' => e = .returned (.bool true) ∧ Below w.heap.size w w' := by
  obtain ⟨hrow0, hmax0⟩ := hr0.row
  obtain ⟨hrow1, hmax1⟩ := hr1.row
  obtain ⟨x0, hx0⟩ : ∃ bs, bs = z0.take n0 := ⟨_, rfl⟩
  obtain ⟨x1, hx1⟩ : ∃ bs, bs = z1.take n1 := ⟨_, rfl⟩
  rw [← hx0] at hrow0
  rw [← hx1] at hrow1
  clear hx0 hx1 hr0 hr1
  unfold maxLen at hmax0 hmax1
  have HR0 : Hid (Row w a0 n0 x0) := hrow0
  have HR1 : Hid (Row w a1 n1 x1) := hrow1
  have HM : Hid (MaxW w) := hM
  clear hrow0 hrow1 hM
  by_cases hb0 : 1048576 < (n0 : Int)
  · have hd0 : decide (1048576 < (n0 : Int)) = true := by simp; omega
    go_enter Tryz.func3, Tryz.ntmps3
    go_wp2_with fail
    refine (big_any8 a0 n0 c0 _ (by omega)).mono ?_
    rintro e w' ⟨rfl, rfl⟩
    rw [hd0]
    go_wp2
    go_ret
    exact ⟨rfl, Below.refl _ _⟩
  have hd0 : decide (1048576 < (n0 : Int)) = false := by simp; omega
  by_cases hb1 : 1048576 < (n1 : Int)
  · have hd1 : decide (1048576 < (n1 : Int)) = true := by simp; omega
    go_enter Tryz.func3, Tryz.ntmps3
    go_wp2_with fail
    refine (big_any8 a0 n0 c0 _ (by omega)).mono ?_
    rintro e w' ⟨rfl, rfl⟩
    rw [hd0]
    go_wp2_with fail
    refine (big_any8 a1 n1 c1 _ (by omega)).mono ?_
    rintro e w' ⟨rfl, rfl⟩
    rw [hd1]
    go_wp2
    go_ret
    exact ⟨rfl, Below.refl _ _⟩
  have hd1 : decide (1048576 < (n1 : Int)) = false := by simp; omega
  go_enter Tryz.func3, Tryz.ntmps3
  go_wp2_with fail
  refine (big_any8 a0 n0 c0 _ (by omega)).mono ?_
  rintro e w' ⟨rfl, rfl⟩
  rw [hd0]
  go_wp2_with fail
  refine (big_any8 a1 n1 c1 _ (by omega)).mono ?_
  rintro e w' ⟨rfl, rfl⟩
  rw [hd1]
  clear hd0 hd1
  go_wp2_with fail
  refine (drawHostMatch_any a0 n0 c0 x0 _ HR0.out (by omega)).mono ?_
  rintro e w1 ⟨p, h, rfl, hp, hh, hb⟩
  have B1 : Hid (Below w.heap.size w w1) := hb
  clear hb
  go_wp2_with fail
  refine (drawWithin_any a1 n1 c1 x1 _ (HR1.out.kept B1.out) (by omega)).mono ?_
  rintro e w2 ⟨⟨xk, xt, xad, xbi⟩, xa, xm, xc, xs, ⟨k, t, ad, bi⟩, a, m, c, ys, rfl, _, ⟨ht, hm⟩, _, ho, hb⟩
  replace ht : t.size ≤ 100 := ht
  have B2 : Hid (Below w.heap.size w w2) := B1.out.trans (hb.mono B1.out.size)
  have HO : Hid (OwnPt w1.heap.size w2 a m c ys) := ho
  clear hb ho B1
  unfold gnv
  dsimp only
  obtain ⟨w3, hw3⟩ : ∃ w3, w3 = (w2.alloc (.cells #[.int .i64 xk, .string xt, .int .i64 xad, .int .i64 xbi, .slice xa xm xc] 30)).alloc (.cells #[.int .i64 k, .string t, .int .i64 ad, .int .i64 bi, .slice a m c] 30) := ⟨_, rfl⟩
  have hbb : Below w2.heap.size w2 w3 := by rw [hw3]; exact ((Below.refl _ _).alloc (Nat.le_refl _) _).alloc (by simp) _
  have HX3 : Hid (w3.heap[w2.heap.size + 1]? = some (.cells #[.int .i64 k, .string t, .int .i64 ad, .int .i64 bi, .slice a m c] 30 (0, 0))) := by
    show _ = _; rw [hw3]; have := heap_alloc_new (w2.alloc (.cells #[.int .i64 xk, .string xt, .int .i64 xad, .int .i64 xbi, .slice xa xm xc] 30)) (.cells #[.int .i64 k, .string t, .int .i64 ad, .int .i64 bi, .slice a m c] 30 (0, 0)); simpa using this
  have B3 : Hid (Below w.heap.size w w3) := B2.out.trans (hbb.mono B2.out.size)
  have HP3 : Hid (Pts w3 a m ys ∧ SmP m ys) := ⟨(HO.out.pts (by omega)).kept hbb, HO.out.smP⟩
  have HL3 : Hid (w2.heap.size + 1 < w3.heap.size) := (Array.getElem?_eq_some_iff.1 HX3.out).1
  have HW3 : Hid (_ = _) := hw3
  clear hw3 hbb HO
  go_upto_region 5 with fail
  rw [← HW3.out]
  clear HW3
  obtain ⟨b8, hb8⟩ : ∃ b8, b8 = w2.heap.size + 1 := ⟨_, rfl⟩
  have HBW : Hid (w.heap.size ≤ b8) := by have := B2.out.size; show _ ≤ _; omega
  simp only [← hb8]
  rw [← hb8] at HX3 HL3
  clear hb8 B2
  obtain ⟨q0, q1, q2, q3, q4⟩ := gcells HX3.out
  go_upto_if 33 with fail
  go_cut [35] (fun _ wx => ∃ (t : ByteArray) (ad bi : Int) (a : Option Addr) (m c : Nat) (ys : List PT), t.size ≤ 100 ∧ Hid (wx.heap[b8]? = some (.cells #[.int .i64 1, .string t, .int .i64 ad, .int .i64 bi, .slice a m c] 30 (0, 0)) ∧ Below w.heap.size w wx ∧ Pts wx a m ys ∧ SmP m ys))
  case first =>
    by_cases hk : k = 1
    · subst hk
      go_wp2_with fail
      go_meet
      exact ⟨_, _, _, _, _, _, _, ht, HX3.out, B3.out, HP3.out.1, HP3.out.2⟩
    · have hkb : (k == 1) = false := beq_false_of_ne hk
      have hXN : Hid (((w3.setRow b8 #[.int .i64 1, .string h, .int .i64 0, .int .i64 0, .slice none 0 0]).heap[b8]? = some (.cells #[.int .i64 1, .string h, .int .i64 0, .int .i64 0, .slice none 0 0] 30 (0, 0))) ∧ Below w.heap.size w (w3.setRow b8 #[.int .i64 1, .string h, .int .i64 0, .int .i64 0, .slice none 0 0])) := by
        refine ⟨setRow_heap _ _ _ _ _ _ HX3.out, B3.out.os, B3.out.tape, B3.out.output, by simpa using B3.out.size, fun l hl => (setRow_other _ _ _ _ ?_).trans (B3.out.block l hl)⟩
        have := HBW.out
        omega
      go_wp2_with (refine wpList_store_rowTo rfl 30 _ _ rfl rfl b8 #[.int .i64 1, .string h, .int .i64 0, .int .i64 0, .slice none 0 0] rfl rfl 30 #[.int .i64 k, .string t, .int .i64 ad, .int .i64 bi, .slice a m c] HX3.out infoSizeGn rfl (by simp [Value.oneCell']) ?_)
      go_meet
      exact ⟨_, _, _, _, _, _, _, hh, hXN.out.1, hXN.out.2, pts_none _, smP_none⟩
  case rest =>
  clear q0 q1 q2 q3 q4 HX3 B3 HP3 ht
  obtain ⟨t, ad, bi, a, m, c, ys, ht, HS⟩ := hcut
  obtain ⟨w4, hw4⟩ : ∃ w4, w4 = (wc.alloc (.cells #[.int .i64 1, .string p, .int .i64 0, .int .i64 0, .slice none 0 0] 30)).alloc (.cells #[.int .i64 1, .string h, .int .i64 0, .int .i64 0, .slice none 0 0] 30) := ⟨_, rfl⟩
  have hbb : Below wc.heap.size wc w4 := by rw [hw4]; exact ((Below.refl _ _).alloc (Nat.le_refl _) _).alloc (by simp) _
  have S4 : Hid (WH w w4 p h b8 wc.heap.size (wc.heap.size + 1) 1 t ad bi a m c ys) := by
    have B4 : Below w.heap.size w w4 := HS.out.2.1.trans (hbb.mono HS.out.2.1.size)
    refine ⟨B4, HM.out.kept B4, (hbb.block _ (Array.getElem?_eq_some_iff.1 HS.out.1).1).trans HS.out.1, ?_, ?_, HS.out.2.2.1.kept hbb, HS.out.2.2.2, ht⟩
    · rw [hw4]; exact (((Below.refl _ _).alloc (Nat.le_refl _) _).block wc.heap.size (by simp)).trans (heap_alloc_new wc _)
    · rw [hw4]; have := heap_alloc_new (wc.alloc (.cells #[.int .i64 1, .string p, .int .i64 0, .int .i64 0, .slice none 0 0] 30)) (.cells #[.int .i64 1, .string h, .int .i64 0, .int .i64 0, .slice none 0 0] 30 (0, 0)); simpa using this
  have HW4 : Hid (_ = _) := hw4
  clear hw4 hbb HS
  go_upto_region 9 with fail
  rw [← HW4.out]
  clear HW4
  obtain ⟨b9, hb9⟩ : ∃ b9, b9 = wc.heap.size := ⟨_, rfl⟩
  rw [← hb9] at S4
  simp only [← hb9]
  obtain ⟨b10, hb10⟩ : ∃ b10, b10 = b9 + 1 := ⟨_, rfl⟩
  rw [← hb10] at S4
  simp only [← hb10]
  clear hb9 hb10
  -- what the host's own contracts ask
  go_wp2_with fail
  refine (implHostMatch_any p h _ S4.out.max).mono ?_
  rintro e w5 ⟨me, rfl, HME, hb⟩
  have S5 : Hid (WH w w5 p h b8 b9 b10 1 t ad bi a m c ys) := S4.out.step hb
  clear hb S4
  go_upto_region 10 with fail
  go_cut [70] (fun v wx => v = .bool false ∧ Hid (WH w wx p h b8 b9 b10 1 t ad bi a m c ys))
  case first => as_aux_lemma =>
    go_wp2_with fail
    refine (specHostMatch_any p h _).mono ?_
    rintro e w6 ⟨me2, rfl, HM2, hb⟩
    have S6 : Hid (WH w w6 p h b8 b9 b10 1 t ad bi a m c ys) := S5.out.step hb
    have hme : me2 = me := says_same HM2.out HME.out
    subst hme
    clear hb S5 HM2
    have hxx : (me2 != me2) = false := by simp
    cases me2 with
    | false =>
      go_wp2_with fail
      go_meet
      exact ⟨rfl, S6⟩
    | true =>
      have HMP : Hid (matchP p h) := HME.out.1 rfl
      go_wp2_with fail
      refine (implHostOk_any h false _ S6.out.max).mono ?_
      rintro e w7 ⟨o1, rfl, HB, hb⟩
      obtain rfl : o1 = true := HB.out.2 HMP.out.1
      have S7 : Hid (WH w w7 p h b8 b9 b10 1 t ad bi a m c ys) := S6.out.step hb
      clear hb HB S6
      go_wp2_with fail
      refine (implHostOk_any p true _ S7.out.max).mono ?_
      rintro e w8 ⟨o1, rfl, HB, hb⟩
      obtain rfl : o1 = true := HB.out.2 HMP.out.2.1
      have S8 : Hid (WH w w8 p h b8 b9 b10 1 t ad bi a m c ys) := S7.out.step hb
      clear hb HB S7
      obtain ⟨q0, q1, q2, q3, q4⟩ := gcells S8.out.x9
      go_wp2_with fail
      refine (cGenI 1 p 0 0 none 0 0 [] _ S8.out.max (pts_none _) smP_none (by omega)).mono ?_
      rintro e w9 ⟨o1, rfl, HB, hb⟩
      obtain rfl : o1 = true := HB.out.2 (genP_host HMP.out.2.1)
      have S9 : Hid (WH w w9 p h b8 b9 b10 1 t ad bi a m c ys) := S8.out.step hb
      clear hb HB S8 q0 q1 q2 q3 q4
      obtain ⟨q0, q1, q2, q3, q4⟩ := gcells S9.out.x10
      go_wp2_with fail
      refine (cGenI 1 h 0 0 none 0 0 [] _ S9.out.max (pts_none _) smP_none (by omega)).mono ?_
      rintro e w10 ⟨o1, rfl, HB, hb⟩
      obtain rfl : o1 = true := HB.out.2 (genP_host (host_wild HMP.out.1))
      have S10 : Hid (WH w w10 p h b8 b9 b10 1 t ad bi a m c ys) := S9.out.step hb
      clear hb HB S9 q0 q1 q2 q3 q4
      go_wp2_with fail
      go_meet
      exact ⟨rfl, S10⟩
  case rest =>
  obtain ⟨rfl, S6⟩ := hcut
  clear S5
  obtain ⟨q0, q1, q2, q3, q4⟩ := gcells S6.out.x8
  obtain ⟨r0, r1, r2, r3, r4⟩ := gcells S6.out.x9
  go_wp2_with fail
  refine (cWithinI 1 p 0 0 none 0 0 [] 1 t ad bi a m c ys _ S6.out.max (pts_none _) smP_none (by omega) S6.out.pts S6.out.sm (by have := S6.out.t; omega)).mono ?_
  rintro e w7 ⟨wi, rfl, HWI, hb⟩
  have S7 : Hid (WH w w7 p h b8 b9 b10 1 t ad bi a m c ys) := S6.out.step hb
  clear hb S6 q0 q1 q2 q3 q4 r0 r1 r2 r3 r4
  go_upto_region 13 with fail
  go_cut [90] (fun v wx => v = .bool false ∧ Hid (WH w wx p h b8 b9 b10 1 t ad bi a m c ys))
  case first => as_aux_lemma =>
    obtain ⟨q0, q1, q2, q3, q4⟩ := gcells S7.out.x8
    obtain ⟨r0, r1, r2, r3, r4⟩ := gcells S7.out.x9
    go_wp2_with fail
    refine (cWithinS 1 p 0 0 none 0 0 [] 1 t ad bi a m c ys _ (pts_none _) smP_none (by omega) S7.out.pts S7.out.sm (by have := S7.out.t; omega)).mono ?_
    rintro e w8 ⟨wi2, rfl, HW2, hb⟩
    have S8 : Hid (WH w w8 p h b8 b9 b10 1 t ad bi a m c ys) := S7.out.step hb
    have hwi : wi2 = wi := says_same HW2.out HWI.out
    subst hwi
    clear hb S7 HW2 q0 q1 q2 q3 q4 r0 r1 r2 r3 r4
    have hxx : (wi2 != wi2) = false := by simp
    cases me with
    | false =>
      go_wp2_with fail
      go_meet
      exact ⟨rfl, S8⟩
    | true =>
      cases wi2 with
      | false =>
        go_wp2_with fail
        go_meet
        exact ⟨rfl, S8⟩
      | true =>
        have HMP : Hid (matchP p h) := HME.out.1 rfl
        have HIN : Hid (withinP ⟨1, h, 0, 0⟩ [] ⟨1, t, ad, bi⟩ ys) := by
          have h1 := within_host.1 (HWI.out.1 rfl)
          exact within_host.2 ⟨host_wild HMP.out.1, h1.2.1, match_within HMP.out h1.2.2⟩
        obtain ⟨q0, q1, q2, q3, q4⟩ := gcells S8.out.x8
        obtain ⟨r0, r1, r2, r3, r4⟩ := gcells S8.out.x10
        go_wp2_with fail
        refine (cWithinI 1 h 0 0 none 0 0 [] 1 t ad bi a m c ys _ S8.out.max (pts_none _) smP_none (by omega) S8.out.pts S8.out.sm (by have := S8.out.t; omega)).mono ?_
        rintro e w9 ⟨o1, rfl, HB, hb⟩
        obtain rfl : o1 = true := HB.out.2 HIN.out
        have S9 : Hid (WH w w9 p h b8 b9 b10 1 t ad bi a m c ys) := S8.out.step hb
        clear hb HB S8 q0 q1 q2 q3 q4 r0 r1 r2 r3 r4
        go_wp2_with fail
        go_meet
        exact ⟨rfl, S9⟩
  case rest =>
  obtain ⟨rfl, S8⟩ := hcut
  clear S7 HME
  go_wp2_with fail
  refine (specHostOk_any p true _).mono ?_
  rintro e w9 ⟨o1, rfl, HH, hb⟩
  have S9 : Hid (WH w w9 p h b8 b9 b10 1 t ad bi a m c ys) := S8.out.step hb
  clear hb S8
  have LIVE : Hid (∀ {W : World}, Below w.heap.size w W → Calls Tryz.prog 16 #[] W fun e w' => e = .returned (.bool true) ∧ Below w.heap.size w w') := fun {W} hB => (lives_any W).mono fun e w' ⟨h1, h2⟩ => ⟨h1, hB.trans (h2.mono hB.size)⟩
  cases o1 with
  | false =>
    go_wp2_with fail
    refine (LIVE.out S9.out.below).mono ?_
    rintro e w10 ⟨rfl, hb⟩
    go_wp2
    go_ret
    exact ⟨rfl, hb⟩
  | true =>
    have HP : Hid (hostP p true) := HH.out.1 rfl
    clear HH
    obtain ⟨q0, q1, q2, q3, q4⟩ := gcells S9.out.x8
    go_wp2_with fail
    refine (cBaseS 1 t ad bi a m c ys _ S9.out.pts S9.out.sm (by have := S9.out.t; omega)).mono ?_
    rintro e w10 ⟨o2, rfl, HB, hb⟩
    have S10 : Hid (WH w w10 p h b8 b9 b10 1 t ad bi a m c ys) := S9.out.step hb
    clear hb S9 q0 q1 q2 q3 q4
    cases o2 with
    | false =>
      go_wp2_with fail
      refine (LIVE.out S10.out.below).mono ?_
      rintro e w11 ⟨rfl, hb⟩
      go_wp2
      go_ret
      exact ⟨rfl, hb⟩
    | true =>
      have HBB : Hid (baseP ⟨1, t, ad, bi⟩ ys) := HB.out.1 rfl
      clear HB
      cases wi with
      | true =>
        go_wp2_with fail
        refine (LIVE.out S10.out.below).mono ?_
        rintro e w11 ⟨rfl, hb⟩
        go_wp2
        go_ret
        exact ⟨rfl, hb⟩
      | false =>
        have HNR : Hid (¬ relH p t) := fun q => by
          have := HWI.out.2 (within_host.2 ⟨HP.out, HBB.out, q⟩)
          cases this
        clear HWI
        have hp0 : 0 < p.size := hostP_pos HP.out
        have hp1 : (1 : Int) ≤ (p.size : Int) := by omega
        by_cases hc : cAt p 0 = 42
        · have hf : ((p.extract 0 1).toList == [42]) = true := (first_star hp0).2 hc
          have HC : Hid (cAt p 0 = 42) := hc
          clear hc
          obtain ⟨p1, hq1⟩ : ∃ q, q = p.extract 1 p.size := ⟨_, rfl⟩
          have hz1 : p1.size = p.size - 1 := by rw [hq1, ext_sz _ _ _ (Nat.le_refl _)]
          have he1 : p.extract 1 p.size = p1 := hq1.symm
          have hs1 : ¬ 9223372036854775807 < 1 + p1.size := by omega
          have hs2 : ¬ 9223372036854775807 < 1 + (p.size - 1) := by omega
          have HE1 : Hid (p.extract 1 p.size = p1) := he1
          clear hq1
          go_wp2_with fail
          have HO : Hid (matchP p (⟨#[113]⟩ ++ p1) ∧ matchP p (⟨#[114]⟩ ++ p1) ∧ ¬ (relH (⟨#[113]⟩ ++ p1) t ∧ relH (⟨#[114]⟩ ++ p1) t)) := by
            rw [← HE1.out]
            exact ⟨letter_match HP.out HC.out 113 (.inl (by decide)), letter_match HP.out HC.out 114 (.inl (by decide)), letters_out HP.out HC.out HNR.out⟩
          obtain ⟨o, ho⟩ : ∃ o : ByteArray, o = ⟨#[113]⟩ ++ p1 := ⟨_, rfl⟩
          obtain ⟨u, hu⟩ : ∃ u : ByteArray, u = ⟨#[114]⟩ ++ p1 := ⟨_, rfl⟩
          have hos : o.size ≤ 100 := by rw [ho, app_size]; show 1 + p1.size ≤ 100; omega
          have hus : u.size ≤ 100 := by rw [hu, app_size]; show 1 + p1.size ≤ 100; omega
          rw [← ho, ← hu] at HO
          clear hz1 hs1 hs2 he1 hf
          rw [← ho, ← hu]
          clear ho hu
          refine (implHostMatch_any p o _ S10.out.max).mono ?_
          rintro e w11 ⟨o3, rfl, HB, hb⟩
          obtain rfl : o3 = true := HB.out.2 HO.out.1
          have S11 : Hid (WH w w11 p h b8 b9 b10 1 t ad bi a m c ys) := S10.out.step hb
          clear hb HB S10
          go_wp2_with fail
          refine (implHostMatch_any p u _ S11.out.max).mono ?_
          rintro e w12 ⟨o4, rfl, HB, hb⟩
          obtain rfl : o4 = true := HB.out.2 HO.out.2.1
          have S12 : Hid (WH w w12 p h b8 b9 b10 1 t ad bi a m c ys) := S11.out.step hb
          clear hb HB S11
          go_wp2_with fail
          refine (lives_any _).mono ?_
          rintro e w13 ⟨rfl, hb⟩
          have S13 : Hid (WH w w13 p h b8 b9 b10 1 t ad bi a m c ys) := S12.out.step hb
          clear hb S12
          obtain ⟨q0, q1, q2, q3, q4⟩ := gcells S13.out.x8
          go_wp2_with fail
          refine (cWithinI 1 o 0 0 none 0 0 [] 1 t ad bi a m c ys _ S13.out.max (pts_none _) smP_none (by omega) S13.out.pts S13.out.sm (by have := S13.out.t; omega)).mono ?_
          rintro e w14 ⟨o5, rfl, H5, hb⟩
          have S14 : Hid (WH w w14 p h b8 b9 b10 1 t ad bi a m c ys) := S13.out.step hb
          clear hb S13 q0 q1 q2 q3 q4
          cases o5 with
          | false =>
            go_wp2
            go_ret
            exact ⟨rfl, S14.out.below⟩
          | true =>
            obtain ⟨q0, q1, q2, q3, q4⟩ := gcells S14.out.x8
            go_wp2_with fail
            refine (cWithinI 1 u 0 0 none 0 0 [] 1 t ad bi a m c ys _ S14.out.max (pts_none _) smP_none (by omega) S14.out.pts S14.out.sm (by have := S14.out.t; omega)).mono ?_
            rintro e w15 ⟨o6, rfl, H6, hb⟩
            have S15 : Hid (WH w w15 p h b8 b9 b10 1 t ad bi a m c ys) := S14.out.step hb
            clear hb S14 q0 q1 q2 q3 q4
            cases o6 with
            | false =>
              go_wp2
              go_ret
              exact ⟨rfl, S15.out.below⟩
            | true => exact absurd ⟨(within_host.1 (H5.out.1 (by first | exact trivial | rfl))).2.2, (within_host.1 (H6.out.1 (by first | exact trivial | rfl))).2.2⟩ HO.out.2.2
        · have hf : ((p.extract 0 1).toList == [42]) = false := by rw [Bool.eq_false_iff]; exact fun q => hc ((first_star hp0).1 q)
          go_wp2_with fail
          refine (LIVE.out S10.out.below).mono ?_
          rintro e w11 ⟨rfl, hb⟩
          go_wp2_with fail
          refine (implHostMatch_any p p _ (HM.out.kept hb)).mono ?_
          rintro e w12 ⟨o3, rfl, HB, hb2⟩
          obtain rfl : o3 = true := HB.out.2 (match_self HP.out hc)
          go_wp2
          go_ret
          exact ⟨rfl, hb.trans (hb2.mono hb.size)⟩

end Go.Proofs.YtoncodoimnideaaGreatDoor

