import Derived.Test.YtphhelhhploacaaBL1
namespace Go.Proofs.Ytphhelhhploacaa
open Go.RowKit

/-- Another text and signature: it could have been this asking. -/
structure BlT2 (x y r : Int) (ms2 : List Int) (q s E2 S2 : Int) : Prop where
  sign : signR x ms2 = ((E2, S2), true)
  eb : 0 ≤ E2 ∧ E2 ≤ 500000002
  sb : 0 ≤ S2 ∧ S2 ≤ 500000002
  ask : askR y r ms2 ((S2 - s + 500000003) % 500000003) ((E2 - q + 500000003) % 500000003) = (q, E2, true)
  done : doneR s ((S2 - s + 500000003) % 500000003) E2 = ((E2, S2), true)
/-- All that a blind asking tells. -/
structure BlT (x k y r : Int) (ms : List Int) (a b q e s s1 : Int) : Prop where
  ask : askR y r ms a b = (q, e, true)
  qb : 0 ≤ q ∧ q ≤ 500000002
  sb : 0 ≤ s ∧ s ≤ 500000002
  ans : ansR x k q = (s, true)
  done : doneR s a e = ((e, s1), true)
  ver : decide (verP y ms (e, s1)) = true
  two : ∀ ms2, ∃ E2 S2, BlT2 x y r ms2 q s E2 S2
theorem blind_tells (x k y r : Int) (ms : List Int) (a b : Int) (hx : secP x) (hk : secP k) (hy : keyOf x = y) (hr : keyOf k = r) (ha : expP a) (hb : expP b) : ∃ q e s s1, BlT x k y r ms a b q e s s1 := by
  have hy' : y = gp 4 x := by rw [← hy]; exact if_pos hx
  have hr' : r = gp 4 k := by rw [← hr]; exact if_pos hk
  have ky := keyP_of x hx
  have kr := keyP_of k hk
  subst hy' hr'
  obtain ⟨e, he⟩ : ∃ e, e = askE (gp 4 x) (gp 4 k) ms a b := ⟨_, rfl⟩
  have heb : expP e := by rw [he]; exact chalN_bd _ _ _
  obtain ⟨q, hq⟩ : ∃ q, q = (e - b) % 500000003 := ⟨_, rfl⟩
  have hqb : expP q := by rw [hq]; exact modQ_bd _
  obtain ⟨s, hs⟩ : ∃ s, s = (k + q * x) % 500000003 := ⟨_, rfl⟩
  have hsb : expP s := by rw [hs]; exact modQ_bd _
  refine ⟨q, e, s, (s + a) % 500000003, ⟨?_, hqb, hsb, ?_, if_pos ⟨hsb, ha, heb⟩, ?_, ?_⟩⟩
  · rw [askR, if_pos ⟨ky, kr, ha, hb⟩, ← he, ← hq]
  · rw [ansR, if_pos ⟨hx, hk, hqb⟩, ← hs]
  · have hm := blind_ver x k a b e hx hk ha hb heb
    rw [← hq, ← hs] at hm
    rw [verP_eq _ ms _ _ _ ky heb (modQ_bd _) hm]
    have : chalN (movN (gp 4 k) (gp 4 x) a b) (gp 4 x) ms = e := he.symm
    rw [this]
    simp
  · intro ms2
    have hn := nonN_bd x ms2
    obtain ⟨E2, hE2⟩ : ∃ E2, E2 = sigE x ms2 := ⟨_, rfl⟩
    obtain ⟨S2, hS2⟩ : ∃ S2, S2 = (nonN x ms2 + E2 * x) % 500000003 := ⟨_, rfl⟩
    have hEb : expP E2 := by rw [hE2]; exact chalN_bd _ _ _
    have hSb : expP S2 := by rw [hS2]; exact modQ_bd _
    have hm := blind_two x k q (nonN x ms2) E2 s S2 _ _ hx hk (by omega) hs hS2 rfl rfl
    have hch : chalN (gp 4 (nonN x ms2)) (gp 4 x) ms2 = E2 := by rw [hE2]; unfold sigE; rw [hy]
    obtain ⟨e1, e2⟩ := hEb
    obtain ⟨s1, s2⟩ := hSb
    obtain ⟨q1, q2⟩ := hqb
    obtain ⟨s3, s4⟩ := hsb
    refine ⟨E2, S2, ⟨?_, ⟨e1, e2⟩, ⟨s1, s2⟩, ?_, ?_⟩⟩
    · rw [signR, if_pos hx, ← hE2, ← hS2]
    · rw [askR, if_pos ⟨ky, kr, modQ_bd _, modQ_bd _⟩, askE, hm, hch]
      have : (E2 - (E2 - q + 500000003) % 500000003) % 500000003 = q := by omega
      rw [this]
    · rw [doneR, if_pos ⟨⟨s3, s4⟩, modQ_bd _, ⟨e1, e2⟩⟩]
      have : (s + (S2 - s + 500000003) % 500000003) % 500000003 = S2 := by omega
      rw [this]

set_option maxRecDepth 10000 in
set_option maxHeartbeats 4000000 in
theorem lawBlinded_walk (a' b' : Option Addr) (n0 n1 ca cb : Nat) (z0 z1 : List Int) (w : World) (hr0 : IsRow .u8 w a' n0 ca z0) (hr1 : IsRow .u8 w b' n1 cb z1) :
    Calls Try.prog 5 #[.slice a' n0 ca, .slice b' n1 cb] w fun e w' => e = .returned (.bool true) ∧ Below w.heap.size w w' := by
  obtain ⟨hrow0, hmax0⟩ := hr0.row
  obtain ⟨hrow1, hmax1⟩ := hr1.row
  obtain ⟨xs, hxs⟩ : ∃ xs, xs = z0.take n0 := ⟨_, rfl⟩
  obtain ⟨ys, hys⟩ : ∃ ys, ys = z1.take n1 := ⟨_, rfl⟩
  rw [← hxs] at hrow0
  rw [← hys] at hrow1
  clear hxs hr0 hys hr1
  unfold maxLen at hmax0 hmax1
  have HX : Hid (Row w a' n0 xs) := hrow0
  have HY : Hid (Row w b' n1 ys) := hrow1
  clear hrow0 hrow1
  by_cases hbig : 1048576 < n0
  · have hd : decide (1048576 < n0) = true := decide_eq_true hbig
    go_enter Try.func5, Try.ntmps5
    go_wp2_with fail
    refine (big_any2 _ _ _ _ (by omega)).mono ?_
    rintro r w1 ⟨rfl, rfl⟩
    rw [hd]
    go_wp2
    go_ret
    exact ⟨rfl, Below.refl _ _⟩
  · have hd : decide (1048576 < n0) = false := decide_eq_false hbig
    by_cases hbig1 : 1048576 < n1
    · have hd1 : decide (1048576 < n1) = true := decide_eq_true hbig1
      go_enter Try.func5, Try.ntmps5
      go_wp2_with fail
      refine (big_any2 _ _ _ _ (by omega)).mono ?_
      rintro r w1 ⟨rfl, rfl⟩
      rw [hd]
      go_wp2_with fail
      refine (big_any2 _ _ _ _ (by omega)).mono ?_
      rintro r w1 ⟨rfl, rfl⟩
      rw [hd1]
      go_wp2
      go_ret
      exact ⟨rfl, Below.refl _ _⟩
    · have hd1 : decide (1048576 < n1) = false := decide_eq_false hbig1
      have hl1 : n1 ≤ 1048576 := by omega
      go_enter Try.func5, Try.ntmps5
      go_wp2_with fail
      refine (big_any2 _ _ _ _ (by omega)).mono ?_
      rintro r w5 ⟨rfl, hw5⟩
      have hw6 := hw5.symm
      subst hw6
      clear hw5
      rw [hd]
      go_wp2_with fail
      refine (big_any2 _ _ _ _ (by omega)).mono ?_
      rintro r w5 ⟨rfl, hw5⟩
      have hw6 := hw5.symm
      subst hw6
      clear hw5
      rw [hd1]
      obtain ⟨h, hh⟩ : ∃ h, h = hashL xs := ⟨_, rfl⟩
      obtain ⟨h', hh'⟩ : ∃ h', h' = hashL ys := ⟨_, rfl⟩
      have hhb := hashL_bd xs
      have hhb' := hashL_bd ys
      rw [← hh] at hhb
      rw [← hh'] at hhb'
      obtain ⟨hh0, hh1⟩ := hhb
      obtain ⟨hh0', hh1'⟩ := hhb'
      have HH : Hid (hashL xs = h) := hh.symm
      have HH' : Hid (hashL ys = h') := hh'.symm
      clear hh hh'
      obtain ⟨x, hx⟩ : ∃ x, x = 1 + h % 500000002 := ⟨_, rfl⟩
      obtain ⟨kk, hkk⟩ : ∃ kk, kk = 1 + h' % 500000002 := ⟨_, rfl⟩
      have hm1 : 0 ≤ h % 500000002 := by omega
      have hm2 : h % 500000002 ≤ 500000001 := by omega
      have hm3 : 0 ≤ h' % 500000002 := by omega
      have hm4 : h' % 500000002 ≤ 500000001 := by omega
      have hsx : secP x := ⟨by omega, by omega⟩
      have hsk : secP kk := ⟨by omega, by omega⟩
      go_wp2_with fail
      refine (specHash_any a' n0 ca xs _ HX.out (by omega)).mono ?_
      rintro r w5 ⟨rfl, hw5⟩
      have hw6 := hw5.symm
      subst hw6
      clear hw5
      rw [HH.out]
      go_wp2_with fail
      rw [← hx]
      clear hx
      refine (specHash_any b' n1 cb ys _ HY.out (by omega)).mono ?_
      rintro r w5 ⟨rfl, hw5⟩
      have hw6 := hw5.symm
      subst hw6
      clear hw5
      rw [HH'.out]
      go_wp2_with fail
      rw [← hkk]
      clear hkk
      refine (drawBlindAsk_any a' n0 ca xs _ HX.out (by omega)).mono ?_
      rintro r w1 ⟨v1, v2, am, k, cm, ms, a, b, rfl, hdr⟩
      obtain ⟨⟨ha0, ha1⟩, ⟨hb0, hb1⟩, hk, hrm, hnm, hbw⟩ := hdr
      have HB1 : Hid (Below w.heap.size w w1) := hbw
      have HM1 : Hid (Row w1 am k ms) := hrm
      have NM : Hid (am = none → cm = 0) := hnm
      clear hbw hrm hnm
      obtain ⟨y, hy⟩ : ∃ y, y = keyOf x := ⟨_, rfl⟩
      obtain ⟨R, hR⟩ : ∃ R, R = keyOf kk := ⟨_, rfl⟩
      have hy1 : 1 ≤ y := by rw [hy, show keyOf x = gp 4 x from if_pos hsx]; exact (keyP_of x hsx).1.1.1
      have HKX : Hid (keyOf x = y) := hy.symm
      have HKK : Hid (keyOf kk = R) := hR.symm
      clear hy hR
      by_cases hab : expP a ∧ expP b
      · obtain ⟨q, e, s, s1, hT⟩ := blind_tells x kk y R ms a b hsx hsk HKX.out HKK.out hab.1 hab.2
        have HT : Hid (BlT x kk y R ms a b q e s s1) := hT
        obtain ⟨hq0, hq1⟩ := hT.qb
        obtain ⟨hs0, hs1⟩ := hT.sb
        have zq : (q != q) = false := by simp
        have ze : (e != e) = false := by simp
        clear hT
        go_wp2_with fail
        refine (implKeyOf_any x _).mono ?_
        rintro r w5 ⟨rfl, hw5⟩
        have hw6 := hw5.symm
        subst hw6
        clear hw5
        rw [HKX.out]
        go_wp2_with fail
        refine (implKeyOf_any kk _).mono ?_
        rintro r w5 ⟨rfl, hw5⟩
        have hw6 := hw5.symm
        subst hw6
        clear hw5
        rw [HKK.out]
        go_wp2_with fail
        refine (implBlindAsk_any y R am k cm ms a b _ HM1.out (by omega) NM.out).mono ?_
        rintro r w2 ⟨rfl, hb2⟩
        rw [HT.out.ask, trip3]
        have HB2 : Hid (Below w1.heap.size w1 w2) := hb2
        clear hb2
        go_wp2_with fail
        refine (specKeyOf_any x _).mono ?_
        rintro r w5 ⟨rfl, hw5⟩
        have hw6 := hw5.symm
        subst hw6
        clear hw5
        rw [HKX.out]
        go_wp2_with fail
        refine (specKeyOf_any kk _).mono ?_
        rintro r w5 ⟨rfl, hw5⟩
        have hw6 := hw5.symm
        subst hw6
        clear hw5
        rw [HKK.out]
        go_wp2_with fail
        refine (specBlindAsk_any y R am k cm ms a b _ (HM1.out.kept HB2.out) (by omega) NM.out).mono ?_
        rintro r w3 ⟨rfl, hb3⟩
        rw [HT.out.ask, trip3]
        have HB3 : Hid (Below w1.heap.size w1 w3) := keep_first HB2.out hb3
        clear hb3
        go_wp2_with fail
        refine (implBlindAnswer_any x kk q _).mono ?_
        rintro r w5 ⟨rfl, hw5⟩
        have hw6 := hw5.symm
        subst hw6
        clear hw5
        rw [HT.out.ans, pair]
        go_wp2_with fail
        refine (implBlindDone_any s a e _).mono ?_
        rintro r w4 ⟨rfl, hb4⟩
        rw [HT.out.done, sigv]
        have hb4' := keep_first HB3.out hb4
        have hbx := boxS_new 37 w4 e s1
        have hb4n : Below w1.heap.size w1 (w4.alloc (.cells #[.int .i64 e, .int .i64 s1] 37)) := hb4'.alloc hb4'.size _
        clear hb4 hb4'
        go_wp2_with fail
        obtain ⟨w6, hw6⟩ : ∃ w6, w6 = w4.alloc (.cells #[.int .i64 e, .int .i64 s1] 37) := ⟨_, rfl⟩
        obtain ⟨g, hg⟩ : ∃ g, g = w4.heap.size := ⟨_, rfl⟩
        rw [← hw6, ← hg] at hbx
        rw [← hw6] at hb4n ⊢
        rw [← hg]
        clear hw6 hg
        refine (implVerify_any y am k cm ms (e, s1) _ (HM1.out.kept hb4n) (by omega) NM.out).mono ?_
        rintro r w7 ⟨rfl, hb7⟩
        rw [HT.out.ver]
        have hbx7 := hbx.kept hb7
        have hb7' := keep_first hb4n hb7
        have q0 := hbx7.c0
        have q1 := hbx7.c1
        clear hbx hb7 hb4n
        go_wp2_with fail
        refine (drawBlindAsk_any b' n1 cb ys _ (HY.out.kept (keep_first HB1.out hb7')) (by omega)).mono ?_
        rintro r w8 ⟨v5, v6, a2, k2, c2, ms2, v7, v8, rfl, hdr⟩
        obtain ⟨_, _, hk2, hrm2, hnm2, hb8⟩ := hdr
        have HM2 : Hid (Row w8 a2 k2 ms2) := hrm2
        have NM2 : Hid (a2 = none → c2 = 0) := hnm2
        have hb8' := keep_first hb7' hb8
        clear hrm2 hnm2 q0 q1 hb8 hb7' hbx7
        obtain ⟨E2, S2, hT2⟩ := HT.out.two ms2
        have HT2 : Hid (BlT2 x y R ms2 q s E2 S2) := hT2
        obtain ⟨hE0, hE1⟩ := hT2.eb
        obtain ⟨hS0, hS1⟩ := hT2.sb
        have zE : (E2 == E2) = true := by simp
        have zS : (S2 == S2) = true := by simp
        have zQ : (q == q) = true := by simp
        clear hT2
        go_wp2_with fail
        refine (implSign_any x a2 k2 c2 ms2 _ HM2.out (by omega) NM2.out).mono ?_
        rintro r w9 ⟨rfl, hb9⟩
        rw [HT2.out.sign, sigv]
        have hb9' := keep_first hb8' hb9
        have hx9 := boxS_new 37 w9 E2 S2
        have hb9n : Below w1.heap.size w1 (w9.alloc (.cells #[.int .i64 E2, .int .i64 S2] 37)) := hb9'.alloc hb9'.size _
        have hm9 : Below w8.heap.size w8 (w9.alloc (.cells #[.int .i64 E2, .int .i64 S2] 37)) := hb9.alloc hb9.size _
        clear hb9 hb9' hb8'
        go_wp2_with fail
        obtain ⟨c, hc⟩ : ∃ c, c = (S2 - s + 500000003) % 500000003 := ⟨_, rfl⟩
        obtain ⟨d, hd⟩ : ∃ d, d = (E2 - q + 500000003) % 500000003 := ⟨_, rfl⟩
        have hc2 : (S2 - s) % 500000003 = c := by omega
        have hd2 : (E2 - q) % 500000003 = d := by omega
        rw [← hc, ← hd, hc2, hd2]
        clear hc2 hd2
        have HA2 : Hid (askR y R ms2 c d = (q, E2, true)) := by rw [hc, hd]; exact HT2.out.ask
        have HD2 : Hid (doneR s c E2 = ((E2, S2), true)) := by rw [hc]; exact HT2.out.done
        clear hc hd
        obtain ⟨wa, hwa⟩ : ∃ wa, wa = w9.alloc (.cells #[.int .i64 E2, .int .i64 S2] 37) := ⟨_, rfl⟩
        obtain ⟨g2, hg2⟩ : ∃ g2, g2 = w9.heap.size := ⟨_, rfl⟩
        rw [← hwa, ← hg2] at hx9
        rw [← hwa] at hb9n hm9 ⊢
        rw [← hg2]
        clear hwa hg2
        refine (implBlindAsk_any y R a2 k2 c2 ms2 c d _ (HM2.out.kept hm9) (by omega) NM2.out).mono ?_
        rintro r wb ⟨rfl, hbb⟩
        rw [HA2.out, trip3]
        have hxb := hx9.kept hbb
        have hbb' := keep_first hb9n hbb
        clear hx9 hb9n hm9 hbb
        go_wp2_with fail
        refine (implBlindDone_any s c E2 _).mono ?_
        rintro r wd ⟨rfl, hbd⟩
        rw [HD2.out, sigv]
        have hxd := hxb.kept hbd
        have hbd' := keep_first hbb' hbd
        have hxn := boxS_new 37 wd E2 S2
        have hbn : Below wd.heap.size wd (wd.alloc (.cells #[.int .i64 E2, .int .i64 S2] 37)) := (Below.refl _ _).alloc (Nat.le_refl _) _
        have hxe := hxd.kept hbn
        have hbe := keep_first hbd' hbn
        clear hxb hbd hbb' hxd hbd' hbn
        go_wp2_with fail
        obtain ⟨we, hwe⟩ : ∃ we, we = wd.alloc (.cells #[.int .i64 E2, .int .i64 S2] 37) := ⟨_, rfl⟩
        obtain ⟨g3, hg3⟩ : ∃ g3, g3 = wd.heap.size := ⟨_, rfl⟩
        rw [← hwe, ← hg3] at hxn
        rw [← hwe] at hxe hbe ⊢
        rw [← hg3]
        clear hwe hg3
        refine (lives_any _).mono ?_
        rintro r wf ⟨rfl, hbf⟩
        have hx1 := hxe.kept hbf
        have hx2 := hxn.kept hbf
        have hbf' := keep_first hbe hbf
        have p0 := hx1.c0
        have p1 := hx1.c1
        have p2 := hx2.c0
        have p3 := hx2.c1
        clear hx1 hx2 hxe hxn hbe hbf
        go_wp2
        go_ret
        exact ⟨rfl, keep_first HB1.out hbf'⟩
      · have HA : Hid (askR y R ms a b = (0, 0, false)) := by show _ = _; unfold askR; rw [if_neg (fun h => hab ⟨h.2.2.1, h.2.2.2⟩)]
        go_wp2_with fail
        refine (implKeyOf_any x _).mono ?_
        rintro r w5 ⟨rfl, hw5⟩
        have hw6 := hw5.symm
        subst hw6
        clear hw5
        rw [HKX.out]
        go_wp2_with fail
        refine (implKeyOf_any kk _).mono ?_
        rintro r w5 ⟨rfl, hw5⟩
        have hw6 := hw5.symm
        subst hw6
        clear hw5
        rw [HKK.out]
        go_wp2_with fail
        refine (implBlindAsk_any y R am k cm ms a b _ HM1.out (by omega) NM.out).mono ?_
        rintro r w2 ⟨rfl, hb2⟩
        rw [HA.out, trip3]
        have HB2 : Hid (Below w1.heap.size w1 w2) := hb2
        clear hb2
        go_wp2_with fail
        refine (specKeyOf_any x _).mono ?_
        rintro r w5 ⟨rfl, hw5⟩
        have hw6 := hw5.symm
        subst hw6
        clear hw5
        rw [HKX.out]
        go_wp2_with fail
        refine (specKeyOf_any kk _).mono ?_
        rintro r w5 ⟨rfl, hw5⟩
        have hw6 := hw5.symm
        subst hw6
        clear hw5
        rw [HKK.out]
        go_wp2_with fail
        refine (specBlindAsk_any y R am k cm ms a b _ (HM1.out.kept HB2.out) (by omega) NM.out).mono ?_
        rintro r w3 ⟨rfl, hb3⟩
        rw [HA.out, trip3]
        have HB3 : Hid (Below w1.heap.size w1 w3) := keep_first HB2.out hb3
        clear hb3
        go_wp2_with fail
        refine (lives_any _).mono ?_
        rintro r w4 ⟨rfl, hb4⟩
        have zy : (y != 0) = true := by simp; omega
        go_wp2
        go_ret
        exact ⟨rfl, keep_first HB1.out (keep_first HB3.out hb4)⟩

end Go.Proofs.Ytphhelhhploacaa
