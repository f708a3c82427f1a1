import Derived.Test.YtphhelhhploacaaRA1
import Derived.Test.YtphhelhhploacaaRA2
import Derived.Test.YtphhelhhploacaaWL1
namespace Go.Proofs.Ytphhelhhploacaa
open Go.RowKit

theorem inv_no (a n : Int) (h : n < 2 ∨ 2147483648 < n ∨ a < 1 ∨ n ≤ a) : invV a n = (0, false) := by
  unfold invV
  rw [if_neg]
  unfold invOk
  omega
theorem inv_yes (A N : Nat) (h1 : 1 ≤ A) (h2 : A < N) (h3 : 2 ≤ N) (h4 : (N : Int) ≤ 2147483648) (hg : Nat.gcd A N = 1) : invV (A : Int) (N : Int) = ((eu N A 0 1).2 % (N : Int), true) := by
  unfold invV
  rw [if_pos (by unfold invOk; omega), Int.toNat_natCast, Int.toNat_natCast, if_pos (by rw [eu_gcd]; exact hg)]
theorem inv_none (A N : Nat) (h1 : 1 ≤ A) (h2 : A < N) (h3 : 2 ≤ N) (h4 : (N : Int) ≤ 2147483648) (hg : ¬ Nat.gcd A N = 1) : invV (A : Int) (N : Int) = (0, false) := by
  unfold invV
  rw [if_pos (by unfold invOk; omega), Int.toNat_natCast, Int.toNat_natCast, if_neg (by rw [eu_gcd]; exact hg)]

set_option maxRecDepth 10000 in
set_option maxHeartbeats 4000000 in
theorem lawRaised_walk (a' b' : Option Addr) (n0 n1 ca cb : Nat) (z0 z1 : List Int) (w : World) (hr0 : IsRow .u8 w a' n0 ca z0) (hr1 : IsRow .u8 w b' n1 cb z1) :
    Calls Try.prog 3 #[.slice a' n0 ca, .slice b' n1 cb] w fun e w' => e = .returned (.bool true) ∧ Below w.heap.size w w' := by
  obtain ⟨hrow0, hmax0⟩ := hr0.row
  obtain ⟨hrow1, hmax1⟩ := hr1.row
  obtain ⟨xs, hxs⟩ : ∃ xs, xs = z0.take n0 := ⟨_, rfl⟩
  obtain ⟨ys, hys⟩ : ∃ ys, ys = z1.take n1 := ⟨_, rfl⟩
  rw [← hxs] at hrow0
  rw [← hys] at hrow1
  clear hxs hr0 hys hr1
  unfold maxLen at hmax0 hmax1
  have HX : Hid (Row w a' n0 xs) := hrow0
  have HY : Hid (Row w b' n1 ys) := hrow1
  clear hrow0 hrow1
  by_cases hbig : 1048576 < n0
  · have hd : decide (1048576 < n0) = true := decide_eq_true hbig
    go_enter Try.func3, Try.ntmps3
    go_wp2_with fail
    refine (big_any _ _ _ _ (by omega)).mono ?_
    rintro r w1 ⟨rfl, rfl⟩
    rw [hd]
    go_wp2
    go_ret
    exact ⟨rfl, Below.refl _ _⟩
  · have hd : decide (1048576 < n0) = false := decide_eq_false hbig
    by_cases hbig1 : 1048576 < n1
    · have hd1 : decide (1048576 < n1) = true := decide_eq_true hbig1
      go_enter Try.func3, Try.ntmps3
      go_wp2_with fail
      refine (big_any _ _ _ _ (by omega)).mono ?_
      rintro r w1 ⟨rfl, rfl⟩
      rw [hd]
      go_wp2_with fail
      refine (big_any _ _ _ _ (by omega)).mono ?_
      rintro r w1 ⟨rfl, rfl⟩
      rw [hd1]
      go_wp2
      go_ret
      exact ⟨rfl, Below.refl _ _⟩
    · have hd1 : decide (1048576 < n1) = false := decide_eq_false hbig1
      go_enter Try.func3, Try.ntmps3
      go_wp2_with fail
      refine (big_any _ _ _ _ (by omega)).mono ?_
      rintro r w1 ⟨rfl, hw1⟩
      have hw2 := hw1.symm
      subst hw2
      clear hw1
      rw [hd]
      go_wp2_with fail
      refine (big_any _ _ _ _ (by omega)).mono ?_
      rintro r w1 ⟨rfl, hw1⟩
      have hw2 := hw1.symm
      subst hw2
      clear hw1
      rw [hd1]
      go_wp2_with fail
      refine (drawPowMod_any a' n0 ca xs _ HX.out (by omega)).mono ?_
      rintro r w1 ⟨b, e, m, rfl, hd1', hb1'⟩
      have HB1 : Hid (Below w.heap.size w w1) := hb1'
      clear hb1'
      obtain ⟨hemin, hemax, hmmin, hmmax, hbmin, hbmax⟩ := hd1'
      go_wp2_with fail
      refine (drawPowMod_any b' n1 cb ys _ (HY.out.kept HB1.out) (by omega)).mono ?_
      rintro r w2 ⟨b2, f, m2, rfl, hd2', hb2'⟩
      have HB2 : Hid (Below w.heap.size w w2) := HB1.out.trans (hb2'.mono HB1.out.size)
      clear hb2'
      obtain ⟨hfmin, hfmax, hmmin2, hmmax2, hbmin2, hbmax2⟩ := hd2'
      have hl1 : n1 ≤ 1048576 := by omega
      clear hbig hbig1 hd hd1
      by_cases hpk : powOk b e m
      · have HP : Hid (powV b e m = (pw b e.toNat m, true)) := by show _ = _; unfold powV; rw [if_pos hpk]
        obtain ⟨⟨hm1, hm2⟩, ⟨hb0, hb1⟩, he0⟩ := hpk
        obtain ⟨x, hx⟩ : ∃ x, x = pw b e.toNat m := ⟨_, rfl⟩
        rw [← hx] at HP
        clear hx
        go_wp2_with fail
        refine (implPowMod_any b e m _ (by omega)).mono ?_
        rintro r w5 ⟨rfl, hw5⟩
        have hw6 := hw5.symm
        subst hw6
        clear hw5
        rw [HP.out, pair]
        go_wp2_with fail
        refine (specPowMod_any b e m _ (by omega)).mono ?_
        rintro r w5 ⟨rfl, hw5⟩
        have hw6 := hw5.symm
        subst hw6
        clear hw5
        rw [HP.out, pair]
        have zx : (x != x) = false := by simp
        obtain ⟨E, hE⟩ : ∃ E : Nat, e / 8589934592 = (E : Int) := ⟨(e / 8589934592).toNat, by omega⟩
        have hE1 : (E : Int) ≤ 1073741824 := by omega
        obtain ⟨y, hy⟩ : ∃ y, y = pw b E m := ⟨_, rfl⟩
        have HYp : Hid (powV b (E : Int) m = (y, true)) := by show _ = _; unfold powV; rw [if_pos ⟨⟨hm1, hm2⟩, ⟨hb0, hb1⟩, by omega⟩, hy, Int.toNat_natCast]
        have hyb := mod_bd (b ^ E) hm1
        rw [show b ^ E % m = y from hy.symm] at hyb
        obtain ⟨hy0, hy1⟩ := hyb
        by_cases hf : 0 ≤ f
        · obtain ⟨F, hF⟩ : ∃ F : Nat, f / 8589934592 = (F : Int) := ⟨(f / 8589934592).toNat, by omega⟩
          have hF1 : (F : Int) ≤ 1073741824 := by omega
          obtain ⟨z, hz⟩ : ∃ z, z = pw b F m := ⟨_, rfl⟩
          have HZp : Hid (powV b (F : Int) m = (z, true)) := by show _ = _; unfold powV; rw [if_pos ⟨⟨hm1, hm2⟩, ⟨hb0, hb1⟩, by omega⟩, hz, Int.toNat_natCast]
          have hzb := mod_bd (b ^ F) hm1
          rw [show b ^ F % m = z from hz.symm] at hzb
          obtain ⟨hz0, hz1⟩ := hzb
          have hbd := mul_bd hy0 hy1 hz0 hz1 hm2
          obtain ⟨hbd0, hbd1⟩ := hbd
          have HSp : Hid (powV b ((E : Int) + (F : Int)) m = (y * z % m, true)) := by show _ = _; unfold powV; rw [if_pos ⟨⟨hm1, hm2⟩, ⟨hb0, hb1⟩, by omega⟩, hy, hz, pw_add, show ((E : Int) + (F : Int)).toNat = E + F by omega]
          obtain ⟨s, hs⟩ : ∃ s, s = y * z % m := ⟨_, rfl⟩
          rw [← hs] at HSp
          have hEF : ((E * F : Nat) : Int) = (E : Int) * (F : Int) := Int.natCast_mul _ _
          have hEF1 : E * F ≤ 1073741824 * 1073741824 := Nat.mul_le_mul (by omega) (by omega)
          have hEF2 : 0 ≤ (E : Int) * (F : Int) := by omega
          have hEF3 : (E : Int) * (F : Int) ≤ 1152921504606846976 := by omega
          obtain ⟨u, hu⟩ : ∃ u, u = pw y F m := ⟨_, rfl⟩
          have HUp : Hid (powV y (F : Int) m = (u, true)) := by show _ = _; unfold powV; rw [if_pos ⟨⟨hm1, hm2⟩, ⟨hy0, by omega⟩, by omega⟩, hu, Int.toNat_natCast]
          have HVp : Hid (powV b ((E : Int) * (F : Int)) m = (u, true)) := by show _ = _; unfold powV; rw [if_pos ⟨⟨hm1, hm2⟩, ⟨hb0, hb1⟩, hEF2⟩, hu, hy, pw_mul, show ((E : Int) * (F : Int)).toNat = E * F by omega]
          have hs' := hs.symm
          have zs : (s != s) = false := by simp
          have zu : (u != u) = false := by simp
          clear hy hz hu hs hEF hEF1
          go_wp2_with fail
          refine (implPowMod_any b (E : Int) m _ (by omega)).mono ?_
          rintro r w5 ⟨rfl, hw5⟩
          have hw6 := hw5.symm
          subst hw6
          clear hw5
          rw [HYp.out, pair]
          go_wp2_with fail
          refine (implPowMod_any b (F : Int) m _ (by omega)).mono ?_
          rintro r w5 ⟨rfl, hw5⟩
          have hw6 := hw5.symm
          subst hw6
          clear hw5
          rw [HZp.out, pair]
          go_wp2_with fail
          refine (implPowMod_any b ((E : Int) + (F : Int)) m _ (by omega)).mono ?_
          rintro r w5 ⟨rfl, hw5⟩
          have hw6 := hw5.symm
          subst hw6
          clear hw5
          rw [HSp.out, pair]
          go_wp2_with fail
          refine (implPowMod_any y (F : Int) m _ (by omega)).mono ?_
          rintro r w5 ⟨rfl, hw5⟩
          have hw6 := hw5.symm
          subst hw6
          clear hw5
          rw [HUp.out, pair]
          go_wp2_with fail
          refine (implPowMod_any b ((E : Int) * (F : Int)) m _ (by omega)).mono ?_
          rintro r w5 ⟨rfl, hw5⟩
          have hw6 := hw5.symm
          subst hw6
          clear hw5
          rw [HVp.out, pair]
          go_wp2_with fail
          refine (drawInverse_any b' n1 cb ys _ (HY.out.kept HB2.out) (by omega)).mono ?_
          rintro r w3 ⟨a, n, rfl, hd3, hb3⟩
          have HB3 : Hid (Below w.heap.size w w3) := HB2.out.trans (hb3.mono HB2.out.size)
          obtain ⟨_, _, hn0, hn1, ha0, ha1⟩ := hd3
          clear hb3
          by_cases h1 : n < 2
          · have HV : Hid (invV a n = (0, false)) := inv_no a n (by omega)
            go_wp2_with fail
            refine (implInverse_any a n _).mono ?_
            rintro r w5 ⟨rfl, hw5⟩
            have hw6 := hw5.symm
            subst hw6
            clear hw5
            rw [HV.out, pair]
            go_wp2_with fail
            refine (lives_any _).mono ?_
            rintro r w4 ⟨rfl, hb4⟩
            have HB4 := HB3.out.trans (hb4.mono HB3.out.size)
            go_wp2
            go_ret
            exact ⟨rfl, HB4⟩
          · by_cases h2 : 2147483648 < n
            · have HV : Hid (invV a n = (0, false)) := inv_no a n (by omega)
              go_wp2_with fail
              refine (implInverse_any a n _).mono ?_
              rintro r w5 ⟨rfl, hw5⟩
              have hw6 := hw5.symm
              subst hw6
              clear hw5
              rw [HV.out, pair]
              go_wp2_with fail
              refine (lives_any _).mono ?_
              rintro r w4 ⟨rfl, hb4⟩
              have HB4 := HB3.out.trans (hb4.mono HB3.out.size)
              go_wp2
              go_ret
              exact ⟨rfl, HB4⟩
            · by_cases h3 : a < 1
              · have HV : Hid (invV a n = (0, false)) := inv_no a n (by omega)
                go_wp2_with fail
                refine (implInverse_any a n _).mono ?_
                rintro r w5 ⟨rfl, hw5⟩
                have hw6 := hw5.symm
                subst hw6
                clear hw5
                rw [HV.out, pair]
                go_wp2_with fail
                refine (lives_any _).mono ?_
                rintro r w4 ⟨rfl, hb4⟩
                have HB4 := HB3.out.trans (hb4.mono HB3.out.size)
                go_wp2
                go_ret
                exact ⟨rfl, HB4⟩
              · by_cases h4 : n ≤ a
                · have HV : Hid (invV a n = (0, false)) := inv_no a n (by omega)
                  go_wp2_with fail
                  refine (implInverse_any a n _).mono ?_
                  rintro r w5 ⟨rfl, hw5⟩
                  have hw6 := hw5.symm
                  subst hw6
                  clear hw5
                  rw [HV.out, pair]
                  go_wp2_with fail
                  refine (lives_any _).mono ?_
                  rintro r w4 ⟨rfl, hb4⟩
                  have HB4 := HB3.out.trans (hb4.mono HB3.out.size)
                  go_wp2
                  go_ret
                  exact ⟨rfl, HB4⟩
                · obtain ⟨N, rfl⟩ := Int.eq_ofNat_of_zero_le hn0
                  obtain ⟨A, rfl⟩ := Int.eq_ofNat_of_zero_le (show 0 ≤ a by omega)
                  have hA1 : 1 ≤ (A : Int) := by omega
                  have hAN : (A : Int) < (N : Int) := by omega
                  have hN2 : 2 ≤ (N : Int) := by omega
                  have hN3 : (N : Int) ≤ 2147483648 := by omega
                  by_cases hg : Nat.gcd A N = 1
                  · obtain ⟨i, hi⟩ : ∃ i, i = (eu N A 0 1).2 % (N : Int) := ⟨_, rfl⟩
                    have ht := inv_tells A N (by omega) hg
                    have HV : Hid (invV (A : Int) (N : Int) = (i, true)) := by rw [hi]; exact inv_yes A N (by omega) (by omega) (by omega) (by omega) hg
                    dsimp only at ht
                    rw [← hi] at ht
                    clear hi
                    obtain ⟨hi1, hi2, hi3⟩ := ht
                    have hbd := mul_bd (a := i) (b := (A : Int)) (m := (N : Int)) (by omega) hi2 (by omega) hAN hN3
                    obtain ⟨hbd0, hbd1⟩ := hbd
                    go_wp2_with fail
                    refine (implInverse_any (A : Int) (N : Int) _).mono ?_
                    rintro r w5 ⟨rfl, hw5⟩
                    have hw6 := hw5.symm
                    subst hw6
                    clear hw5
                    rw [HV.out, pair]
                    go_wp2
                    go_loopw [29, 30] (fun vp vq wr => ∃ (p q : Nat), vp = .int .i64 p ∧ vq = .int .i64 q ∧ p ≤ N ∧ q ≤ N ∧ Hid (Nat.gcd q p = Nat.gcd A N) ∧ w3 = wr) (fun _ vq _ => (intOf vq).toNat)
                    case atStart => exact ⟨A, N, rfl, rfl, by omega, Nat.le_refl _, Nat.gcd_comm _ _, rfl⟩
                    case round =>
                      obtain ⟨p, q, rfl, rfl, hp, hq, HG, rfl⟩ := hrel
                      by_cases h0 : 0 < q
                      · have hlt := Nat.mod_lt p h0
                        have HG2 : Hid (Nat.gcd (p % q) q = Nat.gcd A N) := (Nat.gcd_rec q p).symm.trans HG.out
                        have hz : ((q : Int) != 0) = true := by simp; omega
                        have hqi : 0 < (q : Int) := by omega
                        have hti : (p : Int) % (q : Int) = ((p % q : Nat) : Int) := (Int.natCast_emod p q).symm
                        clear h0
                        go_wp2
                        go_roundw
                        case rel => exact ⟨q, p % q, rfl, by go_num, hq, by omega, HG2, by trivial⟩
                        case measure => simp [intOf]; omega
                      · obtain rfl : q = 0 := by omega
                        have hpg : p = Nat.gcd A N := by rw [← HG.out, Nat.gcd_zero_left]
                        have hp1 : ((p : Int) == 1) = true := by simp; omega
                        clear hpg HG
                        go_wp2_with fail
                        refine (lives_any _).mono ?_
                        rintro r w4 ⟨rfl, hb4⟩
                        have HB4 := HB3.out.trans (hb4.mono HB3.out.size)
                        go_wp2
                        go_ret
                        exact ⟨rfl, HB4⟩
                  · have HV : Hid (invV (A : Int) (N : Int) = (0, false)) := inv_none A N (by omega) (by omega) (by omega) (by omega) hg
                    go_wp2_with fail
                    refine (implInverse_any (A : Int) (N : Int) _).mono ?_
                    rintro r w5 ⟨rfl, hw5⟩
                    have hw6 := hw5.symm
                    subst hw6
                    clear hw5
                    rw [HV.out, pair]
                    go_wp2
                    go_loopw [29, 30] (fun vp vq wr => ∃ (p q : Nat), vp = .int .i64 p ∧ vq = .int .i64 q ∧ p ≤ N ∧ q ≤ N ∧ Hid (Nat.gcd q p = Nat.gcd A N) ∧ w3 = wr) (fun _ vq _ => (intOf vq).toNat)
                    case atStart => exact ⟨A, N, rfl, rfl, by omega, Nat.le_refl _, Nat.gcd_comm _ _, rfl⟩
                    case round =>
                      obtain ⟨p, q, rfl, rfl, hp, hq, HG, rfl⟩ := hrel
                      by_cases h0 : 0 < q
                      · have hlt := Nat.mod_lt p h0
                        have HG2 : Hid (Nat.gcd (p % q) q = Nat.gcd A N) := (Nat.gcd_rec q p).symm.trans HG.out
                        have hz : ((q : Int) != 0) = true := by simp; omega
                        have hqi : 0 < (q : Int) := by omega
                        have hti : (p : Int) % (q : Int) = ((p % q : Nat) : Int) := (Int.natCast_emod p q).symm
                        clear h0
                        go_wp2
                        go_roundw
                        case rel => exact ⟨q, p % q, rfl, by go_num, hq, by omega, HG2, by trivial⟩
                        case measure => simp [intOf]; omega
                      · obtain rfl : q = 0 := by omega
                        have hpg : p = Nat.gcd A N := by rw [← HG.out, Nat.gcd_zero_left]
                        have hp1 : ((p : Int) == 1) = false := by simp; omega
                        clear hpg HG
                        go_wp2_with fail
                        refine (lives_any _).mono ?_
                        rintro r w4 ⟨rfl, hb4⟩
                        have HB4 := HB3.out.trans (hb4.mono HB3.out.size)
                        go_wp2
                        go_ret
                        exact ⟨rfl, HB4⟩
        · obtain ⟨z, hz⟩ : ∃ z, z = pw b 0 m := ⟨_, rfl⟩
          have HZp : Hid (powV b 0 m = (z, true)) := by show _ = _; unfold powV; rw [if_pos ⟨⟨hm1, hm2⟩, ⟨hb0, hb1⟩, by omega⟩, hz]; rfl
          have HUp : Hid (powV y 0 m = (z, true)) := by show _ = _; unfold powV; rw [if_pos ⟨⟨hm1, hm2⟩, ⟨hy0, by omega⟩, by omega⟩, hz]; unfold pw; simp
          have hzb := mod_bd (b ^ 0) hm1
          rw [show b ^ 0 % m = z from hz.symm] at hzb
          obtain ⟨hz0, hz1⟩ := hzb
          have hbd := mul_bd hy0 hy1 hz0 hz1 hm2
          obtain ⟨hbd0, hbd1⟩ := hbd
          have hs : y * z % m = y := by rw [hy, hz, pw_add, Nat.add_zero]
          have zs : (y != y) = false := by simp
          have zu : (z != z) = false := by simp
          clear hy hz
          go_wp2_with fail
          refine (implPowMod_any b (E : Int) m _ (by omega)).mono ?_
          rintro r w5 ⟨rfl, hw5⟩
          have hw6 := hw5.symm
          subst hw6
          clear hw5
          rw [HYp.out, pair]
          go_wp2_with fail
          refine (implPowMod_any b 0 m _ (by omega)).mono ?_
          rintro r w5 ⟨rfl, hw5⟩
          have hw6 := hw5.symm
          subst hw6
          clear hw5
          rw [HZp.out, pair]
          go_wp2_with fail
          refine (implPowMod_any b (E : Int) m _ (by omega)).mono ?_
          rintro r w5 ⟨rfl, hw5⟩
          have hw6 := hw5.symm
          subst hw6
          clear hw5
          rw [HYp.out, pair]
          go_wp2_with fail
          refine (implPowMod_any y 0 m _ (by omega)).mono ?_
          rintro r w5 ⟨rfl, hw5⟩
          have hw6 := hw5.symm
          subst hw6
          clear hw5
          rw [HUp.out, pair]
          go_wp2_with fail
          refine (implPowMod_any b 0 m _ (by omega)).mono ?_
          rintro r w5 ⟨rfl, hw5⟩
          have hw6 := hw5.symm
          subst hw6
          clear hw5
          rw [HZp.out, pair]
          go_wp2_with fail
          refine (drawInverse_any b' n1 cb ys _ (HY.out.kept HB2.out) (by omega)).mono ?_
          rintro r w3 ⟨a, n, rfl, hd3, hb3⟩
          have HB3 : Hid (Below w.heap.size w w3) := HB2.out.trans (hb3.mono HB2.out.size)
          obtain ⟨_, _, hn0, hn1, ha0, ha1⟩ := hd3
          clear hb3
          by_cases h1 : n < 2
          · have HV : Hid (invV a n = (0, false)) := inv_no a n (by omega)
            go_wp2_with fail
            refine (implInverse_any a n _).mono ?_
            rintro r w5 ⟨rfl, hw5⟩
            have hw6 := hw5.symm
            subst hw6
            clear hw5
            rw [HV.out, pair]
            go_wp2_with fail
            refine (lives_any _).mono ?_
            rintro r w4 ⟨rfl, hb4⟩
            have HB4 := HB3.out.trans (hb4.mono HB3.out.size)
            go_wp2
            go_ret
            exact ⟨rfl, HB4⟩
          · by_cases h2 : 2147483648 < n
            · have HV : Hid (invV a n = (0, false)) := inv_no a n (by omega)
              go_wp2_with fail
              refine (implInverse_any a n _).mono ?_
              rintro r w5 ⟨rfl, hw5⟩
              have hw6 := hw5.symm
              subst hw6
              clear hw5
              rw [HV.out, pair]
              go_wp2_with fail
              refine (lives_any _).mono ?_
              rintro r w4 ⟨rfl, hb4⟩
              have HB4 := HB3.out.trans (hb4.mono HB3.out.size)
              go_wp2
              go_ret
              exact ⟨rfl, HB4⟩
            · by_cases h3 : a < 1
              · have HV : Hid (invV a n = (0, false)) := inv_no a n (by omega)
                go_wp2_with fail
                refine (implInverse_any a n _).mono ?_
                rintro r w5 ⟨rfl, hw5⟩
                have hw6 := hw5.symm
                subst hw6
                clear hw5
                rw [HV.out, pair]
                go_wp2_with fail
                refine (lives_any _).mono ?_
                rintro r w4 ⟨rfl, hb4⟩
                have HB4 := HB3.out.trans (hb4.mono HB3.out.size)
                go_wp2
                go_ret
                exact ⟨rfl, HB4⟩
              · by_cases h4 : n ≤ a
                · have HV : Hid (invV a n = (0, false)) := inv_no a n (by omega)
                  go_wp2_with fail
                  refine (implInverse_any a n _).mono ?_
                  rintro r w5 ⟨rfl, hw5⟩
                  have hw6 := hw5.symm
                  subst hw6
                  clear hw5
                  rw [HV.out, pair]
                  go_wp2_with fail
                  refine (lives_any _).mono ?_
                  rintro r w4 ⟨rfl, hb4⟩
                  have HB4 := HB3.out.trans (hb4.mono HB3.out.size)
                  go_wp2
                  go_ret
                  exact ⟨rfl, HB4⟩
                · obtain ⟨N, rfl⟩ := Int.eq_ofNat_of_zero_le hn0
                  obtain ⟨A, rfl⟩ := Int.eq_ofNat_of_zero_le (show 0 ≤ a by omega)
                  have hA1 : 1 ≤ (A : Int) := by omega
                  have hAN : (A : Int) < (N : Int) := by omega
                  have hN2 : 2 ≤ (N : Int) := by omega
                  have hN3 : (N : Int) ≤ 2147483648 := by omega
                  by_cases hg : Nat.gcd A N = 1
                  · obtain ⟨i, hi⟩ : ∃ i, i = (eu N A 0 1).2 % (N : Int) := ⟨_, rfl⟩
                    have ht := inv_tells A N (by omega) hg
                    have HV : Hid (invV (A : Int) (N : Int) = (i, true)) := by rw [hi]; exact inv_yes A N (by omega) (by omega) (by omega) (by omega) hg
                    dsimp only at ht
                    rw [← hi] at ht
                    clear hi
                    obtain ⟨hi1, hi2, hi3⟩ := ht
                    have hbd := mul_bd (a := i) (b := (A : Int)) (m := (N : Int)) (by omega) hi2 (by omega) hAN hN3
                    obtain ⟨hbd0, hbd1⟩ := hbd
                    go_wp2_with fail
                    refine (implInverse_any (A : Int) (N : Int) _).mono ?_
                    rintro r w5 ⟨rfl, hw5⟩
                    have hw6 := hw5.symm
                    subst hw6
                    clear hw5
                    rw [HV.out, pair]
                    go_wp2
                    go_loopw [29, 30] (fun vp vq wr => ∃ (p q : Nat), vp = .int .i64 p ∧ vq = .int .i64 q ∧ p ≤ N ∧ q ≤ N ∧ Hid (Nat.gcd q p = Nat.gcd A N) ∧ w3 = wr) (fun _ vq _ => (intOf vq).toNat)
                    case atStart => exact ⟨A, N, rfl, rfl, by omega, Nat.le_refl _, Nat.gcd_comm _ _, rfl⟩
                    case round =>
                      obtain ⟨p, q, rfl, rfl, hp, hq, HG, rfl⟩ := hrel
                      by_cases h0 : 0 < q
                      · have hlt := Nat.mod_lt p h0
                        have HG2 : Hid (Nat.gcd (p % q) q = Nat.gcd A N) := (Nat.gcd_rec q p).symm.trans HG.out
                        have hz : ((q : Int) != 0) = true := by simp; omega
                        have hqi : 0 < (q : Int) := by omega
                        have hti : (p : Int) % (q : Int) = ((p % q : Nat) : Int) := (Int.natCast_emod p q).symm
                        clear h0
                        go_wp2
                        go_roundw
                        case rel => exact ⟨q, p % q, rfl, by go_num, hq, by omega, HG2, by trivial⟩
                        case measure => simp [intOf]; omega
                      · obtain rfl : q = 0 := by omega
                        have hpg : p = Nat.gcd A N := by rw [← HG.out, Nat.gcd_zero_left]
                        have hp1 : ((p : Int) == 1) = true := by simp; omega
                        clear hpg HG
                        go_wp2_with fail
                        refine (lives_any _).mono ?_
                        rintro r w4 ⟨rfl, hb4⟩
                        have HB4 := HB3.out.trans (hb4.mono HB3.out.size)
                        go_wp2
                        go_ret
                        exact ⟨rfl, HB4⟩
                  · have HV : Hid (invV (A : Int) (N : Int) = (0, false)) := inv_none A N (by omega) (by omega) (by omega) (by omega) hg
                    go_wp2_with fail
                    refine (implInverse_any (A : Int) (N : Int) _).mono ?_
                    rintro r w5 ⟨rfl, hw5⟩
                    have hw6 := hw5.symm
                    subst hw6
                    clear hw5
                    rw [HV.out, pair]
                    go_wp2
                    go_loopw [29, 30] (fun vp vq wr => ∃ (p q : Nat), vp = .int .i64 p ∧ vq = .int .i64 q ∧ p ≤ N ∧ q ≤ N ∧ Hid (Nat.gcd q p = Nat.gcd A N) ∧ w3 = wr) (fun _ vq _ => (intOf vq).toNat)
                    case atStart => exact ⟨A, N, rfl, rfl, by omega, Nat.le_refl _, Nat.gcd_comm _ _, rfl⟩
                    case round =>
                      obtain ⟨p, q, rfl, rfl, hp, hq, HG, rfl⟩ := hrel
                      by_cases h0 : 0 < q
                      · have hlt := Nat.mod_lt p h0
                        have HG2 : Hid (Nat.gcd (p % q) q = Nat.gcd A N) := (Nat.gcd_rec q p).symm.trans HG.out
                        have hz : ((q : Int) != 0) = true := by simp; omega
                        have hqi : 0 < (q : Int) := by omega
                        have hti : (p : Int) % (q : Int) = ((p % q : Nat) : Int) := (Int.natCast_emod p q).symm
                        clear h0
                        go_wp2
                        go_roundw
                        case rel => exact ⟨q, p % q, rfl, by go_num, hq, by omega, HG2, by trivial⟩
                        case measure => simp [intOf]; omega
                      · obtain rfl : q = 0 := by omega
                        have hpg : p = Nat.gcd A N := by rw [← HG.out, Nat.gcd_zero_left]
                        have hp1 : ((p : Int) == 1) = false := by simp; omega
                        clear hpg HG
                        go_wp2_with fail
                        refine (lives_any _).mono ?_
                        rintro r w4 ⟨rfl, hb4⟩
                        have HB4 := HB3.out.trans (hb4.mono HB3.out.size)
                        go_wp2
                        go_ret
                        exact ⟨rfl, HB4⟩
      · have HP : Hid (powV b e m = (0, false)) := by show _ = _; unfold powV; rw [if_neg hpk]
        go_wp2_with fail
        refine (implPowMod_any b e m _ (by omega)).mono ?_
        rintro r w5 ⟨rfl, hw5⟩
        have hw6 := hw5.symm
        subst hw6
        clear hw5
        rw [HP.out, pair]
        go_wp2_with fail
        refine (specPowMod_any b e m _ (by omega)).mono ?_
        rintro r w5 ⟨rfl, hw5⟩
        have hw6 := hw5.symm
        subst hw6
        clear hw5
        rw [HP.out, pair]
        clear hpk
        go_wp2_with fail
        refine (drawInverse_any b' n1 cb ys _ (HY.out.kept HB2.out) (by omega)).mono ?_
        rintro r w3 ⟨a, n, rfl, hd3, hb3⟩
        have HB3 : Hid (Below w.heap.size w w3) := HB2.out.trans (hb3.mono HB2.out.size)
        obtain ⟨_, _, hn0, hn1, ha0, ha1⟩ := hd3
        clear hb3
        by_cases h1 : n < 2
        · have HV : Hid (invV a n = (0, false)) := inv_no a n (by omega)
          go_wp2_with fail
          refine (implInverse_any a n _).mono ?_
          rintro r w5 ⟨rfl, hw5⟩
          have hw6 := hw5.symm
          subst hw6
          clear hw5
          rw [HV.out, pair]
          go_wp2_with fail
          refine (lives_any _).mono ?_
          rintro r w4 ⟨rfl, hb4⟩
          have HB4 := HB3.out.trans (hb4.mono HB3.out.size)
          go_wp2
          go_ret
          exact ⟨rfl, HB4⟩
        · by_cases h2 : 2147483648 < n
          · have HV : Hid (invV a n = (0, false)) := inv_no a n (by omega)
            go_wp2_with fail
            refine (implInverse_any a n _).mono ?_
            rintro r w5 ⟨rfl, hw5⟩
            have hw6 := hw5.symm
            subst hw6
            clear hw5
            rw [HV.out, pair]
            go_wp2_with fail
            refine (lives_any _).mono ?_
            rintro r w4 ⟨rfl, hb4⟩
            have HB4 := HB3.out.trans (hb4.mono HB3.out.size)
            go_wp2
            go_ret
            exact ⟨rfl, HB4⟩
          · by_cases h3 : a < 1
            · have HV : Hid (invV a n = (0, false)) := inv_no a n (by omega)
              go_wp2_with fail
              refine (implInverse_any a n _).mono ?_
              rintro r w5 ⟨rfl, hw5⟩
              have hw6 := hw5.symm
              subst hw6
              clear hw5
              rw [HV.out, pair]
              go_wp2_with fail
              refine (lives_any _).mono ?_
              rintro r w4 ⟨rfl, hb4⟩
              have HB4 := HB3.out.trans (hb4.mono HB3.out.size)
              go_wp2
              go_ret
              exact ⟨rfl, HB4⟩
            · by_cases h4 : n ≤ a
              · have HV : Hid (invV a n = (0, false)) := inv_no a n (by omega)
                go_wp2_with fail
                refine (implInverse_any a n _).mono ?_
                rintro r w5 ⟨rfl, hw5⟩
                have hw6 := hw5.symm
                subst hw6
                clear hw5
                rw [HV.out, pair]
                go_wp2_with fail
                refine (lives_any _).mono ?_
                rintro r w4 ⟨rfl, hb4⟩
                have HB4 := HB3.out.trans (hb4.mono HB3.out.size)
                go_wp2
                go_ret
                exact ⟨rfl, HB4⟩
              · obtain ⟨N, rfl⟩ := Int.eq_ofNat_of_zero_le hn0
                obtain ⟨A, rfl⟩ := Int.eq_ofNat_of_zero_le (show 0 ≤ a by omega)
                have hA1 : 1 ≤ (A : Int) := by omega
                have hAN : (A : Int) < (N : Int) := by omega
                have hN2 : 2 ≤ (N : Int) := by omega
                have hN3 : (N : Int) ≤ 2147483648 := by omega
                by_cases hg : Nat.gcd A N = 1
                · obtain ⟨i, hi⟩ : ∃ i, i = (eu N A 0 1).2 % (N : Int) := ⟨_, rfl⟩
                  have ht := inv_tells A N (by omega) hg
                  have HV : Hid (invV (A : Int) (N : Int) = (i, true)) := by rw [hi]; exact inv_yes A N (by omega) (by omega) (by omega) (by omega) hg
                  dsimp only at ht
                  rw [← hi] at ht
                  clear hi
                  obtain ⟨hi1, hi2, hi3⟩ := ht
                  have hbd := mul_bd (a := i) (b := (A : Int)) (m := (N : Int)) (by omega) hi2 (by omega) hAN hN3
                  obtain ⟨hbd0, hbd1⟩ := hbd
                  go_wp2_with fail
                  refine (implInverse_any (A : Int) (N : Int) _).mono ?_
                  rintro r w5 ⟨rfl, hw5⟩
                  have hw6 := hw5.symm
                  subst hw6
                  clear hw5
                  rw [HV.out, pair]
                  go_wp2
                  go_loopw [29, 30] (fun vp vq wr => ∃ (p q : Nat), vp = .int .i64 p ∧ vq = .int .i64 q ∧ p ≤ N ∧ q ≤ N ∧ Hid (Nat.gcd q p = Nat.gcd A N) ∧ w3 = wr) (fun _ vq _ => (intOf vq).toNat)
                  case atStart => exact ⟨A, N, rfl, rfl, by omega, Nat.le_refl _, Nat.gcd_comm _ _, rfl⟩
                  case round =>
                    obtain ⟨p, q, rfl, rfl, hp, hq, HG, rfl⟩ := hrel
                    by_cases h0 : 0 < q
                    · have hlt := Nat.mod_lt p h0
                      have HG2 : Hid (Nat.gcd (p % q) q = Nat.gcd A N) := (Nat.gcd_rec q p).symm.trans HG.out
                      have hz : ((q : Int) != 0) = true := by simp; omega
                      have hqi : 0 < (q : Int) := by omega
                      have hti : (p : Int) % (q : Int) = ((p % q : Nat) : Int) := (Int.natCast_emod p q).symm
                      clear h0
                      go_wp2
                      go_roundw
                      case rel => exact ⟨q, p % q, rfl, by go_num, hq, by omega, HG2, by trivial⟩
                      case measure => simp [intOf]; omega
                    · obtain rfl : q = 0 := by omega
                      have hpg : p = Nat.gcd A N := by rw [← HG.out, Nat.gcd_zero_left]
                      have hp1 : ((p : Int) == 1) = true := by simp; omega
                      clear hpg HG
                      go_wp2_with fail
                      refine (lives_any _).mono ?_
                      rintro r w4 ⟨rfl, hb4⟩
                      have HB4 := HB3.out.trans (hb4.mono HB3.out.size)
                      go_wp2
                      go_ret
                      exact ⟨rfl, HB4⟩
                · have HV : Hid (invV (A : Int) (N : Int) = (0, false)) := inv_none A N (by omega) (by omega) (by omega) (by omega) hg
                  go_wp2_with fail
                  refine (implInverse_any (A : Int) (N : Int) _).mono ?_
                  rintro r w5 ⟨rfl, hw5⟩
                  have hw6 := hw5.symm
                  subst hw6
                  clear hw5
                  rw [HV.out, pair]
                  go_wp2
                  go_loopw [29, 30] (fun vp vq wr => ∃ (p q : Nat), vp = .int .i64 p ∧ vq = .int .i64 q ∧ p ≤ N ∧ q ≤ N ∧ Hid (Nat.gcd q p = Nat.gcd A N) ∧ w3 = wr) (fun _ vq _ => (intOf vq).toNat)
                  case atStart => exact ⟨A, N, rfl, rfl, by omega, Nat.le_refl _, Nat.gcd_comm _ _, rfl⟩
                  case round =>
                    obtain ⟨p, q, rfl, rfl, hp, hq, HG, rfl⟩ := hrel
                    by_cases h0 : 0 < q
                    · have hlt := Nat.mod_lt p h0
                      have HG2 : Hid (Nat.gcd (p % q) q = Nat.gcd A N) := (Nat.gcd_rec q p).symm.trans HG.out
                      have hz : ((q : Int) != 0) = true := by simp; omega
                      have hqi : 0 < (q : Int) := by omega
                      have hti : (p : Int) % (q : Int) = ((p % q : Nat) : Int) := (Int.natCast_emod p q).symm
                      clear h0
                      go_wp2
                      go_roundw
                      case rel => exact ⟨q, p % q, rfl, by go_num, hq, by omega, HG2, by trivial⟩
                      case measure => simp [intOf]; omega
                    · obtain rfl : q = 0 := by omega
                      have hpg : p = Nat.gcd A N := by rw [← HG.out, Nat.gcd_zero_left]
                      have hp1 : ((p : Int) == 1) = false := by simp; omega
                      clear hpg HG
                      go_wp2_with fail
                      refine (lives_any _).mono ?_
                      rintro r w4 ⟨rfl, hb4⟩
                      have HB4 := HB3.out.trans (hb4.mono HB3.out.size)
                      go_wp2
                      go_ret
                      exact ⟨rfl, HB4⟩

end Go.Proofs.Ytphhelhhploacaa
