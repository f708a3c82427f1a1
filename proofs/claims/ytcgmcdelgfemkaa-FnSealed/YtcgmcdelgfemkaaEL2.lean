import Derived.Test.YtcgmcdelgfemkaaEL0
import Derived.Test.YtcgmcdelgfemkaaEL1
import Derived.Deep.RegionWith
namespace Go.Proofs.Ytcgmcdelgfemkaa
open Go.RowKit Go.Sort

theorem xor8_range (x y : Int) (hx : 0 ≤ x ∧ x ≤ 255) (hy : 0 ≤ y ∧ y ≤ 255) : 0 ≤ bits .xor .u8 x y ∧ bits .xor .u8 x y ≤ 255 := by
  obtain ⟨X, rfl⟩ := Int.eq_ofNat_of_zero_le hx.1
  obtain ⟨Y, rfl⟩ := Int.eq_ofNat_of_zero_le hy.1
  have hl : X ^^^ Y < 2 ^ 8 := Nat.xor_lt_two_pow (by omega) (by omega)
  rw [u8_xor_nat X Y (by omega) (by omega)]
  omega
theorem xor8_other (x v : Int) (hx : 0 ≤ x ∧ x ≤ 255) (hv : 1 ≤ v ∧ v ≤ 255) : x ≠ bits .xor .u8 x v := by
  intro h
  have h1 : bits .xor .u8 (bits .xor .u8 v x) x = v := xor8_back v x (by omega) hx
  rw [xor8_comm v x, ← h, xor8_self x hx] at h1
  omega
def byN (bs : List Int) (i : Nat) (m : Int) : Int := if i < bs.length then bs.getD i 0 % m else 0
theorem byN_bd (bs : List Int) (i : Nat) (m : Int) (hm : 0 < m) : 0 ≤ byN bs i m ∧ byN bs i m < m := by
  unfold byN
  split
  · exact ⟨Int.emod_nonneg _ (by omega), Int.emod_lt_of_pos _ hm⟩
  · exact ⟨Int.le_refl _, hm⟩

set_option maxRecDepth 10000 in
set_option maxHeartbeats 400000 in
theorem byteAt_v (a : Option Addr) (n cap : Nat) (bs : List Int) (i : Nat) (m : Int) (w : World) (h : Row w a n bs) (hm : 0 < m) (hm2 : m ≤ 1000000000) :
    Calls Try.prog 12 #[.slice a n cap, .int .i64 (i : Int), .int .i64 m] w fun e w' => e = .returned (.int .i64 (byN bs i m)) ∧ w = w' := by
  have H : Hid (Row w a n bs) := h
  have hl := h.len
  clear h
  by_cases hlt : i < n
  · have HV : Hid (byN bs i m = bs.getD i 0 % m) := if_pos (by rw [hl]; exact hlt)
    clear hl
    obtain ⟨b, off, rfl, hb, hc⟩ := H.out.get i hlt
    obtain ⟨x, hx⟩ : ∃ x, x = bs.getD i 0 := ⟨_, rfl⟩
    have hxb := H.out.byte i
    rw [← hx] at hc hxb HV
    obtain ⟨hx0, hx1⟩ := hxb
    clear hx
    have hlti : (i : Int) < (n : Int) := by omega
    go_enter Try.func12, Try.ntmps12
    go_wp2
    go_ret
    exact ⟨by rw [HV.out]; rfl, rfl⟩
  · have HV : Hid (byN bs i m = 0) := if_neg (by rw [hl]; exact hlt)
    have hge : (n : Int) ≤ (i : Int) := by omega
    clear hl
    go_enter Try.func12, Try.ntmps12
    go_wp2
    go_ret
    exact ⟨by rw [HV.out]; rfl, rfl⟩

set_option maxRecDepth 10000 in
set_option maxHeartbeats 400000 in
theorem big_anyE (a : Option Addr) (n cap : Nat) (w : World) (hn : n ≤ 9223372036854775807) :
    Calls Try.prog 5 #[.slice a n cap] w fun r w' => r = .returned (.bool (decide (1048576 < n))) ∧ w' = w := by
  have e : decide (1048576 < n) = decide ((1048576 : Int) < (n : Int)) := by simp; omega
  rw [e]
  go_enter Try.func5, Try.ntmps5
  go_wp2
  go_ret
  exact ⟨rfl, rfl⟩

set_option maxRecDepth 10000 in
set_option maxHeartbeats 8000000 in
theorem lawLocked_walk (a : Option Addr) (n c : Nat) (z0 : List Int) (b : Option Addr) (m d : Nat) (z1 : List Int) (w : World) (hr0 : IsRow .u8 w a n c z0) (hr1 : IsRow .u8 w b m d z1) :
    Calls Try.prog 3 #[.slice a n c, .slice b m d] w fun e w' => e = .returned (.bool true) ∧ Below w.heap.size w w' := by
  obtain ⟨hrow0, hmax0⟩ := hr0.row
  obtain ⟨hrow1, hmax1⟩ := hr1.row
  obtain ⟨cs, hcs⟩ : ∃ cs, cs = z0.take n := ⟨_, rfl⟩
  obtain ⟨ms, hms⟩ : ∃ ms, ms = z1.take m := ⟨_, rfl⟩
  rw [← hcs] at hrow0
  rw [← hms] at hrow1
  clear hcs hr0 hms hr1
  unfold maxLen at hmax0 hmax1
  have HA : Hid (Row w a n cs) := hrow0
  have HB : Hid (Row w b m ms) := hrow1
  clear hrow0 hrow1
  by_cases hbig : 1048576 < n
  · go_enter Try.func3, Try.ntmps3
    go_wp2_with fail
    refine (big_anyE a n c _ (by omega)).mono ?_
    rintro e w1 ⟨rfl, hw⟩
    have hw2 := hw.symm
    subst hw2
    rw [decide_eq_true hbig]
    go_wp2
    go_ret
    exact ⟨rfl, Below.refl _ _⟩
  by_cases hbig1 : 1048576 < m
  · go_enter Try.func3, Try.ntmps3
    go_wp2_with fail
    refine (big_anyE a n c _ (by omega)).mono ?_
    rintro e w1 ⟨rfl, hw⟩
    have hw2 := hw.symm
    subst hw2
    rw [decide_eq_false hbig]
    go_wp2_with fail
    refine (big_anyE b m d _ (by omega)).mono ?_
    rintro e w1 ⟨rfl, hw⟩
    have hw2 := hw.symm
    subst hw2
    rw [decide_eq_true hbig1]
    go_wp2
    go_ret
    exact ⟨rfl, Below.refl _ _⟩
  go_enter Try.func3, Try.ntmps3
  go_wp2_with fail
  refine (big_anyE a n c _ (by omega)).mono ?_
  rintro e w1 ⟨rfl, hw⟩
  have hw2 := hw.symm
  subst hw2
  rw [decide_eq_false hbig]
  go_wp2_with fail
  refine (big_anyE b m d _ (by omega)).mono ?_
  rintro e w1 ⟨rfl, hw⟩
  have hw2 := hw.symm
  subst hw2
  rw [decide_eq_false hbig1]
  go_wp2_with fail
  refine (drawLock_any a n c cs _ HA.out (by omega)).mono ?_
  rintro e w1 ⟨a1, n1, c1, xs, s, a3, n3, c3, ys, r, rfl, hn1, hx1, hc1, hy1, hc3, hb1⟩
  have HX1 : Hid (Row w1 a1 n1 xs) := hx1
  have HY1 : Hid (Row w1 a3 n3 ys) := hy1
  clear hx1 hy1
  obtain ⟨t, ht⟩ : ∃ t, t = lockR xs s ys r := ⟨_, rfl⟩
  have HT : Hid (lockR xs s ys r = t) := ht.symm
  have HLN : Hid (t.ss.length ≤ 16 ∧ t.bs.length ≤ 4000) := by rw [ht]; exact lockR_len _ _ _ _
  obtain ⟨ok, hok⟩ : ∃ ok, ok = t.ok := ⟨_, rfl⟩
  have HOK : Hid (t.ok = ok) := hok.symm
  clear ht hok
  go_wp2_with fail
  refine (implLock_any a1 n1 c1 xs s a3 n3 c3 ys r _ HX1.out hc1 HY1.out hc3).mono ?_
  rw [HT.out]
  rintro e w2 ⟨sa, sn, sc, ba, bn, bc, rfl, hS2, hnsa, hnba, hb2⟩
  rw [HOK.out]
  obtain ⟨w3, hw3⟩ : ∃ w3, w3 = w2.alloc (.cells #[.slice sa sn sc, .int .i64 t.rd, .slice ba bn bc, .int .u64 t.tg] 28) := ⟨_, rfl⟩
  have hb3 : Below w2.heap.size w2 w3 := by rw [hw3]; exact (Below.refl _ _).alloc (Nat.le_refl _) _
  have HX3 : Hid (Blk4 w3 w2.heap.size (.slice sa sn sc) (.int .i64 t.rd) (.slice ba bn bc) (.int .u64 t.tg)) := by rw [hw3]; exact heap_alloc_new w2 _
  have HS3 : Hid (StW w1.heap.size w2.heap.size w3 sa sn sc t.ss ba bn bc t.bs) := hS2.kept hb3
  have HW3 : Hid (_ = _) := hw3
  have K3 : Below w1.heap.size w1 w3 := keepT hb2 hb3
  clear hw3 hS2
  unfold stv
  go_upto_region 5 with fail
  rw [← HW3.out]
  clear HW3
  go_wp2_with fail
  refine (specLock_any a1 n1 c1 xs s a3 n3 c3 ys r _ (HX1.out.kept K3) hc1 (HY1.out.kept K3) hc3).mono ?_
  rw [HT.out]
  rintro e w4 ⟨sa4, sn4, sc4, ba4, bn4, bc4, rfl, _, _, _, hb4⟩
  rw [HOK.out]
  obtain ⟨w5, hw5⟩ : ∃ w5, w5 = w4.alloc (.cells #[.slice sa4 sn4 sc4, .int .i64 t.rd, .slice ba4 bn4 bc4, .int .u64 t.tg] 28) := ⟨_, rfl⟩
  have hb5 : Below w4.heap.size w4 w5 := by rw [hw5]; exact (Below.refl _ _).alloc (Nat.le_refl _) _
  have K45 : Below w3.heap.size w3 w5 := keepT hb4 hb5
  have HX5 : Hid (Blk4 w5 w2.heap.size (.slice sa sn sc) (.int .i64 t.rd) (.slice ba bn bc) (.int .u64 t.tg)) := HX3.out.kept K45
  have HS5 : Hid (StW w1.heap.size w2.heap.size w5 sa sn sc t.ss ba bn bc t.bs) := HS3.out.kept K45
  have K5 : Below w1.heap.size w1 w5 := keepT K3 K45
  have B5 : Below w.heap.size w w5 := keepT hb1 K5
  have HW5 : Hid (_ = _) := hw5
  have s1 := hb1.size
  have s2 := hb2.size
  have s3 := HX3.out.lt
  have s5 := K45.size
  clear hw5 HX3 HS3 hb4 hb5
  unfold stv
  go_upto_region 6 with fail
  rw [← HW5.out]
  clear HW5
  obtain ⟨⟨x0, x1, x2, x3⟩, _⟩ := HX5.out.cells
  cases ok with
  | false =>
    have h0 := lockR_no xs s ys r (by rw [HT.out]; exact HOK.out)
    rw [HT.out] at h0
    obtain rfl : bn = 0 := by rw [← HS5.out.br.len, h0.1]; rfl
    rw [h0.2] at x1
    clear h0
    go_wp2_with fail
    refine (lives_any _).mono ?_
    rintro e w6 ⟨rfl, hb6⟩
    have HX6 := HX5.out.kept hb6
    clear x0 x1 x2 x3
    have h0 := lockR_no xs s ys r (by rw [HT.out]; exact HOK.out)
    rw [HT.out] at h0
    rw [h0.2] at HX6
    clear h0
    obtain ⟨⟨x0, x1, x2, x3⟩, _⟩ := HX6.cells
    clear HX6
    go_wp2
    go_ret
    exact ⟨rfl, keepT B5 hb6⟩

  | true =>
    have HBL : Hid (t.bs.length = n1) := by show _ = _; rw [← HT.out, lockR_bs xs s ys r (by rw [HT.out]; exact HOK.out)]; exact HX1.out.len
    obtain rfl : bn = n1 := by rw [← HS5.out.br.len]; exact HBL.out
    have hbn : bn ≤ 4000 := by rw [← HS5.out.br.len]; exact HLN.out.2
    have HU : Hid (unlR t.ss t.rd t.bs t.tg s = (xs, 0)) := by show _ = _; rw [← HT.out]; exact lock_unlock xs s ys r HX1.out.byte (by rw [HT.out]; exact HOK.out)
    go_wp2_with fail
    refine (implUnlock_any sa sn sc t.rd ba bn bc t.tg t.ss t.bs s _ HS5.out.sr HS5.out.br hnsa hnba).mono ?_
    rw [HU.out]
    rintro e w6 ⟨a6, n6, c6, rfl, ho6, hb6⟩
    obtain rfl : n6 = bn := by rw [← ho6.length]; exact HX1.out.len
    have HX6 : Hid (Blk4 w6 w2.heap.size (.slice sa sn sc) (.int .i64 t.rd) (.slice ba n6 bc) (.int .u64 t.tg)) := HX5.out.kept hb6
    have HS6 : Hid (StW w1.heap.size w2.heap.size w6 sa sn sc t.ss ba n6 bc t.bs) := HS5.out.kept hb6
    have HO6 : Hid (Row w6 a6 n6 xs) := ho6.toRow
    have K6 := keepT K5 hb6
    clear x0 x1 x2 x3 HX5 HS5 ho6
    go_wp2_with fail
    refine (implLock_any a1 n6 c1 xs s a3 n3 c3 ys r _ (HX1.out.kept K6) hc1 (HY1.out.kept K6) hc3).mono ?_
    rw [HT.out]
    rintro e w7 ⟨sa7, sn7, sc7, ba7, bn7, bc7, rfl, hS7, _, _, hb7⟩
    rw [HOK.out]
    obtain ⟨w8, hw8⟩ : ∃ w8, w8 = w7.alloc (.cells #[.slice sa7 sn7 sc7, .int .i64 t.rd, .slice ba7 bn7 bc7, .int .u64 t.tg] 28) := ⟨_, rfl⟩
    have hb8 : Below w7.heap.size w7 w8 := by rw [hw8]; exact (Below.refl _ _).alloc (Nat.le_refl _) _
    have HZ8 : Hid (Blk4 w8 w7.heap.size (.slice sa7 sn7 sc7) (.int .i64 t.rd) (.slice ba7 bn7 bc7) (.int .u64 t.tg)) := by rw [hw8]; exact heap_alloc_new w7 _
    have K78 := keepT hb7 hb8
    have HX8 : Hid (Blk4 w8 w2.heap.size (.slice sa sn sc) (.int .i64 t.rd) (.slice ba n6 bc) (.int .u64 t.tg)) := HX6.out.kept K78
    have HS8 : Hid (StW w1.heap.size w2.heap.size w8 sa sn sc t.ss ba n6 bc t.bs) := HS6.out.kept K78
    have HO8 : Hid (Row w8 a6 n6 xs) := HO6.out.kept K78
    have HR8 : Hid (Row w8 ba7 bn7 t.bs) := hS7.br.kept hb8
    have K8 := keepT K6 K78
    have HW8 : Hid (_ = _) := hw8
    have s6 := hb6.size
    have s8 := K78.size
    clear hw8 hS7 hb7 hb8 HX6 HS6 HO6
    unfold stv
    go_upto_region 12 with fail
    rw [← HW8.out]
    clear HW8
    obtain ⟨⟨x0, x1, x2, x3⟩, _⟩ := HX8.out.cells
    obtain ⟨⟨y0, y1, y2, y3⟩, _⟩ := HZ8.out.cells
    have zt : (t.tg != t.tg) = false := by simp
    have zn : ((n6 : Int) != (n6 : Int)) = false := by simp
    go_wp2_with fail
    refine (sameBytes_any a6 a1 n6 n6 c6 c1 xs xs _ HO8.out (HX1.out.kept K8)).mono ?_
    rintro e w9 ⟨rfl, hw⟩
    subst hw
    rw [decide_eq_true (rfl : xs = xs)]
    go_wp2_with fail
    refine (sameBytes_any ba7 ba bn7 n6 bc7 bc t.bs t.bs _ HR8.out HS8.out.br).mono ?_
    rintro e w9 ⟨rfl, hw⟩
    subst hw
    rw [decide_eq_true (rfl : t.bs = t.bs)]
    have B8 : Below w.heap.size w w8 := keepT hb1 K8
    by_cases hz : n6 = 0
    · have hzi : ((n6 : Int) == 0) = true := by simpa using hz
      clear hz
      go_wp2_with fail
      refine (lives_any _).mono ?_
      rintro e w10 ⟨rfl, hb10⟩
      go_wp2
      go_ret
      exact ⟨rfl, keepT B8 hb10⟩
    · have hzi : ((n6 : Int) == 0) = false := by simpa using hz
      have hn0 : 0 < n6 := by omega
      clear hz
      obtain ⟨v2, hv2⟩ : ∃ v2, v2 = byN ms 2 200 := ⟨_, rfl⟩
      have hv2b := byN_bd ms 2 200 (by decide)
      rw [← hv2] at hv2b
      obtain ⟨hv20, hv21⟩ := hv2b
      obtain ⟨u2, rfl⟩ := Int.eq_ofNat_of_zero_le hv20
      have HV2 : Hid ((u2 : Int) = byN ms 2 200) := hv2
      clear hv2 hv20
      have hprod : u2 * n6 ≤ 800000 := Nat.le_trans (Nat.mul_le_mul (show u2 ≤ 200 by omega) hbn) (by decide)
      obtain ⟨P, hP⟩ : ∃ P, P = u2 * n6 := ⟨_, rfl⟩
      have hPi : (u2 : Int) * (n6 : Int) = (P : Int) := by rw [hP]; exact (Int.natCast_mul _ _).symm
      have HPL : Hid (P / 200 < n6) := by
        show _ < _
        rw [hP, Nat.div_lt_iff_lt_mul (by decide), Nat.mul_comm n6 200]
        exact Nat.mul_lt_mul_of_pos_right (show u2 < 200 by omega) hn0
      rw [← hP] at hprod
      clear hP
      go_wp2_with fail
      refine (byteAt_v b m d ms 2 200 _ (HB.out.kept B8) (by decide) (by decide)).mono ?_
      rintro e w9 ⟨rfl, hw⟩
      subst hw
      rw [← HV2.out]
      have HPI : Hid ((P : Int) / 200 = ((P / 200 : Nat) : Int)) := by show _ = _; omega
      obtain ⟨i, hi⟩ : ∃ i, i = P / 200 := ⟨_, rfl⟩
      rw [← hi] at HPI HPL
      have hil : i < n6 := HPL.out
      have hili : (i : Int) < (n6 : Int) := by omega
      clear hi
      obtain ⟨v3, hv3⟩ : ∃ v3, v3 = byN ms 3 255 := ⟨_, rfl⟩
      have hv3b := byN_bd ms 3 255 (by decide)
      rw [← hv3] at hv3b
      obtain ⟨hv30, hv31⟩ := hv3b
      obtain ⟨u3, rfl⟩ := Int.eq_ofNat_of_zero_le hv30
      have HV3 : Hid (byN ms 3 255 = (u3 : Int)) := hv3.symm
      clear hv3 hv30
      have hO := HS8.out.bo hn0
      obtain ⟨gp, hgp⟩ := hO.shape hn0
      have HIG := HS8.out.sep
      subst hgp
      obtain ⟨hgB, hgs⟩ := hO.base
      have hd8 : Below w8.heap.size w8 w8.drew := (Below.refl _ _).drew
      have hod := hO.kept hd8
      obtain ⟨b', off', e', hlb', hc'⟩ := hod.toRow.get i hil
      simp only [Option.some.injEq, Addr.mk.injEq, and_true] at e'
      obtain ⟨rfl, rfl⟩ := e'
      rw [Nat.zero_add] at hc'
      have hfr : w8.drew.frozen? ⟨gp, i, none⟩ = false := hod.row.frozenAt i
      have hyb := hO.byte i
      obtain ⟨y, hy⟩ : ∃ y, y = t.bs.getD i 0 := ⟨_, rfl⟩
      rw [← hy] at hc' hyb
      have hvb : (0 : Int) ≤ 1 + (u3 : Int) ∧ 1 + (u3 : Int) ≤ 255 := ⟨by omega, by omega⟩
      have hvc : (1 : Int) ≤ 1 + (u3 : Int) ∧ 1 + (u3 : Int) ≤ 255 := ⟨by omega, by omega⟩
      have hw1 : IntKind.i64.wrap (1 + (u3 : Int)) = 1 + (u3 : Int) := by rw [IntKind.wrap_i64]; omega
      have hw8 : IntKind.u8.wrap (1 + (u3 : Int)) = 1 + (u3 : Int) := by first | (rw [IntKind.wrap_u8]; omega) | (show (1 + (u3 : Int)) % 256 = _; omega)
      obtain ⟨z, hz⟩ : ∃ z, z = bits .xor .u8 y (1 + (u3 : Int)) := ⟨_, rfl⟩
      have hzb : 0 ≤ z ∧ z ≤ 255 := by rw [hz]; exact xor8_range y (1 + (u3 : Int)) hyb hvb
      have hzn : y ≠ z := by rw [hz]; exact xor8_other y (1 + (u3 : Int)) hyb hvc
      have HU2 : Hid (unlR t.ss t.rd (t.bs.set i z) t.tg s = ([], 2)) := by
        show _ = _
        have h := lock_turned xs s ys r i z (by rw [HT.out]; exact hO.byte) (by rw [HT.out]; exact HOK.out) (by rw [HT.out, hO.length]; exact hil) hzb (by rw [HT.out, ← hy]; exact hzn)
        rw [HT.out] at h
        exact h
      have HZ : Hid (bits .xor .u8 y (1 + (u3 : Int)) = z) := hz.symm
      have hs1 : Own w1.heap.size (w8.setCell ⟨gp, i, none⟩ (.int .u8 z)) (some ⟨gp, 0, none⟩) n6 bc (t.bs.set i z) := hO.store i z hzb
      have HN : Hid (Own w1.heap.size (w8.setCell ⟨gp, i, none⟩ (.int .u8 z)).drew (some ⟨gp, 0, none⟩) n6 bc (t.bs.set i z)) := hs1.kept (Below.refl _ _).drew
      have HTO : Hid (Touch gp (gp + 1) w8 (w8.setCell ⟨gp, i, none⟩ (.int .u8 z)).drew) := ((Touch.same gp (gp + 1) w8).setCell (p := ⟨gp, i, none⟩) (Nat.le_refl _) (Nat.lt_succ_self _) _).drewN 1
      have xd : w8.drew.cell? ⟨w2.heap.size, 2, none⟩ = some (.slice (some ⟨gp, 0, none⟩) n6 bc) := x2
      have HMR : Hid (Row w8.drew b m ms) := (HB.out.kept B8).kept hd8
      have HB8 : Hid (Below w.heap.size w w8) := B8
      clear hs1 hod hy hz hzn hO hyb hd8 HPL B8 hvb hvc
      go_upto_region 17 with fail
      rw [HPI.out]
      go_cut [17] (fun v wx => v = .int .i64 (i : Int) ∧ (w8.setCell ⟨gp, i, none⟩ (.int .u8 z)).drew = wx)
      case first =>
        go_region_with (go_at_call 12; refine (byteAt_v b m d ms 3 255 _ HMR.out (by decide) (by decide)).mono ?_; rintro e w9 ⟨rfl, hw⟩; subst hw; rw [HV3.out])
        all_goals
          go_wp2
          go_meet
          exact ⟨rfl, by rw [HZ.out]⟩
      case rest =>
        obtain ⟨rfl, hwx⟩ := hcut
        obtain ⟨w9, hw9⟩ : ∃ w9, w9 = (w8.setCell ⟨gp, i, none⟩ (.int .u8 z)).drew := ⟨_, rfl⟩
        rw [← hw9] at HN HTO hwx
        subst hwx
        clear hw9 hc' hfr x0 x1 x2 x3 y0 y1 y2 y3 xd
        have hgE : gp < w2.heap.size := by
          obtain ⟨M, h1, h2, h3⟩ := HIG
          rcases h3 with ⟨_, h4⟩ | ⟨h4, _⟩
          · exact (h4 gp 0 rfl hn0).2
          · have := (h4 gp 0 rfl hn0).2; omega
        have HX9 : Hid (Blk4 w9 w2.heap.size (.slice sa sn sc) (.int .i64 t.rd) (.slice (some ⟨gp, 0, none⟩) n6 bc) (.int .u64 t.tg)) := HX8.out.touch HTO.out (.inr hgE)
        have HSR : Hid (Row w9 sa sn t.ss) := by
          obtain ⟨M, h1, h2, h3⟩ := HIG
          rcases h3 with ⟨h5, h4⟩ | ⟨h4, h5⟩
          · exact HS8.out.sr.touch h5 (.inl (h4 gp 0 rfl hn0).1) HTO.out
          · exact HS8.out.sr.touch h5 (.inr (h4 gp 0 rfl hn0).2) HTO.out
        have B9 : Below w.heap.size w w9 := HB8.out.trans (HTO.out.below (by omega) HB8.out.size)
        obtain ⟨⟨x0, x1, x2, x3⟩, _⟩ := HX9.out.cells
        go_wp2_with fail
        refine (implUnlock_any sa sn sc t.rd (some ⟨gp, 0, none⟩) n6 bc t.tg t.ss (t.bs.set i z) s _ HSR.out HN.out.toRow hnsa hnba).mono ?_
        rw [HU2.out]
        rintro e w10 ⟨a10, n10, c10, rfl, ho10, hb10⟩
        obtain rfl : n10 = 0 := by rw [← ho10.length]; rfl
        have B10 := keepT B9 hb10
        go_wp2_with fail
        refine (lives_any _).mono ?_
        rintro e w11 ⟨rfl, hb11⟩
        go_wp2
        go_ret
        exact ⟨rfl, keepT B10 hb11⟩

end Go.Proofs.Ytcgmcdelgfemkaa
