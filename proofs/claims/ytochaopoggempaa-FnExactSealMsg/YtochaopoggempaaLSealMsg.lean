import Derived.Test.YtochaopoggempaaEM10
import Derived.Test.YtochaopoggempaaEM11
namespace Go.Proofs.Ytochaopoggempaa
open Go.RowKit

/-- The specification's answer and the program's, each in a box. -/
structure SmS (t : EnvV) (sn bn : Nat) (g0 g1 B0 E0 B1 E1 : Nat) (sa : Option Addr) (sc : Nat) (ba : Option Addr) (bc : Nat) (sa' : Option Addr) (sc' : Nat) (ba' : Option Addr) (bc' : Nat) (w : World) : Prop where
  x0 : BlkV w g0 (.int .i64 t.eph) (.slice sa sn sc) (.slice ba bn bc) (.int .u64 t.tg)
  x1 : BlkV w g1 (.int .i64 t.eph) (.slice sa' sn sc') (.slice ba' bn bc') (.int .u64 t.tg)
  s0 : EvW B0 E0 w sa sn sc t.ws ba bn bc t.bs
  s1 : EvW B1 E1 w sa' sn sc' t.ws ba' bn bc' t.bs
theorem SmS.kept {t : EnvV} {sn bn : Nat} {g0 g1 B0 E0 B1 E1 : Nat} {sa : Option Addr} {sc : Nat} {ba : Option Addr} {bc : Nat} {sa' : Option Addr} {sc' : Nat} {ba' : Option Addr} {bc' : Nat} {w w' : World} (h : SmS t sn bn g0 g1 B0 E0 B1 E1 sa sc ba bc sa' sc' ba' bc' w) (hb : Below w.heap.size w w') : SmS t sn bn g0 g1 B0 E0 B1 E1 sa sc ba bc sa' sc' ba' bc' w' :=
  ⟨h.x0.kept hb, h.x1.kept hb, h.s0.kept hb, h.s1.kept hb⟩
theorem SmS.touch {t : EnvV} {sn bn : Nat} {g0 g1 B0 E0 B1 E1 lo hi : Nat} {sa : Option Addr} {sc : Nat} {ba : Option Addr} {bc : Nat} {sa' : Option Addr} {sc' : Nat} {ba' : Option Addr} {bc' : Nat} {w w' : World} (h : SmS t sn bn g0 g1 B0 E0 B1 E1 sa sc ba bc sa' sc' ba' bc' w) (ht : Touch lo hi w w') (h1 : E0 ≤ lo) (h2 : g0 < lo) (h3 : hi ≤ B1) (h4 : hi ≤ g1) : SmS t sn bn g0 g1 B0 E0 B1 E1 sa sc ba bc sa' sc' ba' bc' w' :=
  ⟨h.x0.touch ht (.inl h2), h.x1.touch ht (.inr h4), h.s0.touch ht (.inl h1), h.s1.touch ht (.inr h3)⟩

set_option maxRecDepth 10000 in
set_option maxHeartbeats 8000000 in
theorem lawSealMsg_walk (a : Option Addr) (n c : Nat) (z0 : List Int) (b : Option Addr) (m d : Nat) (ys : List (Int × Int × Int)) (r : Int) (w : World) (hr0 : IsRow .u8 w a n c z0) (hr1 : RowPu w b m ys) (hmax1 : m ≤ 9223372036854775807) (hi64 : ∀ j, j < m → (ys.getD j (0, 0, 0)).1 ≤ 9223372036854775807 ∧ (ys.getD j (0, 0, 0)).2.2 ≤ 9223372036854775807) (hem : r ≤ 9223372036854775807) :
    Calls Try.prog 6 #[.slice a n c, .slice b m d, .int .i64 r] w fun e w' => e = .returned (.bool true) ∧ Below w.heap.size w w' := by
  obtain ⟨hrow0, hmax0⟩ := hr0.row
  obtain ⟨xs, hxs⟩ : ∃ xs, xs = z0.take n := ⟨_, rfl⟩
  rw [← hxs] at hrow0
  clear hxs hr0
  unfold maxLen at hmax0
  have HA : Hid (Row w a n xs) := hrow0
  have HB : Hid (RowPu w b m ys) := hr1
  have HM : Hid (∀ j, j < m → (ys.getD j (0, 0, 0)).1 ≤ 9223372036854775807 ∧ (ys.getD j (0, 0, 0)).2.2 ≤ 9223372036854775807) := hi64
  have HM2 : Hid (∀ j, j < m → (ys.getD j (0, 0, 0)).2.2 ≤ 9223372036854775807) := fun j hj => (hi64 j hj).2
  clear hrow0 hr1 hi64
  by_cases hbig : 1048576 < n
  · go_enter Try.func6, Try.ntmps6
    go_wp2
    go_ret
    exact ⟨rfl, Below.refl _ _⟩
  by_cases hbig2 : (1048576 : Int) < m
  · have z0 : ¬ (1048576 : Int) < (n : Int) := by omega
    go_enter Try.func6, Try.ntmps6
    go_wp2_with fail
    refine (szPuS_any b m d 1048576 _ hmax1 (by decide) (by decide)).mono ?_
    rintro e w1 ⟨rfl, hw⟩
    have hw2 := hw.symm
    subst hw2
    rw [if_pos hbig2]
    go_wp2
    go_ret
    exact ⟨rfl, Below.refl _ _⟩
  have hm : n ≤ maxLen := by unfold maxLen; omega
  have hn : n ≤ 1048576 := by omega
  have hmm : m ≤ 1048576 := by omega
  obtain ⟨t, ht⟩ : ∃ t, t = sealR xs ys r := ⟨_, rfl⟩
  have HT : Hid (sealR xs ys r = t) := ht.symm
  have HLN : Hid (t.ws.length ≤ 20 ∧ t.bs.length ≤ 4000) := by rw [ht]; exact sealR_len _ _ _
  clear ht
  go_enter Try.func6, Try.ntmps6
  go_wp2_with fail
  refine (szPuS_any b m d 1048576 _ hmax1 (by decide) (by decide)).mono ?_
  rintro e w0 ⟨rfl, hw⟩
  have hw2 := hw.symm
  subst hw2
  rw [if_neg (show ¬ (1048576 : Int) < (m : Int) by omega)]
  obtain ⟨lf, hlf⟩ : ∃ lf, lf = (1048576 : Int) - m := ⟨_, rfl⟩
  have hlf0 : ¬ lf < 0 := by omega
  rw [← hlf]
  clear hlf
  go_wp2_with fail
  refine (toByteS_any a n c xs _ HA.out (by omega)).mono ?_
  rintro e w1 ⟨a1, rfl, ho1, hb1⟩
  go_wp2_with fail
  refine (toPuS_any b m d ys _ (HB.out.kept hb1) (by omega)).mono ?_
  rintro e w2 ⟨a2, rfl, ho2, hb2⟩
  have B2 := keepT hb1 hb2
  go_wp2_with fail
  refine (specSealMsg_any a1 n n xs a2 m m ys r _ ((ho1.kept hb2).toRow) ho1.nil (by omega) ho2.toRow hmax1 HM.out hem).mono ?_
  rw [HT.out]
  rintro e w3 ⟨sa, sn, sc, ba, bn, bc, rfl, hS0, _, _, hb3⟩
  have B3 := keepT B2 hb3
  have hsn : sn ≤ 20 := by rw [← hS0.wr.len]; exact HLN.out.1
  have hbn : bn ≤ 4000 := by rw [← hS0.br.len]; exact HLN.out.2
  have hsm : sn ≤ 9223372036854775807 := by omega
  have hbm : bn ≤ maxLen := by unfold maxLen; omega
  obtain ⟨w4, hw4⟩ : ∃ w4, w4 = w3.alloc (.cells #[.int .i64 t.eph, .slice sa sn sc, .slice ba bn bc, .int .u64 t.tg] 46) := ⟨_, rfl⟩
  have hb4 : Below w3.heap.size w3 w4 := by rw [hw4]; exact (Below.refl _ _).alloc (Nat.le_refl _) _
  have HX0 : Hid (BlkV w4 w3.heap.size (.int .i64 t.eph) (.slice sa sn sc) (.slice ba bn bc) (.int .u64 t.tg)) := by rw [hw4]; exact heap_alloc_new w3 _
  have HS0 : Hid (EvW w2.heap.size w3.heap.size w4 sa sn sc t.ws ba bn bc t.bs) := hS0.kept hb4
  have HW4 : Hid (_ = _) := hw4
  have B4 := keepT B3 hb4
  clear hw4 ho1 ho2 hb1 hS0
  unfold evv
  go_upto_region 8 with fail
  rw [← HW4.out]
  clear HW4
  go_wp2_with fail
  refine (toByteS_any a n c xs _ (HA.out.kept B4) (by omega)).mono ?_
  rintro e w5 ⟨a5, rfl, ho5, hb5⟩
  have B5 := keepT B4 hb5
  go_wp2_with fail
  refine (toPuS_any b m d ys _ (HB.out.kept B5) (by omega)).mono ?_
  rintro e w6 ⟨a6, rfl, ho6, hb6⟩
  have B6 := keepT B5 hb6
  go_wp2_with fail
  refine (implSealMsg_any a5 n n xs a6 m m ys r _ ((ho5.kept hb6).toRow) ho5.nil (by omega) ho6.toRow hmax1 HM2.out hem).mono ?_
  rw [HT.out]
  rintro e w7 ⟨sa', sn', sc', ba', bn', bc', rfl, hS1, _, _, hb7⟩
  have B7 := keepT B6 hb7
  obtain rfl : sn' = sn := by rw [← hS1.wr.len, ← HS0.out.wr.len]
  obtain rfl : bn' = bn := by rw [← hS1.br.len, ← HS0.out.br.len]
  obtain ⟨w8, hw8⟩ : ∃ w8, w8 = w7.alloc (.cells #[.int .i64 t.eph, .slice sa' sn' sc', .slice ba' bn' bc', .int .u64 t.tg] 46) := ⟨_, rfl⟩
  have hb8 : Below w7.heap.size w7 w8 := by rw [hw8]; exact (Below.refl _ _).alloc (Nat.le_refl _) _
  have hx1 : BlkV w8 w7.heap.size (.int .i64 t.eph) (.slice sa' sn' sc') (.slice ba' bn' bc') (.int .u64 t.tg) := by rw [hw8]; exact heap_alloc_new w7 _
  have HL : Hid (SmS t sn' bn' w3.heap.size w7.heap.size w2.heap.size w3.heap.size w6.heap.size w7.heap.size sa sc ba bc sa' sc' ba' bc' w8) := ⟨HX0.out.kept (keepT hb5 (keepT hb6 (keepT hb7 hb8))), hx1, HS0.out.kept (keepT hb5 (keepT hb6 (keepT hb7 hb8))), hS1.kept hb8⟩
  have HO5 : Hid (Own w4.heap.size w8 a5 n n xs) := ((ho5.kept hb6).kept hb7).kept hb8
  have HO6 : Hid (OwnPu w5.heap.size w8 a6 m m ys) := (ho6.kept hb7).kept hb8
  have HI5 : Hid (In a5 n w4.heap.size w5.heap.size) := ho5.in_
  have HI6 : Hid (In a6 m w5.heap.size w6.heap.size) := ho6.in_
  have HW8 : Hid (_ = _) := hw8
  have B8 := keepT B7 hb8
  have s2 := B2.size
  have s3 := hb3.size
  have s4 := HX0.out.lt
  have s5 := hb5.size
  have s6 := hb6.size
  have s7 := hb7.size
  have s8 := hx1.lt
  clear hw8 ho5 ho6 hb5 hb6 hb7 hb8 hS1 hx1 HX0 HS0
  unfold evv
  go_upto_region 11 with fail
  rw [← HW8.out]
  clear HW8
  obtain ⟨⟨x0, x1, x2, x3⟩, _⟩ := HL.out.x0.cells
  obtain ⟨⟨y0, y1, y2, y3⟩, _⟩ := HL.out.x1.cells
  have z1 : (t.ok != t.ok) = false := by simp
  go_wp2_with fail
  refine (eqEnv_same t.eph sa' sn' sc' ba' bn' bc' t.tg sa sc ba bc t.ws t.bs _ HL.out.s1.wr HL.out.s1.br HL.out.s0.wr HL.out.s0.br hsm hbm).mono ?_
  rintro e w9 ⟨rfl, hb9⟩
  have HL9 := HL.out.kept hb9
  have B9 := keepT B8 hb9
  clear x0 x1 x2 x3 y0 y1 y2 y3
  go_wp2_with fail
  refine (toByteS_any a n c xs _ (HA.out.kept B9) (by omega)).mono ?_
  rintro e w10 ⟨a10, rfl, ho10, hb10⟩
  go_wp2_with fail
  have h5 := (HO5.out.kept hb9).kept hb10
  refine (eqByteS_any a5 a10 n n n n xs xs _ h5.toRow ho10.toRow hm hm).mono ?_
  rintro e w11 ⟨rfl, hb11⟩
  rw [decide_eq_true (rfl : xs = xs)]
  have B11 := keepT B9 (keepT hb10 hb11)
  have HL11 := (HL9.kept hb10).kept hb11
  have hO5 := h5.kept hb11
  have hO6 := ((HO6.out.kept hb9).kept hb10).kept hb11
  go_wp2_with fail
  refine (toPuS_any b m d ys _ (HB.out.kept B11) (by omega)).mono ?_
  rintro e w12 ⟨a12, rfl, ho12, hb12⟩
  go_wp2_with fail
  refine (eqPuS_same a6 a12 m m m ys _ ((hO6.kept hb12).toRow) ho12.toRow hmax1).mono ?_
  rintro e w13 ⟨rfl, hb13⟩
  have B13 := keepT B11 (keepT hb12 hb13)
  have HL13 : Hid (SmS t sn' bn' w3.heap.size w7.heap.size w2.heap.size w3.heap.size w6.heap.size w7.heap.size sa sc ba bc sa' sc' ba' bc' w13) := (HL11.kept hb12).kept hb13
  have HP5 : Hid (Own w4.heap.size w13 a5 n n xs) := (hO5.kept hb12).kept hb13
  have HP6 : Hid (OwnPu w5.heap.size w13 a6 m m ys) := (hO6.kept hb12).kept hb13
  have s13 : w8.heap.size ≤ w13.heap.size := Nat.le_trans hb9.size (Nat.le_trans hb10.size (Nat.le_trans hb11.size (Nat.le_trans hb12.size hb13.size)))
  clear HL9 HL11 h5 hO5 hO6 ho10 ho12 hb9 hb10 hb11 hb12 hb13 HO5 HO6 HL
  go_wp2_with fail
  refine (markByteS_t w4.heap.size a5 n n 1 xs _ (fun _ => HP5.out) (by omega) (by decide) (by decide)).mono ?_
  rintro e w14 ⟨rfl, _, _, ht14⟩
  have T14 : Touch w4.heap.size w6.heap.size w13 w14 := (ht14 _ _ HI5.out).mono (Nat.le_refl _) s6
  have HP6' : Hid (0 < m → OwnPu w5.heap.size w14 a6 m m ys) := fun hp => HP6.out.touch HI6.out (.inr (Nat.le_refl _)) (ht14 _ _ HI5.out) hp
  go_wp2_with fail
  refine (markPuS_int w5.heap.size a6 m m (1 + n) ys _ HP6'.out (by omega) (by omega) (by omega)).mono ?_
  rintro e w15 ⟨rfl, ht15⟩
  have T15 : Touch w4.heap.size w6.heap.size w13 w15 := T14.trans ((ht15 _ _ HI6.out).mono s5 (Nat.le_refl _))
  have HL15 : Hid (SmS t sn' bn' w3.heap.size w7.heap.size w2.heap.size w3.heap.size w6.heap.size w7.heap.size sa sc ba bc sa' sc' ba' bc' w15) := HL13.out.touch T15 (by omega) s4 (Nat.le_refl _) s7
  have B15 : Below w.heap.size w w15 := B13.trans (T15.below (by omega) (by omega))
  have s15 : w13.heap.size ≤ w15.heap.size := T15.size
  clear ht14 ht15 T14 HP5 HP6 HP6' HL13
  obtain ⟨⟨x0, x1, x2, x3⟩, _⟩ := HL15.out.x0.cells
  obtain ⟨⟨y0, y1, y2, y3⟩, _⟩ := HL15.out.x1.cells
  have z2 : ¬ ((1 : Int) + n + 3 * m < 0) := by omega
  go_wp2_with fail
  refine (eqEnv_same t.eph sa' sn' sc' ba' bn' bc' t.tg sa sc ba bc t.ws t.bs _ HL15.out.s1.wr HL15.out.s1.br HL15.out.s0.wr HL15.out.s0.br hsm hbm).mono ?_
  rintro e w16 ⟨rfl, hb16⟩
  have HL16 : Hid (SmS t sn' bn' w3.heap.size w7.heap.size w2.heap.size w3.heap.size w6.heap.size w7.heap.size sa sc ba bc sa' sc' ba' bc' w16) := HL15.out.kept hb16
  have B16 := keepT B15 hb16
  have s16 := hb16.size
  clear x0 x1 x2 x3 y0 y1 y2 y3 HL15
  obtain ⟨⟨y0, y1, y2, y3⟩, _⟩ := HL16.out.x1.cells
  go_wp2_with fail
  refine (markEnv_any w6.heap.size w7.heap.size t.eph sa' sn' sc' ba' bn' bc' t.tg t.ws t.bs _ HL16.out.s1 (by omega) (by omega) (by omega)).mono ?_
  rintro e w17 ⟨rfl, hq1, hq2, T17⟩
  obtain ⟨KK, hKK⟩ : ∃ KK : Nat, KK = 1 + 2 * sn' := ⟨_, rfl⟩
  have HKK : Hid (1 + 2 * sn' = KK) := hKK.symm
  rw [← hKK]
  clear hKK
  have X1 := HL16.out.x1.touch T17 (.inr (Nat.le_refl _))
  have HX1 : Hid (BlkV w17 w7.heap.size (.int .i64 t.eph) (.slice sa' sn' sc') (.slice ba' bn' bc') (.int .u64 t.tg)) := X1
  have HX0 : Hid (BlkV w17 w3.heap.size (.int .i64 t.eph) (.slice sa sn' sc) (.slice ba bn' bc) (.int .u64 t.tg)) := HL16.out.x0.touch T17 (.inl (by omega))
  have HS0 : Hid (EvW w2.heap.size w3.heap.size w17 sa sn' sc t.ws ba bn' bc t.bs) := HL16.out.s0.touch T17 (.inl (by omega))
  have HQ1 : Hid (RowWr w17 sa' sn' (marksWr 1 sn')) := hq1
  have HQ2 : Hid (Row w17 ba' bn' (marks (1 + 2 * sn') bn')) := hq2
  have B17 : Below w.heap.size w w17 := B16.trans (T17.below (by omega) (by omega))
  clear y0 y1 y2 y3 hq1 hq2 X1 HL16
  obtain ⟨⟨y0, y1, y2, y3⟩, _⟩ := HX1.out.cells
  go_wp2_with fail
  refine (heldEnv_any t.eph sa' sn' sc' ba' bn' bc' t.tg _ HQ1.out HQ2.out (by omega) (by omega)).mono ?_
  rintro e w18 ⟨rfl, hb18⟩
  have B18 := keepT B17 hb18
  rw [HKK.out]
  have z3 : ¬ ((KK : Int) + bn' < 0) := by omega
  have z4 : ((KK : Int) + bn' != KK + bn') = false := by simp
  clear y0 y1 y2 y3
  go_wp2_with fail
  refine (toByteS_any a n c xs _ (HA.out.kept B18) (by omega)).mono ?_
  rintro e w19 ⟨a19, rfl, ho19, hb19⟩
  have B19 := keepT B18 hb19
  go_wp2_with fail
  refine (toPuS_any b m d ys _ (HB.out.kept B19) (by omega)).mono ?_
  rintro e w20 ⟨a20, rfl, ho20, hb20⟩
  have B20 := keepT B19 hb20
  go_wp2_with fail
  refine (implSealMsg_any a19 n n xs a20 m m ys r _ ((ho19.kept hb20).toRow) ho19.nil (by omega) ho20.toRow hmax1 HM2.out hem).mono ?_
  rw [HT.out]
  rintro e w21 ⟨sa2, sn2, sc2, ba2, bn2, bc2, rfl, hS2, _, _, hb21⟩
  have B21 := keepT B20 hb21
  obtain rfl : sn2 = sn' := by rw [← hS2.wr.len, ← HS0.out.wr.len]
  obtain rfl : bn2 = bn' := by rw [← hS2.br.len, ← HS0.out.br.len]
  obtain ⟨w22, hw22⟩ : ∃ w22, w22 = w21.alloc (.cells #[.int .i64 t.eph, .slice sa2 sn2 sc2, .slice ba2 bn2 bc2, .int .u64 t.tg] 46) := ⟨_, rfl⟩
  have hb22 : Below w21.heap.size w21 w22 := by rw [hw22]; exact (Below.refl _ _).alloc (Nat.le_refl _) _
  have HX2 : Hid (BlkV w22 w21.heap.size (.int .i64 t.eph) (.slice sa2 sn2 sc2) (.slice ba2 bn2 bc2) (.int .u64 t.tg)) := by rw [hw22]; exact heap_alloc_new w21 _
  have K22 : Below w17.heap.size w17 w22 := keepT hb18 (keepT hb19 (keepT hb20 (keepT hb21 hb22)))
  have HS2 : Hid (EvW w20.heap.size w21.heap.size w22 sa2 sn2 sc2 t.ws ba2 bn2 bc2 t.bs) := hS2.kept hb22
  have HW22 : Hid (_ = _) := hw22
  have B22 := keepT B21 hb22
  clear hw22 ho19 ho20 hb18 hb19 hb20 hb21 hb22 hS2
  unfold evv
  go_upto_region 31 with fail
  rw [← HW22.out]
  clear HW22
  obtain ⟨⟨x0, x1, x2, x3⟩, _⟩ := (HX0.out.kept K22).cells
  obtain ⟨⟨y0, y1, y2, y3⟩, _⟩ := HX2.out.cells
  have S0 := HS0.out.kept K22
  go_wp2_with fail
  refine (eqEnv_same t.eph sa2 sn2 sc2 ba2 bn2 bc2 t.tg sa sc ba bc t.ws t.bs _ HS2.out.wr HS2.out.br S0.wr S0.br hsm hbm).mono ?_
  rintro e w23 ⟨rfl, hb23⟩
  have K23 := keepT K22 hb23
  have B23 := keepT B22 hb23
  clear x0 x1 x2 x3 y0 y1 y2 y3 S0
  obtain ⟨⟨y0, y1, y2, y3⟩, _⟩ := (HX1.out.kept K23).cells
  go_wp2_with fail
  refine (heldEnv_any t.eph sa' sn2 sc' ba' bn2 bc' t.tg _ (HQ1.out.kept K23) (HQ2.out.kept K23) (by omega) (by omega)).mono ?_
  rintro e w24 ⟨rfl, hb24⟩
  rw [HKK.out]
  go_wp2_with fail
  go_ret
  exact ⟨rfl, keepT B23 hb24⟩

end Go.Proofs.Ytochaopoggempaa
