import Derived.Test.YtochaopoggempaaEM14
import Derived.Deep.RegionHeldLaw
namespace Go.Proofs.Ytochaopoggempaa
open Go.RowKit Go.Sort

set_option maxRecDepth 10000 in
set_option maxHeartbeats 8000000 in
theorem lawOpenMsg_walk (rd : Int) (sa : Option Addr) (sn sc : Nat) (ba : Option Addr) (bn bc : Nat) (tg : Int) (ss : List (Int × Int)) (bs : List Int) (s : Int) (w : World) (h1 : RowWr w sa sn ss) (h2 : Row w ba bn bs) (hn1 : sn ≤ 9223372036854775807) (hn2 : bn ≤ 9223372036854775807) :
    Calls Try.prog 7 #[evv rd sa sn sc ba bn bc tg, .int .i64 s] w fun e w' => e = .returned (.bool true) ∧ Below w.heap.size w w' := by
  obtain ⟨wb, hwb⟩ : ∃ wb, wb = w.alloc (.cells #[.int .i64 rd, .slice sa sn sc, .slice ba bn bc, .int .u64 tg] 58) := ⟨_, rfl⟩
  have B0 : Below w.heap.size w wb := by rw [hwb]; exact (Below.refl _ _).alloc (Nat.le_refl _) _
  have HX : Hid (BlkVL wb w.heap.size (.int .i64 rd) (.slice sa sn sc) (.slice ba bn bc) (.int .u64 tg)) := by rw [hwb]; exact heap_alloc_new w _
  have HW : Hid (_ = _) := hwb
  have HA : Hid (RowWr w sa sn ss) := h1
  have HB : Hid (Row w ba bn bs) := h2
  have l0 := HX.out.lt
  clear hwb h1 h2
  obtain ⟨t, ht⟩ : ∃ t, t = openR rd ss bs tg s := ⟨_, rfl⟩
  have HT : Hid (openR rd ss bs tg s = t) := ht.symm
  have HLN : Hid (t.1.length ≤ 4000) := by rw [ht]; exact openR_len _ _ _ _ _
  clear ht
  obtain ⟨p0, p1, p2, p3⟩ := HX.out.cells
  rw [evv]
  go_enter Try.func7, Try.ntmps7
  go_upto_region 1 with fail
  rw [← HW.out]
  clear HW
  go_wp2_with fail
  refine (szEnv_any rd sa sn sc ba bn bc tg _ hn1 hn2).mono ?_
  rintro e w1 ⟨v, rfl, HSZ, hb1⟩
  have B1 := keepT B0 hb1
  by_cases hv : v < 0
  · go_wp2
    go_ret
    exact ⟨rfl, B1⟩
  have hsz : sn + bn ≤ 1048576 := by rcases HSZ.out with h | h; exact absurd h hv; exact h.2
  have HX1 : Hid (BlkVL w1 w.heap.size (.int .i64 rd) (.slice sa sn sc) (.slice ba bn bc) (.int .u64 tg)) := HX.out.kept hb1
  clear p0 p1 p2 p3 HSZ
  obtain ⟨p0, p1, p2, p3⟩ := HX1.out.cells
  go_wp2_with fail
  refine (toEnv_any rd sa sn sc ba bn bc tg ss bs _ (HA.out.kept B1) (HB.out.kept B1) hsz).mono ?_
  rintro e w2 ⟨sa2, ba2, rfl, hS2, hnb, hb2⟩
  have B2 := keepT B1 hb2
  go_wp2_with fail
  refine (specOpenMsg_any rd sa2 sn sn ba2 bn bn tg ss bs s _ hS2.wr hS2.br hnb hn1 hn2).mono ?_
  rw [HT.out]
  rintro e w3 ⟨a3, n3, c3, rfl, ho3, hb3⟩
  have B3 := keepT B2 hb3
  have hn3 : n3 ≤ 4000 := by rw [← ho3.length]; exact HLN.out
  have hm3 : n3 ≤ maxLen := by unfold maxLen; omega
  have HX3 : Hid (BlkVL w3 w.heap.size (.int .i64 rd) (.slice sa sn sc) (.slice ba bn bc) (.int .u64 tg)) := HX1.out.kept (keepT hb2 hb3)
  have HO3 : Hid (Own w2.heap.size w3 a3 n3 c3 t.1) := ho3
  have s1 := hb1.size
  have s2 := hb2.size
  have s3 := hb3.size
  clear p0 p1 p2 p3 hS2 hnb ho3
  obtain ⟨p0, p1, p2, p3⟩ := HX3.out.cells
  go_wp2_with fail
  refine (toEnv_any rd sa sn sc ba bn bc tg ss bs _ (HA.out.kept B3) (HB.out.kept B3) hsz).mono ?_
  rintro e w4 ⟨sa4, ba4, rfl, hS4, hnb, hb4⟩
  have B4 := keepT B3 hb4
  obtain ⟨w5, hw5⟩ : ∃ w5, w5 = w4.alloc (.cells #[.int .i64 rd, .slice sa4 sn sn, .slice ba4 bn bn, .int .u64 tg] 46) := ⟨_, rfl⟩
  have hb5 : Below w4.heap.size w4 w5 := by rw [hw5]; exact (Below.refl _ _).alloc (Nat.le_refl _) _
  have HY5 : Hid (BlkV w5 w4.heap.size (.int .i64 rd) (.slice sa4 sn sn) (.slice ba4 bn bn) (.int .u64 tg)) := by rw [hw5]; exact heap_alloc_new w4 _
  have HS5 : Hid (EvW w3.heap.size w4.heap.size w5 sa4 sn sn ss ba4 bn bn bs) := hS4.kept hb5
  have HX5 : Hid (BlkVL w5 w.heap.size (.int .i64 rd) (.slice sa sn sc) (.slice ba bn bc) (.int .u64 tg)) := HX3.out.kept (keepT hb4 hb5)
  have HO5 : Hid (Own w2.heap.size w5 a3 n3 c3 t.1) := (HO3.out.kept hb4).kept hb5
  have HI3 : Hid (In a3 n3 w2.heap.size w3.heap.size) := HO3.out.in_
  have HW5 : Hid (_ = _) := hw5
  have B5 := keepT B4 hb5
  have s4 := hb4.size
  have s5 := HY5.out.lt
  clear hw5 p0 p1 p2 p3 hS4 hb5 hb4 HO3 HX3 HX1 HX
  unfold evv
  go_upto_region 7 with fail
  rw [← HW5.out]
  clear HW5
  obtain ⟨⟨y0, y1, y2, y3⟩, _⟩ := HY5.out.cells
  go_wp2_with fail
  refine (implOpenMsg_any rd sa4 sn sn ba4 bn bn tg ss bs s _ HS5.out.wr HS5.out.br hnb hn1 hn2).mono ?_
  rw [HT.out]
  rintro e w6 ⟨a6, n6, c6, rfl, ho6, hb6⟩
  obtain rfl : n6 = n3 := by rw [← ho6.length, ← HO5.out.length]
  have B6 := keepT B5 hb6
  have s6 := hb6.size
  have HY6 : Hid (BlkV w6 w4.heap.size (.int .i64 rd) (.slice sa4 sn sn) (.slice ba4 bn bn) (.int .u64 tg)) := HY5.out.kept hb6
  have HS6 : Hid (EvW w3.heap.size w4.heap.size w6 sa4 sn sn ss ba4 bn bn bs) := HS5.out.kept hb6
  have HX6 : Hid (BlkVL w6 w.heap.size (.int .i64 rd) (.slice sa sn sc) (.slice ba bn bc) (.int .u64 tg)) := HX5.out.kept hb6
  have HO6 : Hid (Own w2.heap.size w6 a3 n6 c3 t.1) := HO5.out.kept hb6
  have HG6 : Hid (Own w5.heap.size w6 a6 n6 c6 t.1) := ho6
  have HI6 : Hid (In a6 n6 w5.heap.size w6.heap.size) := ho6.in_
  have z1 : (t.2 != t.2) = false := by simp
  clear y0 y1 y2 y3 HY5 HS5 HX5 HO5 ho6 hb6 hnb
  go_wp2_with fail
  refine (eqByteS_any a6 a3 n6 n6 c6 c3 t.1 t.1 _ HG6.out.toRow HO6.out.toRow hm3 hm3).mono ?_
  rintro e w7 ⟨rfl, hb7⟩
  rw [decide_eq_true (rfl : t.1 = t.1)]
  have B7 := keepT B6 hb7
  have s7 := hb7.size
  have HY7 : Hid (BlkV w7 w4.heap.size (.int .i64 rd) (.slice sa4 sn sn) (.slice ba4 bn bn) (.int .u64 tg)) := HY6.out.kept hb7
  have HS7 : Hid (EvW w3.heap.size w4.heap.size w7 sa4 sn sn ss ba4 bn bn bs) := HS6.out.kept hb7
  have HX7 : Hid (BlkVL w7 w.heap.size (.int .i64 rd) (.slice sa sn sc) (.slice ba bn bc) (.int .u64 tg)) := HX6.out.kept hb7
  have HO7 : Hid (Own w2.heap.size w7 a3 n6 c3 t.1) := HO6.out.kept hb7
  have HG7 : Hid (Own w5.heap.size w7 a6 n6 c6 t.1) := HG6.out.kept hb7
  clear HY6 HS6 HX6 HO6 HG6 hb7
  go_upto_region 10 with fail
  have hd7 : Below w7.heap.size w7 w7.drew := (Below.refl _ _).drew
  have HSD : ∀ W, Below w7.heap.size w7 W → (W.cell? ⟨w4.heap.size, 0, none⟩ = some (.int .i64 rd) ∧ W.cell? ⟨w4.heap.size, 1, none⟩ = some (.slice sa4 sn sn) ∧ W.cell? ⟨w4.heap.size, 2, none⟩ = some (.slice ba4 bn bn) ∧ W.cell? ⟨w4.heap.size, 3, none⟩ = some (.int .u64 tg)) ∧ W.cell? ⟨w.heap.size, 0, none⟩ = some (.int .i64 rd) ∧ W.cell? ⟨w.heap.size, 1, none⟩ = some (.slice sa sn sc) ∧ W.cell? ⟨w.heap.size, 2, none⟩ = some (.slice ba bn bc) ∧ W.cell? ⟨w.heap.size, 3, none⟩ = some (.int .u64 tg) := fun W hW => ⟨(HY7.out.kept hW).cells.1, (HX7.out.kept hW).cells⟩
  have T0 := HSD _ (Below.refl _ _)
  have T1 := HSD _ hd7
  go_region_held_law (fun W => (W.cell? ⟨w4.heap.size, 0, none⟩ = some (.int .i64 rd) ∧ W.cell? ⟨w4.heap.size, 1, none⟩ = some (.slice sa4 sn sn) ∧ W.cell? ⟨w4.heap.size, 2, none⟩ = some (.slice ba4 bn bn) ∧ W.cell? ⟨w4.heap.size, 3, none⟩ = some (.int .u64 tg)) ∧ W.cell? ⟨w.heap.size, 0, none⟩ = some (.int .i64 rd) ∧ W.cell? ⟨w.heap.size, 1, none⟩ = some (.slice sa sn sc) ∧ W.cell? ⟨w.heap.size, 2, none⟩ = some (.slice ba bn bc) ∧ W.cell? ⟨w.heap.size, 3, none⟩ = some (.int .u64 tg)) (first | assumption | exact T0 | exact T1 | exact T2 | exact T3)
    (first
      | (go_at_call 34; refine (toEnv_any rd sa sn sc ba bn bc tg ss bs _ (HA.out.kept (keepT B7 hd7)) (HB.out.kept (keepT B7 hd7)) hsz).mono ?_; rintro e wx ⟨sx, bx, rfl, hSx, _, hbx⟩; have hX := keepT hd7 hbx; have T2 := HSD _ hX; have S7 := HS7.out.kept hX)
      | (go_at_call 27; refine (eqEnv_same rd sa4 sn sn ba4 bn bn tg sx sn bx bn ss bs _ S7.wr S7.br hSx.wr hSx.br hn1 (by unfold maxLen; omega)).mono ?_; rintro e wy ⟨rfl, hby⟩; have hY := keepT hX hby; have T3 := HSD _ hY))
  all_goals
    clear T0 T1 T2 T3 S7 hX hbx hby hSx
    have B8 := keepT B7 hY
    have s8 := hY.size
    have HY8 : Hid (BlkV wy w4.heap.size (.int .i64 rd) (.slice sa4 sn sn) (.slice ba4 bn bn) (.int .u64 tg)) := HY7.out.kept hY
    have HS8 : Hid (EvW w3.heap.size w4.heap.size wy sa4 sn sn ss ba4 bn bn bs) := HS7.out.kept hY
    have HX8 : Hid (BlkVL wy w.heap.size (.int .i64 rd) (.slice sa sn sc) (.slice ba bn bc) (.int .u64 tg)) := HX7.out.kept hY
    have HO8 : Hid (Own w2.heap.size wy a3 n6 c3 t.1) := HO7.out.kept hY
    have HG8 : Hid (Own w5.heap.size wy a6 n6 c6 t.1) := HG7.out.kept hY
    clear HY7 HS7 HX7 HO7 HG7 hY HSD
    obtain ⟨⟨y0, y1, y2, y3⟩, _⟩ := HY8.out.cells
    go_wp2_with fail
    refine (markEnv_any w3.heap.size w4.heap.size rd sa4 sn sn ba4 bn bn tg ss bs _ HS8.out (by omega) (by omega) (by omega)).mono ?_
    rintro e w9 ⟨rfl, _, _, T9⟩
    obtain ⟨KK, hKK⟩ : ∃ KK : Nat, KK = 1 + 2 * sn := ⟨_, rfl⟩
    rw [← hKK]
    clear hKK
    have B9 : Below w.heap.size w w9 := B8.trans (T9.below (by omega) (by omega))
    have s9 := T9.size
    have HX9 : Hid (BlkVL w9 w.heap.size (.int .i64 rd) (.slice sa sn sc) (.slice ba bn bc) (.int .u64 tg)) := HX8.out.touch T9 (.inl (by omega))
    have HO9 : Hid (Row w9 a3 n6 t.1) := HO8.out.toRow.touch HI3.out (.inl (Nat.le_refl _)) T9
    have HG9 : Hid (Row w9 a6 n6 t.1) := HG8.out.toRow.touch HI6.out (.inr (by omega)) T9
    have HP9 : Hid (0 < n6 → Own w5.heap.size w9 a6 n6 c6 t.1) := fun hp => HG8.out.touch HI6.out (.inr (by omega)) T9 hp
    have z2 : ¬ ((KK : Int) + bn < 0) := by omega
    clear y0 y1 y2 y3 HY8 HS8 HX8 HO8 HG8
    go_wp2_with fail
    refine (eqByteS_any a6 a3 n6 n6 c6 c3 t.1 t.1 _ HG9.out HO9.out hm3 hm3).mono ?_
    rintro e w10 ⟨rfl, hb10⟩
    rw [decide_eq_true (rfl : t.1 = t.1)]
    have B10 := keepT B9 hb10
    have s10 := hb10.size
    have HX10 : Hid (BlkVL w10 w.heap.size (.int .i64 rd) (.slice sa sn sc) (.slice ba bn bc) (.int .u64 tg)) := HX9.out.kept hb10
    have HO10 : Hid (Row w10 a3 n6 t.1) := HO9.out.kept hb10
    have HP10 : Hid (0 < n6 → Own w5.heap.size w10 a6 n6 c6 t.1) := fun hp => (HP9.out hp).kept hb10
    clear HX9 HO9 HP9 HG9 hb10 T9
    go_wp2_with fail
    refine (markByteS_t w5.heap.size a6 n6 c6 1 t.1 _ HP10.out (by omega) (by decide) (by decide)).mono ?_
    rintro e w11 ⟨rfl, _, hr11, ht11⟩
    have T11 := ht11 _ _ HI6.out
    have B11 : Below w.heap.size w w11 := B10.trans (T11.below (by omega) (by omega))
    have HX11 : Hid (BlkVL w11 w.heap.size (.int .i64 rd) (.slice sa sn sc) (.slice ba bn bc) (.int .u64 tg)) := HX10.out.touch T11 (.inl (by omega))
    have HO11 : Hid (Row w11 a3 n6 t.1) := HO10.out.touch HI3.out (.inl (by omega)) T11
    have HR11 : Hid (Row w11 a6 n6 (marks (1 : Int).toNat n6)) := hr11
    clear hr11 ht11 HX10 HO10 HP10 T11
    go_wp2_with fail
    refine (heldByteS_int a6 n6 c6 1 _ HR11.out (by omega) (by decide) (by decide)).mono ?_
    rintro e w12 ⟨rfl, hw⟩
    have hw2 := hw.symm
    subst hw2
    have z3 : ¬ ((1 : Int) + n6 < 0) := by omega
    have z4 : ((1 : Int) + n6 != 1 + n6) = false := by simp
    obtain ⟨p0, p1, p2, p3⟩ := HX11.out.cells
    go_wp2_with fail
    refine (toEnv_any rd sa sn sc ba bn bc tg ss bs _ (HA.out.kept B11) (HB.out.kept B11) hsz).mono ?_
    rintro e w13 ⟨sa5, ba5, rfl, hS13, hnb, hb13⟩
    have B13 := keepT B11 hb13
    go_wp2_with fail
    refine (implOpenMsg_any rd sa5 sn sn ba5 bn bn tg ss bs s _ hS13.wr hS13.br hnb hn1 hn2).mono ?_
    rw [HT.out]
    rintro e w14 ⟨a14, n14, c14, rfl, ho14, hb14⟩
    obtain rfl : n14 = n6 := by rw [← ho14.length, ← HO11.out.len]
    have B14 := keepT B13 hb14
    have K14 := keepT hb13 hb14
    clear p0 p1 p2 p3
    go_wp2_with fail
    refine (eqByteS_any a14 a3 n14 n14 c14 c3 t.1 t.1 _ ho14.toRow (HO11.out.kept K14) hm3 hm3).mono ?_
    rintro e w15 ⟨rfl, hb15⟩
    rw [decide_eq_true (rfl : t.1 = t.1)]
    have B15 := keepT B14 hb15
    go_wp2_with fail
    refine (heldByteS_int a6 n14 c6 1 _ (HR11.out.kept (keepT K14 hb15)) (by omega) (by decide) (by decide)).mono ?_
    rintro e w16 ⟨rfl, hw⟩
    have hw2 := hw.symm
    subst hw2
    go_wp2_with fail
    go_ret
    exact ⟨rfl, B15⟩

end Go.Proofs.Ytochaopoggempaa
