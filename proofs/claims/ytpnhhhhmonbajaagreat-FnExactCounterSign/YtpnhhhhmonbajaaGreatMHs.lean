import Derived.Test.YtpnhhhhmonbajaaGreatMI
import Derived.Test.YtpnhhhhmonbajaaGreatTT1
import Derived.BigQuiet
import Derived.WalkSmall
import Derived.Test.YtpnhhhhmonbajaaGreatTouch
import Derived.Test.YtpnhhhhmonbajaaGreatQSA4
import Derived.Deep.RegionHeld3
import Derived.Deep.DeepCutAuto
import Derived.Deep.RegionWith
import Derived.Lib.QuietBelow
namespace Go.Proofs.YtpnhhhhmonbajaaGreat
open Go.RowKit

/-- The eight bytes of a number in two's complement, the highest first. -/
def wb8 (n : Int) : List Int := [n / 72057594037927936 % 256, n / 281474976710656 % 256, n / 1099511627776 % 256, n / 4294967296 % 256, n / 16777216 % 256, n / 65536 % 256, n / 256 % 256, n % 256]
/-- How many of them are told. -/
def wsz (n : Int) : Nat := if -128 ≤ n ∧ n < 128 then 1 else if -32768 ≤ n ∧ n < 32768 then 2 else if -8388608 ≤ n ∧ n < 8388608 then 3 else if -2147483648 ≤ n ∧ n < 2147483648 then 4 else if -549755813888 ≤ n ∧ n < 549755813888 then 5 else if -140737488355328 ≤ n ∧ n < 140737488355328 then 6 else if -36028797018963968 ≤ n ∧ n < 36028797018963968 then 7 else 8
def wbL (n : Int) : List Int := (wb8 n).drop (8 - wsz n)
theorem wsz_bd (n : Int) : 1 ≤ wsz n ∧ wsz n ≤ 8 := by
  unfold wsz
  repeat' split
  all_goals omega
theorem wb8_len (n : Int) : (wb8 n).length = 8 := rfl
theorem wbL_len (n : Int) : (wbL n).length = wsz n := by have := wsz_bd n; unfold wbL; rw [List.length_drop, wb8_len]; omega
theorem wb8_byte (n : Int) : ∀ k, 0 ≤ (wb8 n).getD k 0 ∧ (wb8 n).getD k 0 ≤ 255 := by
  intro k
  match k with
  | 0 | 1 | 2 | 3 | 4 | 5 | 6 | 7 => simp [wb8]; omega
  | k + 8 => simp [wb8]
theorem wb_drop (n : Int) (k : Nat) : ∀ j, 0 ≤ ((wb8 n).drop k).getD j 0 ∧ ((wb8 n).drop k).getD j 0 ≤ 255 := by
  intro j
  have e : ((wb8 n).drop k).getD j 0 = (wb8 n).getD (k + j) 0 := by simp [List.getD_eq_getElem?_getD, List.getElem?_drop]
  rw [e]
  exact wb8_byte n _
theorem wbL_byte (n : Int) : ∀ k, 0 ≤ (wbL n).getD k 0 ∧ (wbL n).getD k 0 ≤ 255 := wb_drop n _
theorem eight_wb (n : Int) (m : Nat) (h : n % 18446744073709551616 = (m : Int)) : eight m = wb8 n := by
  unfold eight wb8
  rw [← h]
  simp only [List.cons.injEq, and_true]
  refine ⟨by omega, by omega, by omega, by omega, by omega, by omega, by omega, by omega⟩
def sg8 (x : Int) : Int := if x < 128 then x else x - 256
theorem sg8_wrap (x : Int) (h : 0 ≤ x ∧ x ≤ 255) : IntKind.i8.wrap x = sg8 x := by
  unfold sg8
  simp only [IntKind.wrap, IntKind.bits, IntKind.signed]
  simp
  split <;> split <;> omega
theorem sg8_bd (x : Int) (h : 0 ≤ x ∧ x ≤ 255) : -128 ≤ sg8 x ∧ sg8 x ≤ 127 := by unfold sg8; split <;> omega
theorem wsz_le1 (n : Int) : wsz n ≤ 1 ↔ -128 ≤ n ∧ n < 128 := by
  unfold wsz
  repeat' split
  all_goals omega
theorem wsz_le2 (n : Int) : wsz n ≤ 2 ↔ -32768 ≤ n ∧ n < 32768 := by
  unfold wsz
  repeat' split
  all_goals omega
theorem wsz_le3 (n : Int) : wsz n ≤ 3 ↔ -8388608 ≤ n ∧ n < 8388608 := by
  unfold wsz
  repeat' split
  all_goals omega
theorem wsz_le4 (n : Int) : wsz n ≤ 4 ↔ -2147483648 ≤ n ∧ n < 2147483648 := by
  unfold wsz
  repeat' split
  all_goals omega
theorem wsz_le5 (n : Int) : wsz n ≤ 5 ↔ -549755813888 ≤ n ∧ n < 549755813888 := by
  unfold wsz
  repeat' split
  all_goals omega
theorem wsz_le6 (n : Int) : wsz n ≤ 6 ↔ -140737488355328 ≤ n ∧ n < 140737488355328 := by
  unfold wsz
  repeat' split
  all_goals omega
theorem wsz_le7 (n : Int) : wsz n ≤ 7 ↔ -36028797018963968 ≤ n ∧ n < 36028797018963968 := by
  unfold wsz
  repeat' split
  all_goals omega
theorem wsz_step0 (n : Int) (h0 : -9223372036854775808 ≤ n) (h1 : n ≤ 9223372036854775807) : (sg8 (n / 281474976710656 % 256) / 256 = sg8 (n / 72057594037927936 % 256)) ↔ wsz n ≤ 7 := by
  rw [wsz_le7]
  unfold sg8
  split <;> split <;> omega
theorem wsz_step1 (n : Int) (h : wsz n ≤ 7) : (sg8 (n / 1099511627776 % 256) / 256 = sg8 (n / 281474976710656 % 256)) ↔ wsz n ≤ 6 := by
  rw [wsz_le6]
  rw [wsz_le7] at h
  unfold sg8
  split <;> split <;> omega
theorem wsz_step2 (n : Int) (h : wsz n ≤ 6) : (sg8 (n / 4294967296 % 256) / 256 = sg8 (n / 1099511627776 % 256)) ↔ wsz n ≤ 5 := by
  rw [wsz_le5]
  rw [wsz_le6] at h
  unfold sg8
  split <;> split <;> omega
theorem wsz_step3 (n : Int) (h : wsz n ≤ 5) : (sg8 (n / 16777216 % 256) / 256 = sg8 (n / 4294967296 % 256)) ↔ wsz n ≤ 4 := by
  rw [wsz_le4]
  rw [wsz_le5] at h
  unfold sg8
  split <;> split <;> omega
theorem wsz_step4 (n : Int) (h : wsz n ≤ 4) : (sg8 (n / 65536 % 256) / 256 = sg8 (n / 16777216 % 256)) ↔ wsz n ≤ 3 := by
  rw [wsz_le3]
  rw [wsz_le4] at h
  unfold sg8
  split <;> split <;> omega
theorem wsz_step5 (n : Int) (h : wsz n ≤ 3) : (sg8 (n / 256 % 256) / 256 = sg8 (n / 65536 % 256)) ↔ wsz n ≤ 2 := by
  rw [wsz_le2]
  rw [wsz_le3] at h
  unfold sg8
  split <;> split <;> omega
theorem wsz_step6 (n : Int) (h : wsz n ≤ 2) : (sg8 (n % 256) / 256 = sg8 (n / 256 % 256)) ↔ wsz n ≤ 1 := by
  rw [wsz_le1]
  rw [wsz_le2] at h
  unfold sg8
  split <;> split <;> omega
theorem row_wb {w : World} {g t : Nat} (n : Int) (k : Nat) (hk : k ≤ 7) (h : w.heap[g]? = some (.cells ((wb8 n).map (Value.int .u8)).toArray t (0, 0))) : Row w (some ⟨g, k, none⟩) (8 - k) ((wb8 n).drop k) := by
  refine ⟨by rw [List.length_drop, wb8_len], fun j hj => ⟨g, k, rfl, (Array.getElem?_eq_some_iff.1 h).1, ?_⟩, wb_drop n k⟩
  rw [cell_of_row _ g (k + j) _ t (0, 0) h]
  have e : ((wb8 n).drop k).getD j 0 = (wb8 n)[k + j]'(by rw [wb8_len]; omega) := by
    rw [List.getD_eq_getElem?_getD, List.getElem?_drop, List.getElem?_eq_getElem (by rw [wb8_len]; omega)]
    rfl
  rw [e]
  simp only [List.getElem?_toArray, List.getElem?_map, List.getElem?_eq_getElem (show k + j < (wb8 n).length by rw [wb8_len]; omega), Option.map_some]

set_option maxRecDepth 10000 in
set_option maxHeartbeats 2000000 in
theorem wholeBytes_any (n : Int) (w : World) (h0 : -9223372036854775808 ≤ n) (h1 : n ≤ 9223372036854775807) :
    Calls Tryz.prog 88 #[.int .i64 n] w fun e w' => ∃ g k, e = .returned (.slice (some ⟨g, k, none⟩) (wsz n) (wsz n)) ∧ w.heap.size ≤ g ∧ Row w' (some ⟨g, k, none⟩) (wsz n) (wbL n) ∧ Below w.heap.size w w' := by
  obtain ⟨m, hm⟩ : ∃ m : Nat, n % 18446744073709551616 = (m : Int) := Int.eq_ofNat_of_zero_le (by omega)
  have hu : IntKind.u64.wrap n = (m : Int) := by rw [IntKind.wrap_u64]; exact hm
  have HE : Hid (eight m = wb8 n) := eight_wb n m hm
  have hm2 : (m : Int) ≤ 18446744073709551615 := by omega
  clear hm
  go_enter Tryz.func88, Tryz.ntmps88
  go_wp2_with fail
  refine (eight_any m _ hm2).mono ?_
  rintro e w1 ⟨x0, x1, x2, x3, x4, x5, x6, x7, rfl, hx, hb1⟩
  rw [HE.out] at hx
  have HBK : Hid ((w1.alloc (.cells #[.int .u8 x0, .int .u8 x1, .int .u8 x2, .int .u8 x3, .int .u8 x4, .int .u8 x5, .int .u8 x6, .int .u8 x7] 135)).heap[w1.heap.size]? = some (.cells #[.int .u8 x0, .int .u8 x1, .int .u8 x2, .int .u8 x3, .int .u8 x4, .int .u8 x5, .int .u8 x6, .int .u8 x7] 135 (0, 0))) := heap_alloc_new w1 _
  have HB1 : Hid (Below w.heap.size w (w1.alloc (.cells #[.int .u8 x0, .int .u8 x1, .int .u8 x2, .int .u8 x3, .int .u8 x4, .int .u8 x5, .int .u8 x6, .int .u8 x7] 135))) := hb1.alloc hb1.size _
  have HS1 : Hid (w.heap.size ≤ w1.heap.size) := hb1.size
  have hx2 := hx
  unfold wb8 at hx2
  simp only [List.cons.injEq, and_true] at hx2
  obtain ⟨e0, e1, e2, e3, e4, e5, e6, e7⟩ := hx2
  have HX : Hid (wb8 n = [x0, x1, x2, x3, x4, x5, x6, x7]) := hx.symm
  have HC0 : Hid ((sg8 x1 / 256 = sg8 x0) ↔ wsz n ≤ 7) := by rw [e0, e1]; exact wsz_step0 n h0 h1
  have HC1 : Hid (wsz n ≤ 7 → ((sg8 x2 / 256 = sg8 x1) ↔ wsz n ≤ 6)) := by rw [e1, e2]; exact wsz_step1 n
  have HC2 : Hid (wsz n ≤ 6 → ((sg8 x3 / 256 = sg8 x2) ↔ wsz n ≤ 5)) := by rw [e2, e3]; exact wsz_step2 n
  have HC3 : Hid (wsz n ≤ 5 → ((sg8 x4 / 256 = sg8 x3) ↔ wsz n ≤ 4)) := by rw [e3, e4]; exact wsz_step3 n
  have HC4 : Hid (wsz n ≤ 4 → ((sg8 x5 / 256 = sg8 x4) ↔ wsz n ≤ 3)) := by rw [e4, e5]; exact wsz_step4 n
  have HC5 : Hid (wsz n ≤ 3 → ((sg8 x6 / 256 = sg8 x5) ↔ wsz n ≤ 2)) := by rw [e5, e6]; exact wsz_step5 n
  have HC6 : Hid (wsz n ≤ 2 → ((sg8 x7 / 256 = sg8 x6) ↔ wsz n ≤ 1)) := by rw [e6, e7]; exact wsz_step6 n
  have hsz := wsz_bd n
  have y0 : 0 ≤ x0 ∧ x0 ≤ 255 := by omega
  obtain ⟨s0, hs0⟩ : ∃ s, s = sg8 x0 := ⟨_, rfl⟩
  have b0 := sg8_bd x0 y0
  have v0 := sg8_wrap x0 y0
  rw [← hs0] at b0 v0
  have y1 : 0 ≤ x1 ∧ x1 ≤ 255 := by omega
  obtain ⟨s1, hs1⟩ : ∃ s, s = sg8 x1 := ⟨_, rfl⟩
  have b1 := sg8_bd x1 y1
  have v1 := sg8_wrap x1 y1
  rw [← hs1] at b1 v1
  have y2 : 0 ≤ x2 ∧ x2 ≤ 255 := by omega
  obtain ⟨s2, hs2⟩ : ∃ s, s = sg8 x2 := ⟨_, rfl⟩
  have b2 := sg8_bd x2 y2
  have v2 := sg8_wrap x2 y2
  rw [← hs2] at b2 v2
  have y3 : 0 ≤ x3 ∧ x3 ≤ 255 := by omega
  obtain ⟨s3, hs3⟩ : ∃ s, s = sg8 x3 := ⟨_, rfl⟩
  have b3 := sg8_bd x3 y3
  have v3 := sg8_wrap x3 y3
  rw [← hs3] at b3 v3
  have y4 : 0 ≤ x4 ∧ x4 ≤ 255 := by omega
  obtain ⟨s4, hs4⟩ : ∃ s, s = sg8 x4 := ⟨_, rfl⟩
  have b4 := sg8_bd x4 y4
  have v4 := sg8_wrap x4 y4
  rw [← hs4] at b4 v4
  have y5 : 0 ≤ x5 ∧ x5 ≤ 255 := by omega
  obtain ⟨s5, hs5⟩ : ∃ s, s = sg8 x5 := ⟨_, rfl⟩
  have b5 := sg8_bd x5 y5
  have v5 := sg8_wrap x5 y5
  rw [← hs5] at b5 v5
  have y6 : 0 ≤ x6 ∧ x6 ≤ 255 := by omega
  obtain ⟨s6, hs6⟩ : ∃ s, s = sg8 x6 := ⟨_, rfl⟩
  have b6 := sg8_bd x6 y6
  have v6 := sg8_wrap x6 y6
  rw [← hs6] at b6 v6
  have y7 : 0 ≤ x7 ∧ x7 ≤ 255 := by omega
  obtain ⟨s7, hs7⟩ : ∃ s, s = sg8 x7 := ⟨_, rfl⟩
  have b7 := sg8_bd x7 y7
  have v7 := sg8_wrap x7 y7
  rw [← hs7] at b7 v7
  rw [← hs0, ← hs1] at HC0
  rw [← hs1, ← hs2] at HC1
  rw [← hs2, ← hs3] at HC2
  rw [← hs3, ← hs4] at HC3
  rw [← hs4, ← hs5] at HC4
  rw [← hs5, ← hs6] at HC5
  rw [← hs6, ← hs7] at HC6
  clear hx hb1 e0 e1 e2 e3 e4 e5 e6 e7 hs0 hs1 hs2 hs3 hs4 hs5 hs6 hs7
  obtain ⟨w2, hw2⟩ : ∃ w2, w2 = w1.alloc (.cells #[.int .u8 x0, .int .u8 x1, .int .u8 x2, .int .u8 x3, .int .u8 x4, .int .u8 x5, .int .u8 x6, .int .u8 x7] 135) := ⟨_, rfl⟩
  rw [← hw2] at HBK HB1
  have HW : Hid (_ = _) := hw2
  clear hw2
  go_wp2
  rw [← HW.out]
  clear HW
  go_loopw [4] (fun s wr => ∃ k : Nat, k ≤ 7 ∧ s = .int .i64 k ∧ Hid (wsz n ≤ 8 - k) ∧ Hid (wr.heap[w1.heap.size]? = some (.cells #[.int .u8 x0, .int .u8 x1, .int .u8 x2, .int .u8 x3, .int .u8 x4, .int .u8 x5, .int .u8 x6, .int .u8 x7] 135 (0, 0))) ∧ Hid (Below w.heap.size w wr)) (fun s _ => 7 - (intOf s).toNat)
  case atStart => exact ⟨0, by decide, rfl, hsz.2, HBK, HB1⟩
  case round =>
    obtain ⟨k, hk, rfl, HS, HK, HB⟩ := hrel
    clear HBK HB1
    have fin : ∀ (W : World) (e : Ending) (j : Nat), j ≤ 7 → Hid (wsz n = 8 - j) → W.heap[w1.heap.size]? = some (.cells #[.int .u8 x0, .int .u8 x1, .int .u8 x2, .int .u8 x3, .int .u8 x4, .int .u8 x5, .int .u8 x6, .int .u8 x7] 135 (0, 0)) → Below w.heap.size w W → e = .returned (.slice (some ⟨w1.heap.size, j, none⟩) (8 - j) (8 - j)) → ∃ g k, e = .returned (.slice (some ⟨g, k, none⟩) (wsz n) (wsz n)) ∧ w.heap.size ≤ g ∧ Row W (some ⟨g, k, none⟩) (wsz n) (wbL n) ∧ Below w.heap.size w W := by
      intro W e j hj hq hh hbb he
      refine ⟨w1.heap.size, j, by rw [hq.out]; exact he, HS1.out, ?_, hbb⟩
      unfold wbL
      rw [hq.out, show 8 - (8 - j) = j by omega]
      refine row_wb (t := 135) n j hj ?_
      rw [HX.out]
      exact hh
    have FIN : Hid (_) := fin
    clear fin
    have d0 : wr.cell? ⟨w1.heap.size, 0, none⟩ = some (.int .u8 x0) := (cell_of_row _ _ 0 _ 135 (0, 0) HK.out).trans rfl
    have d1 : wr.cell? ⟨w1.heap.size, 1, none⟩ = some (.int .u8 x1) := (cell_of_row _ _ 1 _ 135 (0, 0) HK.out).trans rfl
    have d2 : wr.cell? ⟨w1.heap.size, 2, none⟩ = some (.int .u8 x2) := (cell_of_row _ _ 2 _ 135 (0, 0) HK.out).trans rfl
    have d3 : wr.cell? ⟨w1.heap.size, 3, none⟩ = some (.int .u8 x3) := (cell_of_row _ _ 3 _ 135 (0, 0) HK.out).trans rfl
    have d4 : wr.cell? ⟨w1.heap.size, 4, none⟩ = some (.int .u8 x4) := (cell_of_row _ _ 4 _ 135 (0, 0) HK.out).trans rfl
    have d5 : wr.cell? ⟨w1.heap.size, 5, none⟩ = some (.int .u8 x5) := (cell_of_row _ _ 5 _ 135 (0, 0) HK.out).trans rfl
    have d6 : wr.cell? ⟨w1.heap.size, 6, none⟩ = some (.int .u8 x6) := (cell_of_row _ _ 6 _ 135 (0, 0) HK.out).trans rfl
    have d7 : wr.cell? ⟨w1.heap.size, 7, none⟩ = some (.int .u8 x7) := (cell_of_row _ _ 7 _ 135 (0, 0) HK.out).trans rfl
    rcases (show k = 0 ∨ k = 1 ∨ k = 2 ∨ k = 3 ∨ k = 4 ∨ k = 5 ∨ k = 6 ∨ k = 7 by omega) with rfl | rfl | rfl | rfl | rfl | rfl | rfl | rfl
    · by_cases c : s1 / 256 = s0
      · have cb : (s1 / 256 == s0) = true := by simp [c]
        have HN : Hid (wsz n ≤ 7) := HC0.out.1 c
        clear c
        go_wp2_with fail
        go_quiet (fail)
        go_wp2
        go_roundw
        case rel => exact ⟨1, by decide, rfl, HN, HK, below_drewN HB.out _⟩
        case measure => simp [intOf]
      · have cb : (s1 / 256 == s0) = false := by simp [c]
        have HN : Hid (wsz n = 8) := by show _ = _; have h : ¬ wsz n ≤ 7 := fun e => c (HC0.out.2 e); have h2 := HS.out; omega
        clear c
        go_wp2_with fail
        go_quiet (fail)
        go_wp2
        go_ret
        exact FIN.out _ _ 0 (by decide) HN HK.out (below_drewN HB.out _) rfl
    · by_cases c : s2 / 256 = s1
      · have cb : (s2 / 256 == s1) = true := by simp [c]
        have HN : Hid (wsz n ≤ 6) := (HC1.out HS.out).1 c
        clear c
        go_wp2_with fail
        go_quiet (fail)
        go_wp2
        go_roundw
        case rel => exact ⟨2, by decide, rfl, HN, HK, below_drewN HB.out _⟩
        case measure => simp [intOf]
      · have cb : (s2 / 256 == s1) = false := by simp [c]
        have HN : Hid (wsz n = 7) := by show _ = _; have h : ¬ wsz n ≤ 6 := fun e => c ((HC1.out HS.out).2 e); have h2 := HS.out; omega
        clear c
        go_wp2_with fail
        go_quiet (fail)
        go_wp2
        go_ret
        exact FIN.out _ _ 1 (by decide) HN HK.out (below_drewN HB.out _) rfl
    · by_cases c : s3 / 256 = s2
      · have cb : (s3 / 256 == s2) = true := by simp [c]
        have HN : Hid (wsz n ≤ 5) := (HC2.out HS.out).1 c
        clear c
        go_wp2_with fail
        go_quiet (fail)
        go_wp2
        go_roundw
        case rel => exact ⟨3, by decide, rfl, HN, HK, below_drewN HB.out _⟩
        case measure => simp [intOf]
      · have cb : (s3 / 256 == s2) = false := by simp [c]
        have HN : Hid (wsz n = 6) := by show _ = _; have h : ¬ wsz n ≤ 5 := fun e => c ((HC2.out HS.out).2 e); have h2 := HS.out; omega
        clear c
        go_wp2_with fail
        go_quiet (fail)
        go_wp2
        go_ret
        exact FIN.out _ _ 2 (by decide) HN HK.out (below_drewN HB.out _) rfl
    · by_cases c : s4 / 256 = s3
      · have cb : (s4 / 256 == s3) = true := by simp [c]
        have HN : Hid (wsz n ≤ 4) := (HC3.out HS.out).1 c
        clear c
        go_wp2_with fail
        go_quiet (fail)
        go_wp2
        go_roundw
        case rel => exact ⟨4, by decide, rfl, HN, HK, below_drewN HB.out _⟩
        case measure => simp [intOf]
      · have cb : (s4 / 256 == s3) = false := by simp [c]
        have HN : Hid (wsz n = 5) := by show _ = _; have h : ¬ wsz n ≤ 4 := fun e => c ((HC3.out HS.out).2 e); have h2 := HS.out; omega
        clear c
        go_wp2_with fail
        go_quiet (fail)
        go_wp2
        go_ret
        exact FIN.out _ _ 3 (by decide) HN HK.out (below_drewN HB.out _) rfl
    · by_cases c : s5 / 256 = s4
      · have cb : (s5 / 256 == s4) = true := by simp [c]
        have HN : Hid (wsz n ≤ 3) := (HC4.out HS.out).1 c
        clear c
        go_wp2_with fail
        go_quiet (fail)
        go_wp2
        go_roundw
        case rel => exact ⟨5, by decide, rfl, HN, HK, below_drewN HB.out _⟩
        case measure => simp [intOf]
      · have cb : (s5 / 256 == s4) = false := by simp [c]
        have HN : Hid (wsz n = 4) := by show _ = _; have h : ¬ wsz n ≤ 3 := fun e => c ((HC4.out HS.out).2 e); have h2 := HS.out; omega
        clear c
        go_wp2_with fail
        go_quiet (fail)
        go_wp2
        go_ret
        exact FIN.out _ _ 4 (by decide) HN HK.out (below_drewN HB.out _) rfl
    · by_cases c : s6 / 256 = s5
      · have cb : (s6 / 256 == s5) = true := by simp [c]
        have HN : Hid (wsz n ≤ 2) := (HC5.out HS.out).1 c
        clear c
        go_wp2_with fail
        go_quiet (fail)
        go_wp2
        go_roundw
        case rel => exact ⟨6, by decide, rfl, HN, HK, below_drewN HB.out _⟩
        case measure => simp [intOf]
      · have cb : (s6 / 256 == s5) = false := by simp [c]
        have HN : Hid (wsz n = 3) := by show _ = _; have h : ¬ wsz n ≤ 2 := fun e => c ((HC5.out HS.out).2 e); have h2 := HS.out; omega
        clear c
        go_wp2_with fail
        go_quiet (fail)
        go_wp2
        go_ret
        exact FIN.out _ _ 5 (by decide) HN HK.out (below_drewN HB.out _) rfl
    · by_cases c : s7 / 256 = s6
      · have cb : (s7 / 256 == s6) = true := by simp [c]
        have HN : Hid (wsz n ≤ 1) := (HC6.out HS.out).1 c
        clear c
        go_wp2_with fail
        go_quiet (fail)
        go_wp2
        go_roundw
        case rel => exact ⟨7, by decide, rfl, HN, HK, below_drewN HB.out _⟩
        case measure => simp [intOf]
      · have cb : (s7 / 256 == s6) = false := by simp [c]
        have HN : Hid (wsz n = 2) := by show _ = _; have h : ¬ wsz n ≤ 1 := fun e => c ((HC6.out HS.out).2 e); have h2 := HS.out; omega
        clear c
        go_wp2_with fail
        go_quiet (fail)
        go_wp2
        go_ret
        exact FIN.out _ _ 6 (by decide) HN HK.out (below_drewN HB.out _) rfl
    · have HN : Hid (wsz n = 1) := by show _ = _; have h2 := HS.out; omega
      go_wp2_with fail
      go_quiet (fail)
      go_wp2
      go_ret
      exact FIN.out _ _ 7 (by decide) HN HK.out (below_drewN HB.out _) rfl

end Go.Proofs.YtpnhhhhmonbajaaGreat

namespace Go.Proofs.YtpnhhhhmonbajaaGreat
open Go.RowKit

theorem wsz_at (n : Int) (k : Nat) (h0 : 1 ≤ k) (h1 : k < 8) : ∃ H : Int, wrap64 (2 ^ (8 * k - 1)) = H ∧ wrap64 (-2 ^ (8 * k - 1)) = -H ∧ (wsz n ≤ k ↔ -H ≤ n ∧ n < H) := by
  rcases (show k = 1 ∨ k = 2 ∨ k = 3 ∨ k = 4 ∨ k = 5 ∨ k = 6 ∨ k = 7 by omega) with rfl | rfl | rfl | rfl | rfl | rfl | rfl
  · exact ⟨128, by decide +kernel, by decide +kernel, wsz_le1 n⟩
  · exact ⟨32768, by decide +kernel, by decide +kernel, wsz_le2 n⟩
  · exact ⟨8388608, by decide +kernel, by decide +kernel, wsz_le3 n⟩
  · exact ⟨2147483648, by decide +kernel, by decide +kernel, wsz_le4 n⟩
  · exact ⟨549755813888, by decide +kernel, by decide +kernel, wsz_le5 n⟩
  · exact ⟨140737488355328, by decide +kernel, by decide +kernel, wsz_le6 n⟩
  · exact ⟨36028797018963968, by decide +kernel, by decide +kernel, wsz_le7 n⟩
theorem wb_at (n : Int) (q : Nat) (h : q ≤ 7) : n / 2 ^ (8 * q) % 256 = (wb8 n).getD (7 - q) 0 := by
  match q, h with
  | 0, _ => simp [wb8]
  | 1, _ => simp [wb8]
  | 2, _ => simp [wb8]
  | 3, _ => simp [wb8]
  | 4, _ => simp [wb8]
  | 5, _ => simp [wb8]
  | 6, _ => simp [wb8]
  | 7, _ => simp [wb8]
/-- What is written of a number of k bytes when q are left. -/
def wbP (n : Int) (k q : Nat) : List Int := ((wb8 n).drop (8 - k)).take (k - q)
theorem wbP_next (n : Int) (k q : Nat) (hk : k ≤ 8) (hq : q < k) : wbP n k (q + 1) ++ [(wb8 n).getD (7 - q) 0] = wbP n k q := by
  unfold wbP
  have hl : k - (q + 1) < ((wb8 n).drop (8 - k)).length := by rw [List.length_drop, wb8_len]; omega
  rw [show k - q = k - (q + 1) + 1 by omega, take_snoc _ _ hl]
  congr 2
  rw [List.getD_eq_getElem?_getD, List.getD_eq_getElem?_getD, List.getElem?_drop, show 8 - k + (k - (q + 1)) = 7 - q by omega]
theorem wbP_byte (n : Int) (k q : Nat) : ∀ j, 0 ≤ (wbP n k q).getD j 0 ∧ (wbP n k q).getD j 0 ≤ 255 := take_bytes (wb_drop n _) _

set_option maxRecDepth 10000 in
set_option maxHeartbeats 2000000 in
theorem l3Number_any (n : Int) (w : World) :
    Calls Tryz.prog 81 #[.int .i64 n] w fun e w' => ∃ a c, e = .returned (.slice a (wsz n) c) ∧ Own w.heap.size w' a (wsz n) c (wbL n) ∧ Below w.heap.size w w' := by
  obtain ⟨i0, hi, hz0, hz1, hz2⟩ := info_parts Tryz.info5
  have HOE : Hid (_) := own_empty w
  have HBE : Hid (Below w.heap.size w (w.alloc (.cells #[] 5))) := (Below.refl _ _).alloc (Nat.le_refl _) _
  have hsz := wsz_bd n
  go_enter Tryz.func81, Tryz.ntmps81
  go_wp2
  go_loopw [3] (fun s wr => ∃ k : Nat, k ≤ 8 ∧ 1 ≤ k ∧ s = .int .i64 k ∧ Hid (k ≤ wsz n) ∧ w = wr) (fun s _ => 8 - (intOf s).toNat)
  case atStart => exact ⟨1, by decide, by decide, rfl, hsz.1, rfl⟩
  case round =>
    obtain ⟨k, hk, hk1, rfl, HK, rfl⟩ := hrel
    by_cases hgo : k < 8 ∧ ¬ wsz n ≤ k
    · obtain ⟨H, hp, hn, hiff⟩ := wsz_at n k hk1 hgo.1
      have hk8i : (k : Int) < 8 := by omega
      have HN : Hid (k + 1 ≤ wsz n) := by show _ ≤ _; omega
      by_cases hH : H ≤ n
      · clear hiff hgo
        go_wp2
        go_roundw
        case rel => exact ⟨k + 1, by omega, by omega, by go_num, HN, by first | rfl | trivial⟩
        case measure => simp [intOf]; omega
      · have hH2 : n < -H := by
          have h := hgo.2
          rw [hiff] at h
          omega
        clear hiff hgo
        go_wp2
        go_roundw
        case rel => exact ⟨k + 1, by omega, by omega, by go_num, HN, by first | rfl | trivial⟩
        case measure => simp [intOf]; omega
    · have hex : k = wsz n := by have := HK.out; omega
      have HX : Hid (k = wsz n) := hex
      have tail : ∀ (W : World), W = w.alloc (.cells #[] 5) → Own w.heap.size W (some ⟨w.heap.size, 0, none⟩) 0 0 (wbP n k k) ∧ Below w.heap.size w W := by
        intro W hW
        have e : wbP n k k = [] := by unfold wbP; simp
        rw [hW, e]
        exact ⟨HOE.out, HBE.out⟩
      have TAIL : Hid (_) := tail
      clear tail hex
      by_cases hk8 : k < 8
      · obtain ⟨H, hp, hn, hiff⟩ := wsz_at n k hk1 hk8
        have hk8i : (k : Int) < 8 := by omega
        have hH : ¬ H ≤ n := by have := hiff.1 (by omega); omega
        have hH2 : ¬ n < -H := by have := hiff.1 (by omega); omega
        clear hiff hgo
        go_wp2
        go_loopw [4, 5] (fun o i wr => ∃ (a : Option Addr) (q len cap : Nat), q ≤ k ∧ len = k - q ∧ i = .int .i64 ((q : Int) - 1) ∧ o = .slice a len cap ∧ Own w.heap.size wr a len cap (wbP n k q) ∧ Below w.heap.size w wr) (fun _ i _ => ((intOf i) + 1).toNat)
        case atStart => exact ⟨_, k, 0, 0, Nat.le_refl _, by omega, rfl, rfl, (TAIL.out _ rfl).1, (TAIL.out _ rfl).2⟩
        case round =>
          obtain ⟨a, q, len, cap, hq, hle, rfl, rfl, hor, hbr⟩ := hrel
          have HLe : Hid (len = k - q) := hle
          clear hle
          rcases q with _ | q
          · go_wp2
            go_ret
            have hlk : k = len := by have := HLe.out; omega
            subst hlk
            have e : wbP n k 0 = wbL n := by unfold wbP wbL; rw [← HX.out, List.take_of_length_le (by rw [List.length_drop, wb8_len]; omega)]
            rw [e] at hor
            exact ⟨_, _, by rw [← HX.out]; rfl, by rw [← HX.out]; exact hor, hbr⟩
          · have e1 : ((q + 1 : Nat) : Int) - 1 = (q : Int) := by omega
            rw [e1]
            clear e1
            have hl9 : len ≤ 9 := by have := HLe.out; omega
            have hq7 : q ≤ 7 := by omega
            have hws : w.heap.size ≤ wr.heap.size := hbr.size
            have HE : Hid (_ = _) := wb_at n q hq7
            go_wp2_with (at_builtin; go_loud (refine wpList_append_own _ rfl _ _ 22 rfl w.heap.size 5 i0 (.int .u8 0) 1 1 Tryz.underlying22 hi hz0 hz1 hz2 rfl (by decide) _ _ _ rfl (hor.row.alloc _) ⟨wr.heap.size, 0, none⟩ 1 1 [_] rfl rfl (cell_one_new _ _ _) (by intro u hu; simp at hu; subst hu; rfl) (by unfold maxLen; omega) (by omega) (by simp; omega) ?_); intro v' w1 hown' hgrow' _)
            have hb1 : Below w.heap.size w w1 := below_appended (hbr.alloc hws _) (by simp; omega) (hor.row.alloc _) hgrow'
            rw [HE.out] at hown'
            obtain ⟨a', cap', rfl, ho⟩ := own_appended (ys := [(wb8 n).getD (7 - q) 0]) hown' hor.byte (by simpa using snoc_byte (xs := []) (by simp) _ (wb8_byte n (7 - q)))
            rw [wbP_next n k q (by omega) (by omega)] at ho
            go_roundw
            case rel => exact ⟨a', q, len + 1, cap', by omega, by have := HLe.out; omega, rfl, rfl, ho, hb1⟩
            case measure => simp [intOf]
      · have hk8i : ¬ (k : Int) < 8 := by omega
        clear hgo
        go_wp2
        go_loopw [4, 5] (fun o i wr => ∃ (a : Option Addr) (q len cap : Nat), q ≤ k ∧ len = k - q ∧ i = .int .i64 ((q : Int) - 1) ∧ o = .slice a len cap ∧ Own w.heap.size wr a len cap (wbP n k q) ∧ Below w.heap.size w wr) (fun _ i _ => ((intOf i) + 1).toNat)
        case atStart => exact ⟨_, k, 0, 0, Nat.le_refl _, by omega, rfl, rfl, (TAIL.out _ rfl).1, (TAIL.out _ rfl).2⟩
        case round =>
          obtain ⟨a, q, len, cap, hq, hle, rfl, rfl, hor, hbr⟩ := hrel
          have HLe : Hid (len = k - q) := hle
          clear hle
          rcases q with _ | q
          · go_wp2
            go_ret
            have hlk : k = len := by have := HLe.out; omega
            subst hlk
            have e : wbP n k 0 = wbL n := by unfold wbP wbL; rw [← HX.out, List.take_of_length_le (by rw [List.length_drop, wb8_len]; omega)]
            rw [e] at hor
            exact ⟨_, _, by rw [← HX.out]; rfl, by rw [← HX.out]; exact hor, hbr⟩
          · have e1 : ((q + 1 : Nat) : Int) - 1 = (q : Int) := by omega
            rw [e1]
            clear e1
            have hl9 : len ≤ 9 := by have := HLe.out; omega
            have hq7 : q ≤ 7 := by omega
            have hws : w.heap.size ≤ wr.heap.size := hbr.size
            have HE : Hid (_ = _) := wb_at n q hq7
            go_wp2_with (at_builtin; go_loud (refine wpList_append_own _ rfl _ _ 22 rfl w.heap.size 5 i0 (.int .u8 0) 1 1 Tryz.underlying22 hi hz0 hz1 hz2 rfl (by decide) _ _ _ rfl (hor.row.alloc _) ⟨wr.heap.size, 0, none⟩ 1 1 [_] rfl rfl (cell_one_new _ _ _) (by intro u hu; simp at hu; subst hu; rfl) (by unfold maxLen; omega) (by omega) (by simp; omega) ?_); intro v' w1 hown' hgrow' _)
            have hb1 : Below w.heap.size w w1 := below_appended (hbr.alloc hws _) (by simp; omega) (hor.row.alloc _) hgrow'
            rw [HE.out] at hown'
            obtain ⟨a', cap', rfl, ho⟩ := own_appended (ys := [(wb8 n).getD (7 - q) 0]) hown' hor.byte (by simpa using snoc_byte (xs := []) (by simp) _ (wb8_byte n (7 - q)))
            rw [wbP_next n k q (by omega) (by omega)] at ho
            go_roundw
            case rel => exact ⟨a', q, len + 1, cap', by omega, by have := HLe.out; omega, rfl, rfl, ho, hb1⟩
            case measure => simp [intOf]

end Go.Proofs.YtpnhhhhmonbajaaGreat

namespace Go.Proofs.YtpnhhhhmonbajaaGreat
open Go.RowKit

theorem results_it {fn : Func} {t : Tmp} (h : fn.results = #[.cell t 96]) (tmps : Array Value) (g : Nat) (ht : tmps.getD t undef = .pointer (some ⟨g, 0, none⟩)) (w : World) (c0 c1 c2 c3 c4 : Value)
    (hb : w.heap[g]? = some (.cells #[c0, c1, c2, c3, c4] 96 (0, 0))) : (results fn tmps).run Tryz.prog w = .ok (.agg #[c0, c1, c2, c3, c4]) w := by
  have d0 : w.cell? ⟨g, 0, none⟩ = some c0 := (cell_of_row _ g 0 _ 96 (0, 0) hb).trans rfl
  have d1 : w.cell? ⟨g, 1, none⟩ = some c1 := (cell_of_row _ g 1 _ 96 (0, 0) hb).trans rfl
  have d2 : w.cell? ⟨g, 2, none⟩ = some c2 := (cell_of_row _ g 2 _ 96 (0, 0) hb).trans rfl
  have d3 : w.cell? ⟨g, 3, none⟩ = some c3 := (cell_of_row _ g 3 _ 96 (0, 0) hb).trans rfl
  have d4 : w.cell? ⟨g, 4, none⟩ = some c4 := (cell_of_row _ g 4 _ 96 (0, 0) hb).trans rfl
  clear hb
  have ht' : tmps[t]?.getD undef = .pointer (some ⟨g, 0, none⟩) := by rw [← ht]; simp
  simp [results, h, go_sem, ht', d0, d1, d2, d3, d4]
/-- The five cells of the block g are written. -/
def put5 (w : World) (g : Nat) (u0 u1 u2 u3 u4 : Value) : World := ((((w.setCell ⟨g, 0, none⟩ u0).setCell ⟨g, 1, none⟩ u1).setCell ⟨g, 2, none⟩ u2).setCell ⟨g, 3, none⟩ u3).setCell ⟨g, 4, none⟩ u4
theorem put5_heap {w : World} {g t : Nat} {c0 c1 c2 c3 c4 : Value} (h : w.heap[g]? = some (.cells #[c0, c1, c2, c3, c4] t (0, 0))) (u0 u1 u2 u3 u4 : Value) : (put5 w g u0 u1 u2 u3 u4).heap[g]? = some (.cells #[u0, u1, u2, u3, u4] t (0, 0)) :=
  heap_setCell_same _ _ 4 _ t _ (heap_setCell_same _ _ 3 _ t _ (heap_setCell_same _ _ 2 _ t _ (heap_setCell_same _ _ 1 _ t _ (heap_setCell_same _ _ 0 _ t _ h))))
theorem touch_set {p q : Nat} (w : World) (g j : Nat) (u : Value) (h1 : p ≤ g) (h2 : g < q) : Touch p q w (w.setCell ⟨g, j, none⟩ u) :=
  ⟨rfl, rfl, rfl, by simp, fun k _ hk => heap_setCell_other w ⟨g, j, none⟩ k u (by simp; omega)⟩
theorem touch_set1 (w : World) (g j : Nat) (u : Value) : Touch g (g + 1) w (w.setCell ⟨g, j, none⟩ u) := touch_set w g j u (Nat.le_refl _) (Nat.lt_succ_self _)
theorem put5_touch (w : World) (g : Nat) (u0 u1 u2 u3 u4 : Value) : Touch g (g + 1) w (put5 w g u0 u1 u2 u3 u4) :=
  ((((touch_set1 w g 0 u0).trans (touch_set1 _ g 1 u1)).trans (touch_set1 _ g 2 u2)).trans (touch_set1 _ g 3 u3)).trans (touch_set1 _ g 4 u4)
/-- The cells of a box that is new, and that none of them is frozen. -/
structure Box5 (w : World) (g : Nat) : Prop where
  b : w.heap[g]? = some (.cells #[.int .i64 0, .int .i64 0, .bool false, .slice none 0 0, .slice none 0 0] 96 (0, 0))
  c0 : w.cell? ⟨g, 0, none⟩ = some (.int .i64 0)
  c1 : w.cell? ⟨g, 1, none⟩ = some (.int .i64 0)
  c2 : w.cell? ⟨g, 2, none⟩ = some (.bool false)
  c3 : w.cell? ⟨g, 3, none⟩ = some (.slice none 0 0)
  c4 : w.cell? ⟨g, 4, none⟩ = some (.slice none 0 0)
  f0 : w.frozen? ⟨g, 0, none⟩ = false
  f1 : w.frozen? ⟨g, 1, none⟩ = false
  f2 : w.frozen? ⟨g, 2, none⟩ = false
  f3 : w.frozen? ⟨g, 3, none⟩ = false
  f4 : w.frozen? ⟨g, 4, none⟩ = false
theorem Box5.of {w : World} {g : Nat} (h : w.heap[g]? = some (.cells #[.int .i64 0, .int .i64 0, .bool false, .slice none 0 0, .slice none 0 0] 96 (0, 0))) : Box5 w g :=
  ⟨h, (cell_of_row _ g 0 _ 96 (0, 0) h).trans rfl, (cell_of_row _ g 1 _ 96 (0, 0) h).trans rfl, (cell_of_row _ g 2 _ 96 (0, 0) h).trans rfl, (cell_of_row _ g 3 _ 96 (0, 0) h).trans rfl, (cell_of_row _ g 4 _ 96 (0, 0) h).trans rfl,
    frozen_of_row w g 0 _ 96 h, frozen_of_row w g 1 _ 96 h, frozen_of_row w g 2 _ 96 h, frozen_of_row w g 3 _ 96 h, frozen_of_row w g 4 _ 96 h⟩
def box5 (w : World) : World := w.alloc (.cells #[.int .i64 0, .int .i64 0, .bool false, .slice none 0 0, .slice none 0 0] 96)
theorem box5_new (w : World) : (box5 w).heap[w.heap.size]? = some (.cells #[.int .i64 0, .int .i64 0, .bool false, .slice none 0 0, .slice none 0 0] 96 (0, 0)) := heap_alloc_new w _
theorem box5_below (w : World) : Below w.heap.size w (box5 w) := (Below.refl _ _).alloc (Nat.le_refl _) _
theorem box5_size (w : World) : (box5 w).heap.size = w.heap.size + 1 := by unfold box5; simp
/-- A number's item. -/
def numI (n : Int) : It := .mk 0 2 false (wbL n) []
/-- The item of bytes. -/
def bytI (bs : List Int) : It := .mk 0 4 false bs []
/-- An item with parts. -/
def boxI (tag : Int) (ks : List It) : It := .mk 1 tag true [] ks

set_option maxRecDepth 10000 in
set_option maxHeartbeats 1000000 in
theorem ownItem_any (tag : Int) (a : Option Addr) (n c : Nat) (ks : List It) (w : World) :
    Calls Tryz.prog 67 #[.int .i64 tag, .slice a n c] w fun e w' => e = .returned (itv (boxI tag ks) none 0 0 a n c) ∧ Below w.heap.size w w' := by
  go_enter Tryz.func67, Tryz.ntmps67
  go_wp2_with fail
  try simp only [Exit.inBlock, Exit.then]
  exact bodyPost_ret (results_it rfl _ w.heap.size rfl _ _ _ _ _ _ (heap_alloc_new w _)) rfl ⟨rfl, (Below.refl _ _).alloc (Nat.le_refl _) _⟩

set_option maxRecDepth 10000 in
set_option maxHeartbeats 1000000 in
theorem l2Box_any (tag : Int) (a : Option Addr) (n c : Nat) (ks : List It) (w : World) :
    Calls Tryz.prog 54 #[.int .i64 1, .int .i64 tag, .slice a n c] w fun e w' => e = .returned (itv (boxI tag ks) none 0 0 a n c) ∧ Below w.heap.size w w' := by
  go_enter Tryz.func54, Tryz.ntmps54
  go_wp2_with fail
  try simp only [Exit.inBlock, Exit.then]
  exact bodyPost_ret (results_it rfl _ w.heap.size rfl _ _ _ _ _ _ (heap_alloc_new w _)) rfl ⟨rfl, (Below.refl _ _).alloc (Nat.le_refl _) _⟩

set_option maxRecDepth 10000 in
set_option maxHeartbeats 1000000 in
theorem bytesItem_any (a : Option Addr) (n c : Nat) (bs : List Int) (w : World) :
    Calls Tryz.prog 68 #[.slice a n c] w fun e w' => e = .returned (itv (bytI bs) a n c none 0 0) ∧ Below w.heap.size w w' := by
  go_enter Tryz.func68, Tryz.ntmps68
  go_wp2_with fail
  try simp only [Exit.inBlock, Exit.then]
  exact bodyPost_ret (results_it rfl _ w.heap.size rfl _ _ _ _ _ _ (heap_alloc_new w _)) rfl ⟨rfl, (Below.refl _ _).alloc (Nat.le_refl _) _⟩

theorem in_at {g k n lo hi : Nat} (h1 : lo ≤ g) (h2 : g < hi) : In (some ⟨g, k, none⟩) n lo hi := by
  intro b off ha _
  simp at ha
  omega
theorem Row.blk {w : World} {g k n : Nat} {bs : List Int} (h : Row w (some ⟨g, k, none⟩) n bs) (hn : 0 < n) : g < w.heap.size := by
  obtain ⟨b, off, ha, hb, _⟩ := h.get 0 hn
  simp at ha
  omega

set_option maxRecDepth 10000 in
set_option maxHeartbeats 1000000 in
theorem numberItem_any (n : Int) (w : World) (h0 : -9223372036854775808 ≤ n) (h1 : n ≤ 9223372036854775807) :
    Calls Tryz.prog 69 #[.int .i64 n] w fun e w' => ∃ g k, e = .returned (itv (numI n) (some ⟨g, k, none⟩) (wsz n) (wsz n) none 0 0) ∧ w.heap.size ≤ g ∧ Row w' (some ⟨g, k, none⟩) (wsz n) (wbL n) ∧ Below w.heap.size w w' := by
  have hsz := wsz_bd n
  go_enter Tryz.func69, Tryz.ntmps69
  go_wp2_with fail
  have hbx := box5_below w
  have hnx := box5_new w
  have hsx := box5_size w
  obtain ⟨wb, hwb⟩ : ∃ wb, wb = box5 w := ⟨_, rfl⟩
  rw [← hwb] at hbx hnx hsx
  unfold box5 at hwb
  rw [← hwb]
  clear hwb
  refine (wholeBytes_any n _ h0 h1).mono ?_
  rintro e w1 ⟨g, k, rfl, hg, hr, hb1⟩
  have hn1 := (hb1.block _ (by omega)).trans hnx
  have B1 : Below w.heap.size w w1 := hbx.trans (hb1.mono hbx.size)
  obtain ⟨_, x0, x1, x2, x3, x4, y0, y1, y2, y3, y4⟩ := Box5.of hn1
  have HR : Hid (Row w1 (some ⟨g, k, none⟩) (wsz n) (wbL n)) := hr
  have HN : Hid (_) := hn1
  have HB : Hid (Below w.heap.size w w1) := B1
  have hgl := hr.blk (by omega)
  have hs1 := hb1.size
  clear hr hn1 B1 hb1 hnx hbx
  go_wp2_with fail
  try simp only [Exit.inBlock, Exit.then]
  refine bodyPost_ret (results_it rfl _ w.heap.size rfl _ _ _ _ _ _ (put5_heap HN.out _ _ _ _ _)) rfl ⟨g, k, rfl, by omega, ?_, ?_⟩
  · exact HR.out.touch (in_at (lo := g) (hi := g + 1) (Nat.le_refl _) (by omega)) (.inr (by omega)) (put5_touch w1 w.heap.size _ _ _ _ _)
  · exact HB.out.trans ((put5_touch w1 w.heap.size _ _ _ _ _).below (Nat.le_refl _) (by omega))

set_option maxRecDepth 10000 in
set_option maxHeartbeats 1000000 in
theorem digestBytes_in (v : Int) (w : World) (h0 : 0 ≤ v) (h1 : v ≤ 18446744073709551615) :
    Calls Tryz.prog 86 #[.int .u64 v] w fun e w' => ∃ g, e = .returned (.slice (some ⟨g, 0, none⟩) 8 8) ∧ w.heap.size ≤ g ∧ Row w' (some ⟨g, 0, none⟩) 8 (eightI v) ∧ Below w.heap.size w w' := by
  obtain ⟨n, rfl⟩ := Int.eq_ofNat_of_zero_le h0
  go_enter Tryz.func86, Tryz.ntmps86
  go_wp2_with fail
  refine (eight_any n _ h1).mono ?_
  rintro e w1 ⟨x0, x1, x2, x3, x4, x5, x6, x7, rfl, hx, hb1⟩
  have HX : Hid (_ = _) := hx
  have HB1 : Hid (_) := hb1
  clear hx hb1
  go_wp2
  go_ret
  refine ⟨w1.heap.size, rfl, HB1.out.size, ⟨eightI_len _, fun k hk => ⟨w1.heap.size, 0, rfl, by simp, ?_⟩, eightI_byte _⟩, HB1.out.alloc HB1.out.size _⟩
  rw [Nat.zero_add, cell_of_row _ w1.heap.size k _ 135 _ (heap_alloc_new w1 _)]
  have e : eightI (n : Int) = [x0, x1, x2, x3, x4, x5, x6, x7] := by rw [HX.out]; rfl
  rw [e]
  match k, hk with
  | 0, _ | 1, _ | 2, _ | 3, _ | 4, _ | 5, _ | 6, _ | 7, _ => rfl

theorem Own.touch5 {B lo hi : Nat} {w w' : World} {a : Option Addr} {n cap : Nat} {bs : List Int} (h : Own B w a n cap bs) (ht : Touch lo hi w w') (hd : hi ≤ B) : Own B w' a n cap bs := by
  refine ⟨⟨h.row.1, ?_⟩, h.byte⟩
  rcases h.row.2 with hn' | ⟨g, cap', cur, hv, hbb, hgg, rest⟩
  · exact .inl hn'
  · exact .inr ⟨g, cap', cur, hv, hbb, (ht.block g (Array.getElem?_eq_some_iff.1 hgg).1 (by omega)).trans hgg, rest⟩

set_option maxRecDepth 10000 in
set_option maxHeartbeats 1000000 in
theorem l2Leaf_any (tag : Int) (a : Option Addr) (n c : Nat) (bs : List Int) (w : World) (h : Row w a n bs) (hc : a = none → c = 0) (hn : n ≤ 1000) :
    Calls Tryz.prog 80 #[.int .i64 0, .int .i64 tag, .slice a n c] w fun e w' => ∃ a' c', e = .returned (itv (.mk 0 tag false bs []) a' n c' none 0 0) ∧ Own (w.heap.size + 1) w' a' n c' bs ∧ Below w.heap.size w w' := by
  obtain ⟨i0, hi, hz0, hz1, hz2⟩ := info_parts Tryz.info5
  have hbx := box5_below w
  have hnx := box5_new w
  have hsx := box5_size w
  have hal : Below (box5 w).heap.size (box5 w) ((box5 w).alloc (.cells #[] 5)) := (Below.refl _ _).alloc (Nat.le_refl _) _
  have hor0 : Own (w.heap.size + 1) ((box5 w).alloc (.cells #[] 5)) (some ⟨w.heap.size + 1, 0, none⟩) 0 0 [] := own_zero _ _ _ (by rw [hsx]) (by rw [hsx]; exact Nat.le_refl _)
  have hB1 : Below w.heap.size w ((box5 w).alloc (.cells #[] 5)) := hbx.trans (hal.mono hbx.size)
  have hn1 := (hal.block _ (by omega)).trans hnx
  have HR : Hid (Row ((box5 w).alloc (.cells #[] 5)) a n bs) := h.kept (hB1.mono (Nat.le_refl _))
  have HN : Hid (_) := hn1
  have hsz1 : ((box5 w).alloc (.cells #[] 5)).heap.size = w.heap.size + 2 := by simp [hsx]
  have HO : Hid (_) := hor0
  have HB1 : Hid (_) := hB1
  clear h hal hbx hnx hn1 hor0 hB1
  unfold box5 at HR HN HO HB1 hsz1 hsx
  go_enter Tryz.func80, Tryz.ntmps80
  go_wp2_with (at_builtin; refine wpList_append_row _ rfl (.tmp 9) (.tmp 10) 22 rfl (w.heap.size + 1) i0 Tryz.underlying22 hi hz0 hz1 hz2 _ _ _ rfl HO.out.row a n c bs rfl HR.out hc (by omega) (by rw [hsz1]; omega) ?_; intro v1 w1 hv1 hg1; obtain ⟨a1, c1, rfl, ho1⟩ := own_appended (xs := []) (ys := bs) hv1 HO.out.byte HR.out.byte; have hb1 : Below w.heap.size w w1 := below_appended HB1.out HB1.out.size (HO.out.mono (by omega)).row hg1; have ho1' : Own (w.heap.size + 1) w1 a1 n c1 bs := (by simpa using ho1); have hn2 : w1.heap[w.heap.size]? = some (.cells #[.int .i64 0, .int .i64 0, .bool false, .slice none 0 0, .slice none 0 0] 96 (0, 0)) := (hg1.block w.heap.size (by rw [hsz1]; omega) (by show some w.heap.size ≠ some (w.heap.size + 1); simp)).trans HN.out; obtain ⟨_, x0, x1, x2, x3, x4, y0, y1, y2, y3, y4⟩ := Box5.of hn2; have HN2 : Hid (_) := hn2; have HB2 : Hid (Below w.heap.size w w1) := hb1; have HO2 : Hid (Own (w.heap.size + 1) w1 a1 n c1 bs) := ho1'; have hs1 := hg1.size; clear hn2 hb1 ho1 ho1' hv1 hg1)
  try simp only [Exit.inBlock, Exit.then]
  refine bodyPost_ret (results_it rfl _ w.heap.size rfl _ _ _ _ _ _ (put5_heap HN2.out _ _ _ _ _)) rfl ⟨a1, c1, by first | rfl | simp [itv, It.cls, It.tag, It.cons], ?_, ?_⟩
  · exact HO2.out.touch5 (put5_touch w1 w.heap.size _ _ _ _ _) (by omega)
  · exact HB2.out.trans ((put5_touch w1 w.heap.size _ _ _ _ _).below (Nat.le_refl _) HB2.out.size)

set_option maxRecDepth 10000 in
set_option maxHeartbeats 1000000 in
theorem l9Bytes_any (a : Option Addr) (n c : Nat) (bs : List Int) (w : World) (h : Row w a n bs) (hc : a = none → c = 0) (hn : n ≤ 1000) :
    Calls Tryz.prog 55 #[.slice a n c] w fun e w' => ∃ a c, e = .returned (itv (bytI bs) a n c none 0 0) ∧ Own (w.heap.size + 1) w' a n c bs ∧ Below w.heap.size w w' := by
  have hbx := box5_below w
  have hnx := box5_new w
  have hsx := box5_size w
  obtain ⟨wb, hwb⟩ : ∃ wb, wb = box5 w := ⟨_, rfl⟩
  rw [← hwb] at hbx hnx hsx
  unfold box5 at hwb
  go_enter Tryz.func55, Tryz.ntmps55
  go_wp2_with fail
  rw [← hwb]
  clear hwb
  have hnx1 := hnx
  have B1 := hbx
  refine (l2Leaf_any 4 a n c bs _ (h.kept hbx) hc hn).mono ?_
  rintro e w2 ⟨a2, c2, rfl, ho2, hb2⟩
  have hs2 := hb2.size
  have hn1 := (hb2.block _ (by omega)).trans (hnx1)
  have B2 : Below w.heap.size w w2 := B1.trans (hb2.mono (by omega))
  obtain ⟨_, x0, x1, x2, x3, x4, y0, y1, y2, y3, y4⟩ := Box5.of hn1
  have HO : Hid (Own (w.heap.size + 1) w2 a2 n c2 bs) := ho2.mono (by omega)
  have HN : Hid (_) := hn1
  have HB : Hid (Below w.heap.size w w2) := B2
  clear ho2 hn1 B2 B1 hb2 hnx hbx hnx1
  unfold itv
  simp only [It.cls, It.tag, It.cons]
  go_wp2_with fail
  try simp only [Exit.inBlock, Exit.then]
  refine bodyPost_ret (results_it rfl _ w.heap.size rfl _ _ _ _ _ _ (put5_heap HN.out _ _ _ _ _)) rfl ⟨a2, c2, rfl, ?_, ?_⟩
  · exact HO.out.touch5 (put5_touch w2 w.heap.size _ _ _ _ _) (by omega)
  · exact HB.out.trans ((put5_touch w2 w.heap.size _ _ _ _ _).below (Nat.le_refl _) HB.out.size)

set_option maxRecDepth 10000 in
set_option maxHeartbeats 1000000 in
theorem l9Num_any (n : Int) (w : World) :
    Calls Tryz.prog 56 #[.int .i64 n] w fun e w' => ∃ a c, e = .returned (itv (numI n) a (wsz n) c none 0 0) ∧ Own (w.heap.size + 1) w' a (wsz n) c (wbL n) ∧ Below w.heap.size w w' := by
  have hbx := box5_below w
  have hnx := box5_new w
  have hsx := box5_size w
  obtain ⟨wb, hwb⟩ : ∃ wb, wb = box5 w := ⟨_, rfl⟩
  rw [← hwb] at hbx hnx hsx
  unfold box5 at hwb
  go_enter Tryz.func56, Tryz.ntmps56
  go_wp2_with fail
  rw [← hwb]
  clear hwb
  have hsz := wsz_bd n
  refine (l3Number_any n _).mono ?_
  rintro e w1 ⟨a1, c1, rfl, ho1, hb1⟩
  have hs1 := hb1.size
  have hnx1 := (hb1.block _ (by omega)).trans hnx
  have B1 : Below w.heap.size w w1 := hbx.trans (hb1.mono hbx.size)
  go_wp2_with fail
  refine (l2Leaf_any 2 a1 (wsz n) c1 (wbL n) _ ho1.toRow ho1.nil (by omega)).mono ?_
  rintro e w2 ⟨a2, c2, rfl, ho2, hb2⟩
  clear hb1 ho1
  have hs2 := hb2.size
  have hn1 := (hb2.block _ (by omega)).trans (hnx1)
  have B2 : Below w.heap.size w w2 := B1.trans (hb2.mono (by omega))
  obtain ⟨_, x0, x1, x2, x3, x4, y0, y1, y2, y3, y4⟩ := Box5.of hn1
  have HO : Hid (Own (w.heap.size + 1) w2 a2 (wsz n) c2 (wbL n)) := ho2.mono (by omega)
  have HN : Hid (_) := hn1
  have HB : Hid (Below w.heap.size w w2) := B2
  clear ho2 hn1 B2 B1 hb2 hnx hbx hnx1
  unfold itv
  simp only [It.cls, It.tag, It.cons]
  go_wp2_with fail
  try simp only [Exit.inBlock, Exit.then]
  refine bodyPost_ret (results_it rfl _ w.heap.size rfl _ _ _ _ _ _ (put5_heap HN.out _ _ _ _ _)) rfl ⟨a2, c2, rfl, ?_, ?_⟩
  · exact HO.out.touch5 (put5_touch w2 w.heap.size _ _ _ _ _) (by omega)
  · exact HB.out.trans ((put5_touch w2 w.heap.size _ _ _ _ _).below (Nat.le_refl _) HB.out.size)

end Go.Proofs.YtpnhhhhmonbajaaGreat

namespace Go.Proofs.YtpnhhhhmonbajaaGreat
open Go.RowKit

set_option maxRecDepth 10000 in
set_option maxHeartbeats 1000000 in
theorem implItemBytes_any (d : Nat) (x : It) (ab : Option Addr) (nb cb : Nat) (ak : Option Addr) (nk ck : Nat) (w : World) (hrow : Row w ab nb x.body) (hnil : ab = none → cb = 0) (hnb : nb ≤ 9223372036854775807) (hk : Kids d w ak nk x.kids) :
    Calls Tryz.prog 66 #[itv x ab nb cb ak nk ck] w fun e w' => Ans w.heap.size (enc 12 x) e w' ∧ Below w.heap.size w w' := by
  have hbl : Below w.heap.size w (w.alloc (.cells #[.int .i64 x.cls, .int .i64 x.tag, .bool x.cons, .slice ab nb cb, .slice ak nk ck] 96)) := (Below.refl _ _).alloc (Nat.le_refl _) _
  have HS : Hid (_) := bytesAt_all d 12 1 x ab nb cb ak nk ck _ (by decide) (by decide) (hrow.kept hbl) hnil hnb (hk.kept hbl)
  clear hrow hk hnb hnil
  unfold itv
  go_enter Tryz.func66, Tryz.ntmps66
  go_wp2_with fail
  refine Calls.mono HS.out ?_
  rintro e w1 ⟨hans, hb1⟩
  have hb1' : Below w.heap.size w w1 := hbl.trans (hb1.mono hbl.size)
  clear hb1
  rcases hans with ⟨a2, n2, c2, bs2, rfl, he2, ho2⟩ | ⟨rfl, he2⟩
  · have HO : Hid (Own w.heap.size w1 a2 n2 c2 bs2) := ho2.mono hbl.size
    clear ho2
    go_wp2
    go_ret2
    exact ⟨.inl ⟨a2, n2, c2, bs2, rfl, he2, HO⟩, hb1'⟩
  · go_wp2
    go_ret2
    exact ⟨.inr ⟨rfl, he2⟩, hb1'⟩

theorem l9Num_agg (n : Int) (w : World) : Calls Tryz.prog 56 #[.int .i64 n] w fun e w' => ∃ a c, e = .returned (.agg #[.int .i64 0, .int .i64 2, .bool false, .slice a (wsz n) c, .slice none 0 0]) ∧ Own (w.heap.size + 1) w' a (wsz n) c (wbL n) ∧ Below w.heap.size w w' := l9Num_any n w
theorem l9Bytes_agg (a : Option Addr) (n c : Nat) (bs : List Int) (w : World) (h : Row w a n bs) (hc : a = none → c = 0) (hn : n ≤ 1000) : Calls Tryz.prog 55 #[.slice a n c] w fun e w' => ∃ a c, e = .returned (.agg #[.int .i64 0, .int .i64 4, .bool false, .slice a n c, .slice none 0 0]) ∧ Own (w.heap.size + 1) w' a n c bs ∧ Below w.heap.size w w' := l9Bytes_any a n c bs w h hc hn
theorem l2Box_agg (tag : Int) (a : Option Addr) (n c : Nat) (w : World) :
    Calls Tryz.prog 54 #[.int .i64 1, .int .i64 tag, .slice a n c] w fun e w' => e = .returned (.agg #[.int .i64 1, .int .i64 tag, .bool true, .slice none 0 0, .slice a n c]) ∧ Below w.heap.size w w' := l2Box_any tag a n c [] w
theorem l2Bytes_agg (tag : Int) (a : Option Addr) (n c : Nat) (ks : List It) (l : List Int) (w : World) (hk : Kids 2 w a n ks) (hl : enc 12 (boxI tag ks) = some l) :
    Calls Tryz.prog 53 #[.agg #[.int .i64 1, .int .i64 tag, .bool true, .slice none 0 0, .slice a n c]] w fun e w' => ∃ a' c', e = .returned (.slice a' l.length c') ∧ Own w.heap.size w' a' l.length c' l ∧ Below w.heap.size w w' :=
  specBytes_all 2 12 (boxI tag ks) l none 0 0 a n c w hl ⟨rfl, fun k hk => absurd hk (Nat.not_lt_zero _), by simp [boxI, It.body]⟩ (fun _ => rfl) hk

end Go.Proofs.YtpnhhhhmonbajaaGreat

namespace Go.Proofs.YtpnhhhhmonbajaaGreat
open Go.RowKit

def seenP (log sz root : Int) : Prop := (1 ≤ log ∧ log ≤ 1000) ∧ (0 ≤ sz ∧ sz ≤ 200) ∧ (0 < sz ∨ root = 0)
instance (log sz root : Int) : Decidable (seenP log sz root) := by unfold seenP; infer_instance
def timP (x : Int) : Prop := 0 ≤ x ∧ x ≤ 253402300799
instance (x : Int) : Decidable (timP x) := by unfold timP; infer_instance
def headP (log sz root at2 : Int) : Prop := seenP log sz root ∧ timP at2
instance (log sz root at2 : Int) : Decidable (headP log sz root at2) := by unfold headP; infer_instance

set_option maxRecDepth 10000 in
set_option maxHeartbeats 1000000 in
theorem inBd_any (x lo hi : Int) (w : World) : Calls Tryz.prog 22 #[.int .i64 x, .int .i64 lo, .int .i64 hi] w fun e w' => e = .returned (.bool (decide (lo ≤ x ∧ x ≤ hi))) ∧ w' = w := by
  by_cases h : lo ≤ x ∧ x ≤ hi
  · rw [decide_eq_true h]; exact inBounds_t x lo hi w h
  · rw [decide_eq_false h]; exact inBounds_f x lo hi w h

set_option maxRecDepth 10000 in
set_option maxHeartbeats 1000000 in
theorem l1Bd_any (x lo hi : Int) (w : World) : Calls Tryz.prog 36 #[.int .i64 x, .int .i64 lo, .int .i64 hi] w fun e w' => e = .returned (.bool (decide (lo ≤ x ∧ x ≤ hi))) ∧ w' = w := by
  by_cases h : lo ≤ x ∧ x ≤ hi
  · rw [decide_eq_true h]; exact l1In_t x lo hi w h
  · rw [decide_eq_false h]; exact l1In_f x lo hi w h

set_option maxRecDepth 10000 in
set_option maxHeartbeats 1000000 in
theorem isTim_any (x : Int) (w : World) : Calls Tryz.prog 23 #[.int .i64 x] w fun e w' => e = .returned (.bool (decide (timP x))) ∧ w' = w := by
  go_enter Tryz.func23, Tryz.ntmps23
  go_wp2_with fail
  refine (inBd_any x 0 253402300799 _).mono ?_
  rintro e w1 ⟨rfl, hw⟩
  have hw2 := hw.symm
  subst hw2
  obtain ⟨q, hq⟩ : ∃ q, q = decide (0 ≤ x ∧ x ≤ 253402300799) := ⟨_, rfl⟩
  have HQ : Hid (q = decide (timP x)) := hq
  rw [← hq]
  clear hq
  go_wp2
  go_ret
  exact ⟨by rw [← HQ.out]; rfl, rfl⟩

set_option maxRecDepth 10000 in
set_option maxHeartbeats 1000000 in
theorem l10Tim_any (x : Int) (w : World) : Calls Tryz.prog 16 #[.int .i64 x] w fun e w' => e = .returned (.bool (decide (timP x))) ∧ w' = w := by
  go_enter Tryz.func16, Tryz.ntmps16
  go_wp2_with fail
  refine (l1Bd_any x 0 253402300799 _).mono ?_
  rintro e w1 ⟨rfl, hw⟩
  have hw2 := hw.symm
  subst hw2
  obtain ⟨q, hq⟩ : ∃ q, q = decide (0 ≤ x ∧ x ≤ 253402300799) := ⟨_, rfl⟩
  have HQ : Hid (q = decide (timP x)) := hq
  rw [← hq]
  clear hq
  go_wp2
  go_ret
  exact ⟨by rw [← HQ.out]; rfl, rfl⟩

end Go.Proofs.YtpnhhhhmonbajaaGreat

