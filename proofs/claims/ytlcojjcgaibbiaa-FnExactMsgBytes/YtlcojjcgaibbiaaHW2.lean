import Derived.Test.YtlcojjcgaibbiaaHW1
namespace Go.Proofs.Ytlcojjcgaibbiaa
open Go.RowKit

theorem wsz_at (n : Int) (k : Nat) (h0 : 1 ≤ k) (h1 : k < 8) : ∃ H : Int, wrap64 (2 ^ (8 * k - 1)) = H ∧ wrap64 (-2 ^ (8 * k - 1)) = -H ∧ (wsz n ≤ k ↔ -H ≤ n ∧ n < H) := by
  rcases (show k = 1 ∨ k = 2 ∨ k = 3 ∨ k = 4 ∨ k = 5 ∨ k = 6 ∨ k = 7 by omega) with rfl | rfl | rfl | rfl | rfl | rfl | rfl
  · exact ⟨128, by decide +kernel, by decide +kernel, wsz_le1 n⟩
  · exact ⟨32768, by decide +kernel, by decide +kernel, wsz_le2 n⟩
  · exact ⟨8388608, by decide +kernel, by decide +kernel, wsz_le3 n⟩
  · exact ⟨2147483648, by decide +kernel, by decide +kernel, wsz_le4 n⟩
  · exact ⟨549755813888, by decide +kernel, by decide +kernel, wsz_le5 n⟩
  · exact ⟨140737488355328, by decide +kernel, by decide +kernel, wsz_le6 n⟩
  · exact ⟨36028797018963968, by decide +kernel, by decide +kernel, wsz_le7 n⟩
theorem wb_at (n : Int) (q : Nat) (h : q ≤ 7) : n / 2 ^ (8 * q) % 256 = (wb8 n).getD (7 - q) 0 := by
  match q, h with
  | 0, _ => simp [wb8]
  | 1, _ => simp [wb8]
  | 2, _ => simp [wb8]
  | 3, _ => simp [wb8]
  | 4, _ => simp [wb8]
  | 5, _ => simp [wb8]
  | 6, _ => simp [wb8]
  | 7, _ => simp [wb8]
/-- What is written of a number of k bytes when q are left. -/
def wbP (n : Int) (k q : Nat) : List Int := ((wb8 n).drop (8 - k)).take (k - q)
theorem wbP_next (n : Int) (k q : Nat) (hk : k ≤ 8) (hq : q < k) : wbP n k (q + 1) ++ [(wb8 n).getD (7 - q) 0] = wbP n k q := by
  unfold wbP
  have hl : k - (q + 1) < ((wb8 n).drop (8 - k)).length := by rw [List.length_drop, wb8_len]; omega
  rw [show k - q = k - (q + 1) + 1 by omega, take_snoc _ _ hl]
  congr 2
  rw [List.getD_eq_getElem?_getD, List.getD_eq_getElem?_getD, List.getElem?_drop, show 8 - k + (k - (q + 1)) = 7 - q by omega]
theorem wbP_byte (n : Int) (k q : Nat) : ∀ j, 0 ≤ (wbP n k q).getD j 0 ∧ (wbP n k q).getD j 0 ≤ 255 := take_bytes (wb_drop n _) _

set_option maxRecDepth 10000 in
set_option maxHeartbeats 2000000 in
theorem l3Number_any (n : Int) (w : World) :
    Calls Try.prog 67 #[.int .i64 n] w fun e w' => ∃ a c, e = .returned (.slice a (wsz n) c) ∧ Own w.heap.size w' a (wsz n) c (wbL n) ∧ Below w.heap.size w w' := by
  obtain ⟨i0, hi, hz0, hz1, hz2⟩ := info_parts Try.info5
  have HOE : Hid (_) := own_empty w
  have HBE : Hid (Below w.heap.size w (w.alloc (.cells #[] 5))) := (Below.refl _ _).alloc (Nat.le_refl _) _
  have hsz := wsz_bd n
  go_enter Try.func67, Try.ntmps67
  go_wp2
  go_loopw [3] (fun s wr => ∃ k : Nat, k ≤ 8 ∧ 1 ≤ k ∧ s = .int .i64 k ∧ Hid (k ≤ wsz n) ∧ w = wr) (fun s _ => 8 - (intOf s).toNat)
  case atStart => exact ⟨1, by decide, by decide, rfl, hsz.1, rfl⟩
  case round =>
    obtain ⟨k, hk, hk1, rfl, HK, rfl⟩ := hrel
    by_cases hgo : k < 8 ∧ ¬ wsz n ≤ k
    · obtain ⟨H, hp, hn, hiff⟩ := wsz_at n k hk1 hgo.1
      have hk8i : (k : Int) < 8 := by omega
      have HN : Hid (k + 1 ≤ wsz n) := by show _ ≤ _; omega
      by_cases hH : H ≤ n
      · clear hiff hgo
        go_wp2
        go_roundw
        case rel => exact ⟨k + 1, by omega, by omega, by go_num, HN, by first | rfl | trivial⟩
        case measure => simp [intOf]; omega
      · have hH2 : n < -H := by
          have h := hgo.2
          rw [hiff] at h
          omega
        clear hiff hgo
        go_wp2
        go_roundw
        case rel => exact ⟨k + 1, by omega, by omega, by go_num, HN, by first | rfl | trivial⟩
        case measure => simp [intOf]; omega
    · have hex : k = wsz n := by have := HK.out; omega
      have HX : Hid (k = wsz n) := hex
      have tail : ∀ (W : World), W = w.alloc (.cells #[] 5) → Own w.heap.size W (some ⟨w.heap.size, 0, none⟩) 0 0 (wbP n k k) ∧ Below w.heap.size w W := by
        intro W hW
        have e : wbP n k k = [] := by unfold wbP; simp
        rw [hW, e]
        exact ⟨HOE.out, HBE.out⟩
      have TAIL : Hid (_) := tail
      clear tail hex
      by_cases hk8 : k < 8
      · obtain ⟨H, hp, hn, hiff⟩ := wsz_at n k hk1 hk8
        have hk8i : (k : Int) < 8 := by omega
        have hH : ¬ H ≤ n := by have := hiff.1 (by omega); omega
        have hH2 : ¬ n < -H := by have := hiff.1 (by omega); omega
        clear hiff hgo
        go_wp2
        go_loopw [4, 5] (fun o i wr => ∃ (a : Option Addr) (q len cap : Nat), q ≤ k ∧ len = k - q ∧ i = .int .i64 ((q : Int) - 1) ∧ o = .slice a len cap ∧ Own w.heap.size wr a len cap (wbP n k q) ∧ Below w.heap.size w wr) (fun _ i _ => ((intOf i) + 1).toNat)
        case atStart => exact ⟨_, k, 0, 0, Nat.le_refl _, by omega, rfl, rfl, (TAIL.out _ rfl).1, (TAIL.out _ rfl).2⟩
        case round =>
          obtain ⟨a, q, len, cap, hq, hle, rfl, rfl, hor, hbr⟩ := hrel
          have HLe : Hid (len = k - q) := hle
          clear hle
          rcases q with _ | q
          · go_wp2
            go_ret
            have hlk : k = len := by have := HLe.out; omega
            subst hlk
            have e : wbP n k 0 = wbL n := by unfold wbP wbL; rw [← HX.out, List.take_of_length_le (by rw [List.length_drop, wb8_len]; omega)]
            rw [e] at hor
            exact ⟨_, _, by rw [← HX.out]; rfl, by rw [← HX.out]; exact hor, hbr⟩
          · have e1 : ((q + 1 : Nat) : Int) - 1 = (q : Int) := by omega
            rw [e1]
            clear e1
            have hl9 : len ≤ 9 := by have := HLe.out; omega
            have hq7 : q ≤ 7 := by omega
            have hws : w.heap.size ≤ wr.heap.size := hbr.size
            have HE : Hid (_ = _) := wb_at n q hq7
            go_wp2_with (at_builtin; go_loud (refine wpList_append_own _ rfl _ _ 22 rfl w.heap.size 5 i0 (.int .u8 0) 1 1 Try.underlying22 hi hz0 hz1 hz2 rfl (by decide) _ _ _ rfl (hor.row.alloc _) ⟨wr.heap.size, 0, none⟩ 1 1 [_] rfl rfl (cell_one_new _ _ _) (by intro u hu; simp at hu; subst hu; rfl) (by unfold maxLen; omega) (by omega) (by simp; omega) ?_); intro v' w1 hown' hgrow' _)
            have hb1 : Below w.heap.size w w1 := below_appended (hbr.alloc hws _) (by simp; omega) (hor.row.alloc _) hgrow'
            rw [HE.out] at hown'
            obtain ⟨a', cap', rfl, ho⟩ := own_appended (ys := [(wb8 n).getD (7 - q) 0]) hown' hor.byte (by simpa using snoc_byte (xs := []) (by simp) _ (wb8_byte n (7 - q)))
            rw [wbP_next n k q (by omega) (by omega)] at ho
            go_roundw
            case rel => exact ⟨a', q, len + 1, cap', by omega, by have := HLe.out; omega, rfl, rfl, ho, hb1⟩
            case measure => simp [intOf]
      · have hk8i : ¬ (k : Int) < 8 := by omega
        clear hgo
        go_wp2
        go_loopw [4, 5] (fun o i wr => ∃ (a : Option Addr) (q len cap : Nat), q ≤ k ∧ len = k - q ∧ i = .int .i64 ((q : Int) - 1) ∧ o = .slice a len cap ∧ Own w.heap.size wr a len cap (wbP n k q) ∧ Below w.heap.size w wr) (fun _ i _ => ((intOf i) + 1).toNat)
        case atStart => exact ⟨_, k, 0, 0, Nat.le_refl _, by omega, rfl, rfl, (TAIL.out _ rfl).1, (TAIL.out _ rfl).2⟩
        case round =>
          obtain ⟨a, q, len, cap, hq, hle, rfl, rfl, hor, hbr⟩ := hrel
          have HLe : Hid (len = k - q) := hle
          clear hle
          rcases q with _ | q
          · go_wp2
            go_ret
            have hlk : k = len := by have := HLe.out; omega
            subst hlk
            have e : wbP n k 0 = wbL n := by unfold wbP wbL; rw [← HX.out, List.take_of_length_le (by rw [List.length_drop, wb8_len]; omega)]
            rw [e] at hor
            exact ⟨_, _, by rw [← HX.out]; rfl, by rw [← HX.out]; exact hor, hbr⟩
          · have e1 : ((q + 1 : Nat) : Int) - 1 = (q : Int) := by omega
            rw [e1]
            clear e1
            have hl9 : len ≤ 9 := by have := HLe.out; omega
            have hq7 : q ≤ 7 := by omega
            have hws : w.heap.size ≤ wr.heap.size := hbr.size
            have HE : Hid (_ = _) := wb_at n q hq7
            go_wp2_with (at_builtin; go_loud (refine wpList_append_own _ rfl _ _ 22 rfl w.heap.size 5 i0 (.int .u8 0) 1 1 Try.underlying22 hi hz0 hz1 hz2 rfl (by decide) _ _ _ rfl (hor.row.alloc _) ⟨wr.heap.size, 0, none⟩ 1 1 [_] rfl rfl (cell_one_new _ _ _) (by intro u hu; simp at hu; subst hu; rfl) (by unfold maxLen; omega) (by omega) (by simp; omega) ?_); intro v' w1 hown' hgrow' _)
            have hb1 : Below w.heap.size w w1 := below_appended (hbr.alloc hws _) (by simp; omega) (hor.row.alloc _) hgrow'
            rw [HE.out] at hown'
            obtain ⟨a', cap', rfl, ho⟩ := own_appended (ys := [(wb8 n).getD (7 - q) 0]) hown' hor.byte (by simpa using snoc_byte (xs := []) (by simp) _ (wb8_byte n (7 - q)))
            rw [wbP_next n k q (by omega) (by omega)] at ho
            go_roundw
            case rel => exact ⟨a', q, len + 1, cap', by omega, by have := HLe.out; omega, rfl, rfl, ho, hb1⟩
            case measure => simp [intOf]

end Go.Proofs.Ytlcojjcgaibbiaa
