import Derived.Test.YtmmdklaajejeiaaWHexD
import Derived.Deep.RegionWith
import Derived.Lib.Strings
namespace Go.Proofs.Ytmmdklaajejeiaa
open Go.RowKit

theorem digV_hexD (q : Int) (h0 : 0 ≤ q) (h1 : q ≤ 15) : digV (hexD q) = q ∧ digOk (hexD q) = true := by
  unfold digV digOk hexD
  split
  · rw [if_pos (by omega)]; simp; omega
  · rw [if_neg (by omega), if_pos (by omega)]; simp; omega
theorem cAt_str (ys : List Int) (hy : ∀ k, 0 ≤ ys.getD k 0 ∧ ys.getD k 0 ≤ 255) (j : Nat) : cAt (strOfNums ys) j = ys.getD j 0 := by
  unfold cAt
  rw [strOfNums_data]
  have := hy j
  by_cases h : j < ys.length
  · simp [h] at this ⊢
    omega
  · rw [List.getD_eq_getElem?_getD, List.getElem?_eq_none (by simpa using h), List.getD_eq_getElem?_getD, List.getElem?_eq_none (by omega)]
    rfl
theorem hexT_at (bs : List Int) (j : Nat) (h : j < bs.length) : (hexT bs).getD (2 * j) 0 = hexD (bs.getD j 0 / 16) ∧ (hexT bs).getD (2 * j + 1) 0 = hexD (bs.getD j 0 % 16) := by
  induction bs generalizing j with
  | nil => simp at h
  | cons x r ih =>
    cases j with
    | zero => simp [hexT]
    | succ j =>
      have := ih j (by simpa using h)
      rw [show 2 * (j + 1) = 2 * j + 1 + 1 by omega]
      simpa [hexT] using this
theorem hexT_good (bs : List Int) (hb : ∀ k, 0 ≤ bs.getD k 0 ∧ bs.getD k 0 ≤ 255) (j : Nat) (h : j < 2 * bs.length) : digOk (cAt (strOfNums (hexT bs)) j) = true := by
  rw [cAt_str _ (hexT_byte bs hb)]
  have h1 := hexT_at bs (j / 2) (by omega)
  have h2 := hb (j / 2)
  by_cases e : j % 2 = 0
  · rw [show j = 2 * (j / 2) by omega, h1.1]; exact (digV_hexD _ (by omega) (by omega)).2
  · rw [show j = 2 * (j / 2) + 1 by omega, h1.2]; exact (digV_hexD _ (by omega) (by omega)).2
theorem hexL_back (bs : List Int) (hb : ∀ k, 0 ≤ bs.getD k 0 ∧ bs.getD k 0 ≤ 255) : hexL (strOfNums (hexT bs)) bs.length = bs := by
  apply List.ext_getElem
  · rw [hexL_len]
  · intro j h1 h2
    have h3 := hexT_at bs j h2
    have h4 := hb j
    have e : bs.getD j 0 = bs[j] := by simp [h2]
    simp only [hexL, List.getElem_map, List.getElem_range, pairV]
    rw [cAt_str _ (hexT_byte bs hb), cAt_str _ (hexT_byte bs hb), h3.1, h3.2, (digV_hexD _ (by omega) (by omega)).1, (digV_hexD _ (by omega) (by omega)).1, e]
    rw [e] at h4
    omega
/-- What HexText wrote is read back. -/
theorem hexRes_back (bs : List Int) (hb : ∀ k, 0 ≤ bs.getD k 0 ∧ bs.getD k 0 ≤ 255) : hexRes (strOfNums (hexT bs)) bs true := by
  have hs : (strOfNums (hexT bs)).size = 2 * bs.length := by rw [strOfNums_size, hexT_len]
  refine .inl ⟨rfl, by rw [hs]; omega, ?_, ?_⟩
  · rw [hs]
    intro j hj
    exact hexT_good bs hb j (by omega)
  · rw [hs, show 2 * bs.length / 2 = bs.length by omega, hexL_back bs hb]
theorem hexRes_odd {s : ByteArray} (h : s.size % 2 ≠ 0) : hexRes s [] false := .inr ⟨rfl, rfl, fun hh => h hh.1⟩
theorem hexRes_bad {s : ByteArray} {j : Nat} (hj : j < s.size) (h : digOk (cAt s j) = false) : hexRes s [] false := by
  refine .inr ⟨rfl, rfl, fun hh => ?_⟩
  have := hh.2 j (by omega)
  rw [h] at this
  exact absurd this (by decide)

theorem hexD_digV (x : Int) (h : digOk x = true) : hexD (digV x) = x := by
  unfold digOk at h
  simp at h
  unfold hexD digV
  rcases h with h | h
  · rw [if_pos h, if_pos (by omega)]; omega
  · rw [if_neg (by omega), if_pos h, if_neg (by omega)]; omega
/-- A text that is read as bytes is what these are written as. -/
theorem hexT_hexL (s : ByteArray) (k : Nat) (hs : s.size = 2 * k) (hg : hexGood s k) : strOfNums (hexT (hexL s k)) = s := by
  have key : (strOfNums (hexT (hexL s k))).data.toList = s.data.toList := by
    rw [strOfNums_data]
    have hlen : (hexT (hexL s k)).length = s.data.toList.length := by rw [hexT_len, hexL_len]; simpa using hs.symm
    apply List.ext_getElem (by simpa using hlen)
    intro j h1 h2
    have hj : j < 2 * k := by simp at h2; omega
    have hg1 := hg j hj
    have hL : (hexL s k).length = k := hexL_len s k
    have e1 : (hexT (hexL s k)).getD j 0 = cAt s j := by
      have h3 := hexT_at (hexL s k) (j / 2) (by omega)
      have h4 : (hexL s k).getD (j / 2) 0 = pairV s (j / 2) := by simp [hexL, show j / 2 < k by omega]
      have d1 := digV_bd (cAt s (2 * (j / 2)))
      have d2 := digV_bd (cAt s (2 * (j / 2) + 1))
      rw [h4] at h3
      unfold pairV at h3
      by_cases e : j % 2 = 0
      · have hj2 : 2 * (j / 2) = j := by omega
        rw [hj2] at h3 d1
        rw [h3.1]
        rw [show (digV (cAt s j) * 16 + digV (cAt s (j + 1))) / 16 = digV (cAt s j) by rw [hj2] at d2; omega]
        exact hexD_digV _ hg1
      · have hj2 : 2 * (j / 2) + 1 = j := by omega
        rw [hj2] at h3 d2
        rw [h3.2]
        rw [show (digV (cAt s (2 * (j / 2))) * 16 + digV (cAt s j)) % 16 = digV (cAt s j) by omega]
        exact hexD_digV _ hg1
    have h3 : j < (hexT (hexL s k)).length := by rw [hlen]; exact h2
    have e2 : (hexT (hexL s k))[j] = cAt s j := by simpa [h3] using e1
    rw [List.getElem_map, e2]
    unfold cAt
    rw [List.getD_eq_getElem?_getD, List.getElem?_eq_getElem h2]
    simp
  have h2 : (strOfNums (hexT (hexL s k))).data = s.data := Array.toList_inj.1 key
  cases s
  cases hh : strOfNums (hexT (hexL _ k))
  rw [hh] at h2
  simp at h2
  rw [h2]

theorem cut_size (s : ByteArray) (k : Nat) (h : k < s.size) : (s.extract 0 k ++ s.extract (k + 1) s.size).size = s.size - 1 := by
  rw [ByteArray.size_append, ByteArray.size_extract, ByteArray.size_extract]; omega
theorem turn_size (s : ByteArray) (k : Nat) (h : k < s.size) : (s.extract 0 k ++ { data := #[65] } ++ s.extract (k + 1) s.size).size = s.size := by
  rw [ByteArray.size_append, ByteArray.size_append, ByteArray.size_extract, ByteArray.size_extract]
  show _ + 1 + _ = _
  omega
theorem turn_at (s : ByteArray) (k : Nat) (h : k < s.size) : cAt (s.extract 0 k ++ { data := #[65] } ++ s.extract (k + 1) s.size) k = 65 := by
  have h1 : (s.extract 0 k).data.toList.length = k := by
    have := ByteArray.size_extract (a := s) (b := 0) (e := k)
    have h2 : (s.extract 0 k).data.toList.length = (s.extract 0 k).size := by simp
    omega
  unfold cAt
  rw [ByteArray.data_append, ByteArray.data_append, Array.toList_append, Array.toList_append]
  rw [List.getD_eq_getElem?_getD, List.append_assoc, List.getElem?_append_right (by omega), h1, Nat.sub_self]
  simp

theorem slice_from (s : ByteArray) (k : Nat) (h : k < s.size) (W : World) : (Instr.slice 9 (.string s) (some (.int .i64 ((k : Int) + 1))) none none).run Try.prog W = .ok (.string (s.extract (k + 1) s.size)) W := by
  have := run_slice_string_l (P := Try.prog) (w := W) (t := 9) (s := s) (ht := Try.underlying9) .i64 ((k : Int) + 1) (by omega) (by omega)
  rwa [show ((k : Int) + 1).toNat = k + 1 by omega] at this
theorem slice_to (s : ByteArray) (k : Nat) (h : k < s.size) (W : World) : (Instr.slice 9 (.string s) none (some (.int .i64 (k : Int))) none).run Try.prog W = .ok (.string (s.extract 0 k)) W := by
  have := run_slice_string_h (P := Try.prog) (w := W) (t := 9) (s := s) (ht := Try.underlying9) .i64 (k : Int) (by omega) (by omega)
  rwa [Int.toNat_natCast] at this

set_option maxRecDepth 100000 in
set_option maxHeartbeats 2000000 in
theorem lawHexed_walk (a : Option Addr) (n cap : Nat) (zs : List Int) (w : World) (hr : IsRow .u8 w a n cap zs) :
    Calls Try.prog 4 #[.slice a n cap] w fun e w' => e = .returned (.bool true) ∧ Below w.heap.size w w' := by
  obtain ⟨hrow, hmax⟩ := hr.row
  have hnil := hr.nil
  obtain ⟨bs, hbs⟩ : ∃ bs, bs = zs.take n := ⟨_, rfl⟩
  rw [← hbs] at hrow
  clear hbs hr
  unfold maxLen at hmax
  have H0 : Hid (Row w a n bs) := hrow
  have HN : Hid (a = none → cap = 0) := hnil
  have BB := hrow.byte
  have HL : Hid (bs.length = n) := hrow.len
  clear hrow hnil
  by_cases hbig : 5000 < n
  · go_enter Try.func4, Try.ntmps4
    go_wp2
    go_ret
    exact ⟨rfl, Below.refl _ _⟩
  · obtain ⟨s, hs⟩ : ∃ s, s = strOfNums (hexT bs) := ⟨_, rfl⟩
    have hsz : s.size = 2 * n := by rw [hs, strOfNums_size, hexT_len, HL.out]
    have HS : Hid (s = strOfNums (hexT bs)) := hs
    have HSZ : Hid (s.size = 2 * n) := hsz
    have hsl : s.size ≤ 10000 := by omega
    have e1 : ((s.size : Int) != 2 * (n : Int)) = false := by simp; omega
    clear hs hsz
    go_enter Try.func4, Try.ntmps4
    go_wp2_with fail
    refine (copied_any a n cap bs _ H0.out HN.out (by omega)).mono ?_
    rintro e w1 ⟨a1, c1, rfl, ho1, hb1⟩
    have s1 := hb1.size
    go_wp2_with fail
    refine (implHexText_any a1 n c1 bs _ ho1.toRow (by omega)).mono ?_
    rintro e w2 ⟨rfl, hb2⟩
    rw [← HS.out]
    have b2 : Below w.heap.size w w2 := hb1.trans (hb2.mono s1)
    have s2 := b2.size
    go_wp2_with fail
    refine (implHexRead_any s _ (by omega)).mono ?_
    rintro e w3 ⟨a3, n3, c3, bs3, ok3, rfl, hr3, ho3, hb3⟩
    obtain ⟨rfl, rfl⟩ := hexRes_one hr3 (by rw [HS.out]; exact hexRes_back bs BB)
    have hn3 : n3 = n := by rw [← ho3.length, HL.out]
    subst hn3
    have b3 : Below w.heap.size w w3 := b2.trans (hb3.mono s2)
    have s3 := b3.size
    go_wp2_with fail
    refine (sameBytes_any a3 a n3 n3 c3 cap bs3 bs3 _ ho3.toRow (H0.out.kept b3)).mono ?_
    rintro e w4 ⟨rfl, hw4⟩
    subst hw4
    rw [decide_eq_true (rfl : bs3 = bs3)]
    clear hr3 ho1 ho3 hb1 hb2 hb3 b2
    go_wp2
    obtain ⟨W1, rfl⟩ : ∃ W1, W1 = w3 := ⟨w3, rfl⟩
    go_loopw [6] (fun i wr => ∃ k : Nat, k ≤ 40 ∧ i = .int .i64 k ∧ Below w.heap.size w wr) (fun i _ => 40 - (intOf i).toNat)
    case atStart => exact ⟨0, by omega, rfl, b3⟩
    case round =>
      obtain ⟨k, hk, rfl, hbr⟩ := hrel
      have hsr := hbr.size
      by_cases hin : k < s.size ∧ k < 40
      · obtain ⟨hks, hk40⟩ := hin
        have hksi : (k : Int) < (s.size : Int) := by omega
        have hks1 : (k : Int) + 1 ≤ (s.size : Int) := by omega
        have hks0 : k ≤ s.size := by omega
        have hw1 : wrap64 ((k : Int) + 1) = (k : Int) + 1 := IntWalk.wrap64_in _ ⟨by omega, by omega⟩
        have hw3 : IntKind.i64.wrap ((k : Int) + 1) = (k : Int) + 1 := by rw [IntKind.wrap_i64]; omega
        have HC : Hid ((s.extract 0 k ++ s.extract (k + 1) s.size).size = s.size - 1) := cut_size s k hks
        have HT : Hid ((s.extract 0 k ++ { data := #[65] } ++ s.extract (k + 1) s.size).size = s.size) := turn_size s k hks
        have HA : Hid (cAt (s.extract 0 k ++ { data := #[65] } ++ s.extract (k + 1) s.size) k = 65) := turn_at s k hks
        go_wp2_with fail
        go_region_with (go_at_call 14; refine (implHexRead_any _ _ (by rw [HC.out]; omega)).mono ?_; rintro e w5 ⟨a5, n5, c5, bs5, ok5, rfl, hr5, ho5, hb5⟩; obtain ⟨rfl, rfl⟩ := hexRes_one hr5 (hexRes_odd (by rw [HC.out, HSZ.out]; have := HSZ.out; omega)))
        have b5 : Below w.heap.size w w5 := hbr.drew.trans (hb5.mono hsr)
        have s5 := b5.size
        clear hr5 ho5 hb5
        go_wp2_with fail
        go_region_with (go_at_call 14; refine (implHexRead_any _ _ (by rw [HT.out]; omega)).mono ?_; rintro e w6 ⟨a6, n6, c6, bs6, ok6, rfl, hr6, ho6, hb6⟩; obtain ⟨rfl, rfl⟩ := hexRes_one hr6 (hexRes_bad (j := k) (by rw [HT.out]; exact hks) (by rw [HA.out]; rfl)))
        have b6 : Below w.heap.size w w6 := b5.drew.trans (hb6.mono s5)
        clear hr6 ho6 hb6
        go_wp2
        go_roundw
        case rel => first | exact ⟨k + 1, by omega, by go_num, b6⟩ | ((repeat apply Exists.intro); exact ⟨⟨k + 1, by omega, by go_num, b6⟩, rfl⟩)
        case measure => simp [intOf]; omega
      · have hout : (s.size : Int) ≤ (k : Int) ∨ ((k : Int) < (s.size : Int) ∧ 40 ≤ (k : Int)) := by omega
        clear hin
        rcases hout with hout | ⟨hout1, hout2⟩
        all_goals
          go_wp2_with fail
          refine (drawHexRead_any a n3 cap bs3 _ (H0.out.kept hbr) (by omega)).mono ?_
          rintro e w5 ⟨t, rfl, ht, hb5⟩
          have b5 : Below w.heap.size w w5 := hbr.trans (hb5.mono hsr)
          have s5 := b5.size
          go_wp2_with fail
          refine (implHexRead_any t _ ht).mono ?_
          rintro e w6 ⟨a6, n6, c6, bs6, ok6, rfl, hr6, ho6, hb6⟩
          have b6 : Below w.heap.size w w6 := b5.trans (hb6.mono s5)
          have s6 := b6.size
          have HR6 : Hid (hexRes t bs6 ok6) := hr6
          clear hr6
          go_wp2_with fail
          refine (specHexRead_any t _ ht).mono ?_
          rintro e w7 ⟨a7, n7, c7, bs7, ok7, rfl, hr7, ho7, hb7⟩
          obtain ⟨rfl, rfl⟩ := hexRes_one hr7 HR6.out
          have b7 : Below w.heap.size w w7 := b6.trans (hb7.mono s6)
          have s7 := b7.size
          clear hr7
          have n6l : n6 ≤ 1048576 := by
            rw [← ho6.length]
            rcases HR6.out with ⟨_, _, _, rfl⟩ | ⟨_, rfl, _⟩
            · rw [hexL_len]; omega
            · simp
          go_wp2_with fail
          refine (lives_any _).mono ?_
          rintro e w8 ⟨rfl, hb8⟩
          have b8 : Below w.heap.size w w8 := b7.trans (hb8.mono s7)
          have s8 := b8.size
          cases ok7 with
          | false =>
            go_wp2
            go_ret
            exact ⟨rfl, b8⟩
          | true =>
            have hback : strOfNums (hexT bs7) = t := by
              rcases HR6.out with ⟨_, he, hg, rfl⟩ | ⟨h0, _⟩
              · exact hexT_hexL t (t.size / 2) (by omega) hg
              · cases h0
            have HBk : Hid (strOfNums (hexT bs7) = t) := hback
            clear hback
            go_wp2_with fail
            refine (implHexText_any a6 n6 c6 bs7 _ ((ho6.kept hb7).kept hb8).toRow n6l).mono ?_
            rintro e w9 ⟨rfl, hb9⟩
            rw [HBk.out]
            go_wp2
            go_ret
            exact ⟨rfl, b8.trans (hb9.mono s8)⟩

end Go.Proofs.Ytmmdklaajejeiaa
