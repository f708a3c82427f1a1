import Derived.Test.YtpnaopmpiobemaaB4
import Derived.BigRegion
namespace Go.Proofs.Ytpnaopmpiobemaa
open Go.RowKit

theorem cbR_f0 {bss : List (List Int)} {w w' : World} (h : ¬ cbP bss) (hb : Below w.heap.size w w') : CbR bss w (.returned (.tuple #[.slice (some ⟨w'.heap.size, 0, none⟩) 0 0, .bool false])) (w'.alloc (.cells #[] 5)) :=
  ⟨_, 0, 0, [], false, rfl, .inr ⟨rfl, h, rfl⟩, by decide, (own_empty w').mono hb.size, hb.alloc hb.size _⟩

theorem getD_take (bs : List Int) (n l : Nat) (h : l < n) : (bs.take n).getD l 0 = bs.getD l 0 := by
  rw [List.getD_eq_getElem?_getD, List.getD_eq_getElem?_getD, List.getElem?_take, if_pos h]
theorem byT_take (bs : List Int) (n k i j : Nat) (h : k ≤ n) : byT (bs.take n) k i j = byT bs k i j := by
  unfold byT
  by_cases e : 8 * i + j < k
  · rw [if_pos e, if_pos e, getD_take bs n _ (by omega)]
  · rw [if_neg e, if_neg e]
theorem byV_take (bs : List Int) (n k i : Nat) (h : k ≤ n) : byV (bs.take n) k i = byV bs k i := by
  unfold byV
  rw [byT_take _ _ _ _ 0 h, byT_take _ _ _ _ 1 h, byT_take _ _ _ _ 2 h, byT_take _ _ _ _ 3 h, byT_take _ _ _ _ 4 h, byT_take _ _ _ _ 5 h, byT_take _ _ _ _ 6 h, byT_take _ _ _ _ 7 h]
theorem bits_take (bs : List Int) (n : Nat) (h0 : ∀ k, 0 ≤ bs.getD k 0) (h : BitsN bs n) : Bits (bs.take n) := by
  intro k
  by_cases e : k < n
  · rw [getD_take bs n k e]; exact ⟨h0 k, h k e⟩
  · rw [List.getD_eq_getElem?_getD, List.getElem?_take, if_neg e]; simp
theorem or_bit0 (bs : List Int) (j : Nat) (h0 : ∀ k, 0 ≤ bs.getD k 0) (h : BitsN bs (j + 1)) (e : bs.getD j 0 = 0) : bits .or .u8 (byV bs j (j / 8)) 0 = byV bs (j + 1) (j / 8) := by
  have := or_bit (bs.take (j + 1)) (bits_take bs (j + 1) h0 h) j
  rw [byV_take _ _ _ _ (by omega), byV_take _ _ _ _ (by omega), getD_take bs _ _ (by omega), e, Int.zero_mul] at this
  exact this
theorem or_bit1 (bs : List Int) (j : Nat) (h0 : ∀ k, 0 ≤ bs.getD k 0) (h : BitsN bs (j + 1)) (e : bs.getD j 0 = 1) : bits .or .u8 (byV bs j (j / 8)) (2 ^ (7 - j % 8) % 256) = byV bs (j + 1) (j / 8) := by
  have := or_bit (bs.take (j + 1)) (bits_take bs (j + 1) h0 h) j
  rw [byV_take _ _ _ _ (by omega), byV_take _ _ _ _ (by omega), getD_take bs _ _ (by omega), e, Int.one_mul] at this
  rw [← this]
  congr 1
  have hr : j % 8 < 8 := Nat.mod_lt _ (by decide)
  generalize j % 8 = r at hr
  match r, hr with
  | 0, _ | 1, _ | 2, _ | 3, _ | 4, _ | 5, _ | 6, _ | 7, _ => rfl
theorem pkL_byteN (bs : List Int) (k m : Nat) (h0 : ∀ k, 0 ≤ bs.getD k 0) (h : BitsN bs k) : ∀ i, 0 ≤ (pkL bs k m).getD i 0 ∧ (pkL bs k m).getD i 0 ≤ 255 := by
  have e : pkL bs k m = pkL (bs.take k) k m := by
    unfold pkL
    exact List.map_congr_left fun i _ => (byV_take bs k k i (Nat.le_refl _)).symm
  rw [e]
  exact pkL_byte _ (bits_take bs k h0 h) k m

set_option maxRecDepth 10000 in
set_option maxHeartbeats 8000000 in
theorem specCascadeBytes_any (a : Option Addr) (n c : Nat) (bss : List (List Int)) (w : World) (h : Rows2 w a n bss) (hn : n ≤ 1048576) (ht : total bss ≤ 5000000) :
    Calls Try.prog 19 #[.agg #[.slice a n c]] w (CbR bss w) := by
  obtain ⟨i0, hi, hz0, hz1, hz2⟩ := info_parts Try.info5
  have HL : Hid (bss.length = n) := h.len
  have HT : Hid (total bss ≤ 5000000) := ht
  obtain ⟨wb, hwb⟩ : ∃ wb, wb = w.alloc (.cells #[.slice a n c] 25) := ⟨_, rfl⟩
  have hbb : Below w.heap.size w wb := by rw [hwb]; exact (Below.refl _ _).alloc (Nat.le_refl _) _
  have hbx : wb.heap[w.heap.size]? = some (.cells #[.slice a n c] 25) := by rw [hwb]; exact heap_alloc_new w _
  have hsz : w.heap.size < wb.heap.size := (Array.getElem?_eq_some_iff.1 hbx).1
  have kb : wb.cell? ⟨w.heap.size, 0, none⟩ = some (.slice a n c) := (cell_of_row _ _ 0 _ 25 (0, 0) hbx).trans rfl
  have HWB : Hid (_ = _) := hwb
  have HBB : Hid (Below w.heap.size w wb) := hbb
  have H0 : Hid (Rows2 w a n bss) := h
  clear hwb hbx h ht hbb
  go_enter Try.func19, Try.ntmps19
  go_upto_region 1 with fail
  rw [← HWB.out]
  clear HWB
  by_cases h30 : n ≤ 30
  · have h30' : (n : Int) ≤ 30 := by omega
    have h30d : decide ((30 : Int) < (n : Int)) = false := decide_eq_false (by omega)
    go_wp2_with fail
    refine (specPutNum_any n _ (by omega)).mono ?_
    rintro e w4 ⟨a4, c4, rfl, ho4, hb4⟩
    obtain ⟨n4, hn4⟩ : ∃ n4, n4 = (putI (n : Int)).length := ⟨_, rfl⟩
    have hn49 : n4 ≤ 9 := by rw [hn4]; exact putI_len _ (by omega)
    rw [← hn4] at ho4 ⊢
    have HO4 : Hid (Own wb.heap.size w4 a4 n4 c4 (putI (n : Int))) := ho4
    clear hn4 ho4
    go_wp2
    go_loopw [4, 5, 6] (fun o s i wr => ∃ (k m cc t : Nat) (ao : Option Addr), k ≤ n ∧ i = .int .i64 k ∧ o = .slice ao m cc ∧ s = .int .i64 t ∧ m ≤ 9 + 9 * k + t ∧ t ≤ 160000 ∧ Hid (t = total (bss.take k)) ∧ Hid (NoEmpty bss k) ∧ Hid (AllB bss k) ∧ Hid (Own wb.heap.size wr ao m cc (putI (n : Int) ++ cbRest (bss.take k))) ∧ Below wb.heap.size wb wr) (fun _ _ i _ => n - (intOf i).toNat)
    case atStart => exact ⟨0, n4, c4, 0, a4, Nat.zero_le _, rfl, rfl, rfl, by omega, by decide, by show _ = _; simp [total], fun j hj => absurd hj (Nat.not_lt_zero _), fun j hj => absurd hj (Nat.not_lt_zero _), by show Own _ _ _ _ _ _; simpa [cbRest] using HO4.out, hb4⟩
    case round =>
      obtain ⟨k, m, cc, t, ao, hk, rfl, rfl, rfl, hmb, ht1, HTK, HNE, HAB, HOR, hbr⟩ := hrel
      clear HO4 hb4
      have hws := hbr.size
      have kr : wr.cell? ⟨w.heap.size, 0, none⟩ = some (.slice a n c) := (hbr.cell (p := ⟨w.heap.size, 0, none⟩) hsz).trans kb
      have HBW : Hid (Below w.heap.size w wr) := keepT HBB.out hbr
      by_cases hlt : k < n
      · obtain ⟨b, off, rfl, hb, ak, nk, ck, hc, hrk, hnk⟩ := H0.out.get k hlt
        have hcr : wr.cell? ⟨b, off + k, none⟩ = some (.slice ak nk ck) := (HBW.out.cell (p := ⟨b, off + k, none⟩) hb).trans hc
        have hbw : b < wr.heap.size := by have := HBW.out.size; omega
        have hgw : w.heap.size < wr.heap.size := by omega
        have hkl : k < bss.length := by rw [HL.out]; exact hlt
        have hlti : (k : Int) < (n : Int) := by omega
        have HSP : Hid (total (bss.take (k + 1)) = t + nk) := by show _ = _; rw [total_split bss k hkl, hrk.len, HTK.out]
        have htn : t + nk ≤ 5000000 := by have := HSP.out; have := total_take bss (k + 1); have := HT.out; omega
        have HLN : Hid ((bss.getD k []).length = nk) := hrk.len
        have HRK : Hid (Row w ak nk (bss.getD k [])) := hrk
        clear hc hrk hnk
        by_cases h0 : nk = 0
        · subst h0
          have HN : Hid (¬ cbP bss) := fun q => by
            have := q.1.2 k hkl
            rw [HLN.out] at this
            exact absurd this (Nat.lt_irrefl _)
          go_wp2
          go_ret2
          exact cbR_f0 HN.out HBW.out
        · have h0' : ¬ ((nk : Int) = 0) := by omega
          have h0d : ((nk : Int) == 0) = false := by simpa using h0'
          by_cases hbig : 160000 < t + nk
          · have hbig' : (160000 : Int) < (t : Int) + (nk : Int) := by omega
            have HN : Hid (¬ cbP bss) := fun q => by
              have h1 := q.2.1
              have h2 := total_take bss (k + 1)
              rw [HSP.out] at h2
              omega
            go_wp2
            go_ret2
            exact cbR_f0 HN.out HBW.out
          · have hbig' : ¬ ((160000 : Int) < (t : Int) + (nk : Int)) := by omega
            have hbigd : decide ((160000 : Int) < (t : Int) + (nk : Int)) = false := decide_eq_false hbig'
            obtain ⟨m7, hm7⟩ : ∃ m7, m7 = (nk + 7) / 8 := ⟨_, rfl⟩
            have hq7 : ((nk : Int) + 7) / 8 = (m7 : Int) := by omega
            have hm70 : 8 * m7 ≤ nk + 7 := by omega
            have HM7 : Hid (m7 = (nk + 7) / 8) := hm7
            have HM8 : Hid (nk ≤ 8 * m7) := by show _ ≤ _; omega
            clear hm7
            go_wp2_with (at_make; refine wpList_make_full _ rfl _ _ 41 rfl wr.heap.size 5 i0 (.int .u8 0) 1 Try.underlying41 hi hz0 hz1 _ _ _ _ m7 rfl rfl (by first | exact hq7 | rfl) (by first | exact hq7 | rfl) (by rw [hz2]; omega) (by unfold maxLen; omega) (by exact Nat.le_refl _) ?_; intro w6 hown6 hgrow6)
            have hb6 : Below wr.heap.size wr w6 := (Below.refl _ _).grown hgrow6 (Nat.le_refl _) (by simp)
            have HO6 : Hid (Own wr.heap.size w6 (some ⟨wr.heap.size, 0, none⟩) m7 m7 (pkL (bss.getD k []) 0 m7)) := by rw [← pkL_zero]; exact own_made hown6
            clear hown6 hgrow6
            obtain ⟨wo, hwo⟩ : ∃ wo, wo = wr := ⟨_, rfl⟩
            subst hwo
            go_loopw [9] (fun i wi => ∃ j : Nat, j ≤ nk ∧ i = .int .i64 j ∧ Hid (BitsN (bss.getD k []) j) ∧ Hid (Own wo.heap.size wi (some ⟨wo.heap.size, 0, none⟩) m7 m7 (pkL (bss.getD k []) j m7)) ∧ Below wo.heap.size wo wi) (fun i _ => nk - (intOf i).toNat)
            case atStart => exact ⟨0, Nat.zero_le _, rfl, fun j hj => absurd hj (Nat.not_lt_zero _), HO6, hb6⟩
            case round =>
              obtain ⟨j, hj, rfl, HBN, HOJ, hbj⟩ := hrel
              clear HO6 hb6
              have hsj := hbj.size
              by_cases hjl : j < nk
              · obtain ⟨b2, off2, rfl, hb2, hc2⟩ := HRK.out.get j hjl
                obtain ⟨v, hv⟩ : ∃ v, v = (bss.getD k []).getD j 0 := ⟨_, rfl⟩
                have HV : Hid (v = (bss.getD k []).getD j 0) := hv
                rw [← hv] at hc2
                have hcj : wr.cell? ⟨b2, off2 + j, none⟩ = some (.int .u8 v) := ((keepT HBW.out hbj).cell (p := ⟨b2, off2 + j, none⟩) hb2).trans hc2
                have hv0 : 0 ≤ v := by rw [hv]; exact (HRK.out.byte j).1
                have hbw2 : b2 < wr.heap.size := by have := (keepT HBW.out hbj).size; omega
                have hjli : (j : Int) < (nk : Int) := by omega
                clear hc2 hv
                by_cases h1 : v ≤ 1
                · have hod : wo.heap.size < wr.heap.size := ownsRow_lt HOJ.out.row
                  obtain ⟨q, hq⟩ : ∃ q : Nat, q = j / 8 := ⟨_, rfl⟩
                  have hqi : (j : Int) / 8 = (q : Int) := by omega
                  have hqm : q < m7 := by have := HM7.out; omega
                  have hqmi : (q : Int) < (m7 : Int) := by omega
                  have HQ : Hid (q = j / 8) := hq
                  obtain ⟨x, hx⟩ : ∃ x, x = byV (bss.getD k []) j (j / 8) := ⟨_, rfl⟩
                  have HX : Hid (x = byV (bss.getD k []) j (j / 8)) := hx
                  have jd : wr.cell? ⟨wo.heap.size, q, none⟩ = some (.int .u8 x) := by
                    rw [HOJ.out.row.cellAt q (by omega), hx, ← hq]
                    simp [pkL, hqm]
                  have fd : wr.frozen? ⟨wo.heap.size, q, none⟩ = false := HOJ.out.row.frozenAt q
                  obtain ⟨y, hy⟩ : ∃ y, y = byV (bss.getD k []) (j + 1) (j / 8) := ⟨_, rfl⟩
                  have HY : Hid (y = byV (bss.getD k []) (j + 1) (j / 8)) := hy
                  clear hq hx hy
                  rcases (show v = 0 ∨ v = 1 by omega) with rfl | rfl
                  · have HNB : Hid (BitsN (bss.getD k []) (j + 1)) := fun l hl => by
                      by_cases e : l < j
                      · exact HBN.out l e
                      · obtain rfl : l = j := by omega
                        rw [← HV.out]; decide
                    have hsh : bits .or .u8 x 0 = y := by
                      rw [HY.out, HX.out]
                      exact or_bit0 (bss.getD k []) j (fun l => (HRK.out.byte l).1) HNB.out HV.out.symm
                    have HS : Hid (Own wo.heap.size (wr.setCell ⟨wo.heap.size, q, none⟩ (.int .u8 y)) (some ⟨wo.heap.size, 0, none⟩) m7 m7 (pkL (bss.getD k []) (j + 1) m7)) := by
                      refine ⟨?_, pkL_byteN _ _ _ (fun l => (HRK.out.byte l).1) HNB.out⟩
                      have h1 := (HOJ.out.row.stored q (.int .u8 y)).1
                      rw [← List.map_set, HQ.out, HY.out, pkL_set] at h1
                      rw [HQ.out, HY.out]; exact h1
                    have HB7 : Hid (Below wo.heap.size wo (wr.setCell ⟨wo.heap.size, q, none⟩ (.int .u8 y))) := hbj.setCell (Nat.le_refl _) _
                    clear HV HX HY HBN HOJ hbj
                    go_upto_region 18 with fail
                    go_region
                    go_wp2
                    go_roundw
                    case rel => exact ⟨j + 1, by omega, by go_num, HNB, HS.out.drew, HB7.out.drew⟩
                    case measure => simp [intOf]; omega
                  · have HNB : Hid (BitsN (bss.getD k []) (j + 1)) := fun l hl => by
                      by_cases e : l < j
                      · exact HBN.out l e
                      · obtain rfl : l = j := by omega
                        rw [← HV.out]; decide
                    have hsh : bits .or .u8 x (2 ^ (7 - j % 8) % 256) = y := by
                      rw [HY.out, HX.out]
                      exact or_bit1 (bss.getD k []) j (fun l => (HRK.out.byte l).1) HNB.out HV.out.symm
                    have HS : Hid (Own wo.heap.size (wr.setCell ⟨wo.heap.size, q, none⟩ (.int .u8 y)) (some ⟨wo.heap.size, 0, none⟩) m7 m7 (pkL (bss.getD k []) (j + 1) m7)) := by
                      refine ⟨?_, pkL_byteN _ _ _ (fun l => (HRK.out.byte l).1) HNB.out⟩
                      have h1 := (HOJ.out.row.stored q (.int .u8 y)).1
                      rw [← List.map_set, HQ.out, HY.out, pkL_set] at h1
                      rw [HQ.out, HY.out]; exact h1
                    have HB7 : Hid (Below wo.heap.size wo (wr.setCell ⟨wo.heap.size, q, none⟩ (.int .u8 y))) := hbj.setCell (Nat.le_refl _) _
                    clear HV HX HY HBN HOJ hbj
                    go_upto_region 18 with fail
                    go_region
                    go_wp2
                    go_roundw
                    case rel => exact ⟨j + 1, by omega, by go_num, HNB, HS.out.drew, HB7.out.drew⟩
                    case measure => simp [intOf]; omega
                · have h1' : 1 < v := by omega
                  have HN : Hid (¬ cbP bss) := fun q => h1 (by
                    have h2 := q.2.2 k hkl
                    rw [HV.out]
                    exact h2 j (by rw [HLN.out]; exact hjl))
                  have HBE : Hid (Below w.heap.size w wr) := keepT HBW.out hbj
                  clear h1
                  go_wp2
                  go_ret2
                  exact cbR_f0 HN.out HBE.out
              · obtain rfl : j = nk := by omega
                have HNE2 : Hid (NoEmpty bss (k + 1)) := fun l hl => by
                  by_cases e : l < k
                  · exact HNE.out l e
                  · obtain rfl : l = k := by omega
                    rw [HLN.out]; omega
                have HAB2 : Hid (AllB bss (k + 1)) := fun l hl => by
                  by_cases e : l < k
                  · exact HAB.out l e
                  · obtain rfl : l = k := by omega
                    rw [HLN.out]; exact HBN.out
                have HNX : Hid (putI (n : Int) ++ cbRest (bss.take (k + 1)) = ((putI (n : Int) ++ cbRest (bss.take k)) ++ putI (j : Int)) ++ pkL (bss.getD k []) j m7) := by
                  show _ = _
                  rw [cbRest_next bss k hkl, HLN.out]
                  unfold packL
                  rw [HLN.out, ← HM7.out]
                  simp [List.append_assoc]
                obtain ⟨ls, hls⟩ : ∃ ls, ls = putI (n : Int) ++ cbRest (bss.take k) := ⟨_, rfl⟩
                have HLS : Hid (ls = putI (n : Int) ++ cbRest (bss.take k)) := hls
                rw [← hls] at HOR HNX
                have hod : wo.heap.size < wr.heap.size := ownsRow_lt HOJ.out.row
                clear hls HBN HNE HAB hi
                obtain ⟨i0, hi, hz0, hz1, hz2⟩ := info_parts Try.info5
                go_wp2_with fail
                refine (specPutNum_any j _ (by omega)).mono ?_
                rintro e w8 ⟨a8, c8, rfl, ho8, hb8⟩
                obtain ⟨n8, hn8⟩ : ∃ n8, n8 = (putI (j : Int)).length := ⟨_, rfl⟩
                have hn89 : n8 ≤ 9 := by rw [hn8]; exact putI_len _ (by omega)
                rw [← hn8] at ho8 ⊢
                have hor8 : Own wb.heap.size w8 ao m cc ls := (HOR.out.kept hbj).kept hb8
                have HLO : Hid (∀ l, (Value.slice ao m cc).ownBlock = some l → wb.heap.size ≤ l ∧ l < wo.heap.size) := fun l hl => HOR.out.row.lt l hl
                have HBD : Hid (Own wo.heap.size w8 (some ⟨wo.heap.size, 0, none⟩) m7 m7 (pkL (bss.getD k []) j m7)) := HOJ.out.kept hb8
                have B8 : Below wb.heap.size wb w8 := hbr.trans ((hbj.trans (hb8.mono hsj)).mono hws)
                have s8 : wb.heap.size ≤ w8.heap.size := B8.size
                have HBY : Hid (∀ l, 0 ≤ ls.getD l 0 ∧ ls.getD l 0 ≤ 255) := HOR.out.byte
                clear hn8
                go_wp2_with (first | (at_builtin; refine wpList_append_row _ rfl (.tmp 80) (.tmp 83) 41 rfl wb.heap.size i0 Try.underlying41 hi hz0 hz1 hz2 _ _ _ rfl hor8.row a8 n8 c8 (putI (j : Int)) rfl ho8.toRow ho8.nil (by omega) s8 ?_; intro v9 w9 hv9 hg9; obtain ⟨a9, c9, rfl, ho9⟩ := own_appended (xs := ls) (ys := putI (j : Int)) hv9 HBY.out ho8.byte; have T9 : Touch wb.heap.size wo.heap.size w8 w9 := touch_grown hg9 HLO.out; have B9 : Below wb.heap.size wb w9 := B8.trans (T9.below (Nat.le_refl _) s8); have s9 : wb.heap.size ≤ w9.heap.size := B9.size; have R9 : Row w9 (some ⟨wo.heap.size, 0, none⟩) m7 (pkL (bss.getD k []) j m7) := HBD.out.toRow.touch HBD.out.in_ (.inr (Nat.le_refl _)) T9; have HBY9 : Hid (∀ l, 0 ≤ (ls ++ putI (j : Int)).getD l 0 ∧ (ls ++ putI (j : Int)).getD l 0 ≤ 255) := ho9.byte; clear hv9 hg9 T9) | (at_builtin; refine wpList_append_row _ rfl (.tmp 85) (.tmp 86) 41 rfl wb.heap.size i0 Try.underlying41 hi hz0 hz1 hz2 _ _ _ rfl ho9.row (some ⟨wo.heap.size, 0, none⟩) m7 m7 (pkL (bss.getD k []) j m7) rfl R9 (fun h => by cases h) (by omega) s9 ?_; intro v10 w10 hv10 hg10; obtain ⟨a10, c10, rfl, ho10⟩ := own_appended (xs := ls ++ putI (j : Int)) (ys := pkL (bss.getD k []) j m7) hv10 HBY9.out HBD.out.byte; have T10 : Touch wb.heap.size w9.heap.size w9 w10 := touch_grown hg10 (fun l hl => ho9.row.lt l hl); have B10 : Below wb.heap.size wb w10 := B9.trans (T10.below (Nat.le_refl _) s9); have HO10 : Hid (Own wb.heap.size w10 a10 (m + n8 + m7) c10 (ls ++ putI (j : Int) ++ pkL (bss.getD k []) j m7)) := ho10; clear hv10 hg10 T10 ho10))
                go_roundw
                case rel =>
                  refine ⟨k + 1, m + n8 + m7, c10, t + j, a10, by omega, by go_num, rfl, by go_num, by omega, by omega, HSP.out.symm, HNE2, HAB2, ?_, B10⟩
                  show Own _ _ _ _ _ _
                  rw [HNX.out]; exact HO10.out
                case measure => simp [intOf]; omega
      · obtain rfl : k = n := by omega
        have HLE : Hid (putI (k : Int) ++ cbRest (bss.take k) = cbL bss) := by show _ = _; rw [List.take_of_length_le (by rw [HL.out]; exact Nat.le_refl _)]; unfold cbL; rw [HL.out]
        have HCP : Hid (cbP bss) := ⟨by rw [HL.out]; exact ⟨h30, HNE.out⟩, by have h1 := HTK.out; rw [List.take_of_length_le (by rw [HL.out]; exact Nat.le_refl _)] at h1; omega, by rw [HL.out]; exact HAB.out⟩
        have HOE : Hid (Own w.heap.size wr ao m cc (cbL bss)) := by rw [← HLE.out]; exact HOR.out.mono (Nat.le_of_lt hsz)
        clear HOR HLE HTK HNE HAB hi hz0 hz1 hz2
        go_wp2
        go_ret2
        exact ⟨ao, m, cc, cbL bss, true, rfl, .inl ⟨rfl, HCP.out, rfl⟩, by omega, HOE.out, HBW.out⟩
  · have h30' : (30 : Int) < (n : Int) := by omega
    have HN : Hid (¬ cbP bss) := fun q => absurd q.1.1 (by rw [HL.out]; exact h30)
    go_wp2
    go_ret2
    exact cbR_f0 HN.out HBB.out

end Go.Proofs.Ytpnaopmpiobemaa
