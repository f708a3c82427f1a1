import Derived.Test.YtpnaopmpiobemaaR5
namespace Go.Proofs.Ytpnaopmpiobemaa
open Go.RowKit

theorem and_bt (x : Int) (r : Nat) (h0 : 0 ≤ x) (h1 : x ≤ 255) : bits .and .u8 (x / 2 ^ (7 - r)) 1 = btA x r := by
  obtain ⟨y, rfl⟩ := Int.eq_ofNat_of_zero_le h0
  have e : (y : Int) / 2 ^ (7 - r) = ((y / 2 ^ (7 - r) : Nat) : Int) := by simp
  have hl : y / 2 ^ (7 - r) < 256 := Nat.lt_of_le_of_lt (Nat.div_le_self _ _) (by omega)
  rw [e, and_one _ hl]
  unfold btA
  rw [e]
  simp

set_option maxRecDepth 10000 in
set_option maxHeartbeats 8000000 in
theorem specReadCascade_any (B0 : Nat) (a : Option Addr) (n : Nat) (bs : List Int) (w : World) (h : Own B0 w a n n bs) (hn : n ≤ 1048576) :
    Calls Try.prog 24 #[.slice a n n] w (RcR bs w) := by
  obtain ⟨i0, hi, hz0, hz1, hz2⟩ := info_parts Try.infoRow
  obtain ⟨j0, kj, kz0, kz1, kz2⟩ := info_parts Try.info5
  have H0 : Hid (Own B0 w a n n bs) := h
  have HR0 : Hid (Row w a n bs) := h.toRow
  have HL : Hid (bs.length = n) := h.toRow.len
  obtain ⟨wb, hwb⟩ : ∃ wb, wb = (w.alloc (.cells #[.slice none 0 0] 25)).alloc (.cells #[.slice none 0 0] 25) := ⟨_, rfl⟩
  have hss : wb.heap.size = w.heap.size + 2 := by rw [hwb]; simp
  have x1 : wb.heap[w.heap.size + 1]? = some (.cells #[.slice none 0 0] 25) := by rw [hwb]; have := heap_alloc_new (w.alloc (.cells #[.slice none 0 0] 25)) (.cells #[.slice none 0 0] 25 (0, 0)); simpa using this
  have x0 : wb.heap[w.heap.size]? = some (.cells #[.slice none 0 0] 25) := by rw [hwb]; exact (((Below.refl _ _).alloc (Nat.le_refl _) _).block w.heap.size (by simp)).trans (heap_alloc_new w _)
  have hbb : Below w.heap.size w wb := by rw [hwb]; exact ((Below.refl _ _).alloc (Nat.le_refl _) _).alloc (by simp) _
  have HX : Hid (wb.heap[w.heap.size]? = some (.cells #[.slice none 0 0] 25)) := x0
  have HX1 : Hid (wb.heap[w.heap.size + 1]? = some (.cells #[.slice none 0 0] 25)) := x1
  have k0 : wb.cell? ⟨w.heap.size, 0, none⟩ = some (.slice none 0 0) := (cell_of_row _ _ 0 _ 25 (0, 0) x0).trans rfl
  have f0 : wb.frozen? ⟨w.heap.size, 0, none⟩ = false := frozen_of_row wb _ 0 _ 25 x0
  have k1 : wb.cell? ⟨w.heap.size + 1, 0, none⟩ = some (.slice none 0 0) := (cell_of_row _ _ 0 _ 25 (0, 0) x1).trans rfl
  have hsz : w.heap.size + 1 < wb.heap.size := by omega
  have hsz0 : w.heap.size < wb.heap.size := by omega
  have HSS : Hid (wb.heap.size = w.heap.size + 2) := hss
  have HWB : Hid (_ = _) := hwb
  have HBB : Hid (Below w.heap.size w wb) := hbb
  clear hwb x0 x1 h hbb hss
  go_enter Try.func24, Try.ntmps24
  go_upto_region 2 with fail
  rw [← HWB.out]
  clear HWB
  go_wp2_with fail
  refine (specGetNum_any a n n bs 0 _ (HR0.out.kept HBB.out) (by omega)).mono ?_
  rintro e w1 ⟨rfl, hw1⟩
  subst hw1
  obtain ⟨⟨v, to, code⟩, hg⟩ : ∃ t, t = getN bs 0 := ⟨_, rfl⟩
  rw [← hg]
  unfold trip
  simp only
  have HG : Hid (getN bs 0 = (v, to, code)) := hg.symm
  clear hg
  by_cases hc : code = 0
  · subst hc
    obtain ⟨hv0, hv1, hto, htl, _⟩ := getN_ok (fun k => (HR0.out.byte k).1) HG.out
    rw [HL.out] at htl
    by_cases hbig : 30 < v
    · have HN : Hid (∀ bss, ¬ rcF bs bss) := by
        rintro bss ⟨⟨n', to', q, h1, h2, _⟩, _⟩
        rw [HG.out] at h1
        simp only [Prod.mk.injEq, and_true] at h1
        omega
      go_wp2
      have q1 := heap_setCell_same w1 w.heap.size 0 _ 25 (.slice none 0 0) HX.out
      try simp only [Exit.inBlock, Exit.then]
      exact bodyPost_ret (results_cs2 rfl _ w.heap.size rfl _ rfl _ _ q1) rfl (.inl ⟨HN.out, rfl, HBB.out.setCell (Nat.le_refl _) _⟩)
    · obtain ⟨N, rfl⟩ := Int.eq_ofNat_of_zero_le hv0
      have hN : N ≤ 30 := by omega
      have hbd : decide ((30 : Int) < (N : Int)) = false := decide_eq_false hbig
      clear k0 f0 k1
      go_wp2
      go_loopw [6, 8] (fun o i wr => ∃ (k cc : Nat) (p : Int) (ao : Option Addr) (qs : List Rw) (rs : List (List Int)), k ≤ N ∧ i = .int .i64 k ∧ o = .int .i64 p ∧ 0 ≤ p ∧ p ≤ n ∧ Hid (rdI bs to k = some (rs, p)) ∧ Hid (total rs ≤ 160000 * k) ∧ Hid (wr.heap[w.heap.size + 1]? = some (.cells #[.slice ao k cc] 25)) ∧ Hid (OwnC w1.heap.size wr ao k cc qs rs) ∧ Below (w.heap.size + 1) w1 wr) (fun _ i _ => N - (intOf i).toNat)
      case atStart => exact ⟨0, 0, to, none, [], [], Nat.zero_le _, rfl, rfl, by omega, htl, rfl, by show _ ≤ _; simp [total], HX1, ownC_none _ _, Below.refl _ _⟩
      case round =>
        obtain ⟨k, cc, p, ao, qs, rs, hk, rfl, rfl, hp0, hpn, HRD, HTR, HGR, HOC, hbr⟩ := hrel
        have hws := hbr.size
        have HBW : Hid (Below w.heap.size w wr) := HBB.out.trans (hbr.mono (Nat.le_succ _))
        have xr : wr.heap[w.heap.size]? = some (.cells #[.slice none 0 0] 25) := (hbr.block _ (Nat.lt_succ_self _)).trans HX.out
        have HXR : Hid (_ = _) := xr
        have kr : wr.cell? ⟨w.heap.size, 0, none⟩ = some (.slice none 0 0) := (cell_of_row _ _ 0 _ 25 (0, 0) xr).trans rfl
        have fr : wr.frozen? ⟨w.heap.size, 0, none⟩ = false := frozen_of_row wr _ 0 _ 25 xr
        have hrs : w.heap.size < wr.heap.size := by omega
        have hgr : w.heap.size + 1 < wr.heap.size := by omega
        clear xr
        by_cases hlt : k < N
        · have hlti : (k : Int) < (N : Int) := by omega
          go_wp2_with fail
          refine (specGetNum_any a n n bs p _ (HR0.out.kept HBW.out) (by omega)).mono ?_
          rintro e w2 ⟨rfl, hw2⟩
          subst hw2
          obtain ⟨⟨v2, t2, code2⟩, hg2⟩ : ∃ t, t = getN bs p := ⟨_, rfl⟩
          rw [← hg2]
          unfold trip
          simp only
          have HG2 : Hid (getN bs p = (v2, t2, code2)) := hg2.symm
          clear hg2
          by_cases hc2 : code2 = 0
          · subst hc2
            obtain ⟨gv0, gv1, gto, gtl, _⟩ := getN_ok (fun k => (HR0.out.byte k).1) HG2.out
            rw [HL.out] at gtl
            by_cases hbig2 : 160000 < v2
            · have HN : Hid (∀ bss, ¬ rcF bs bss) := fun bss hf => rcQ_none HG.out (i := k + 1) (by rw [rdI, HRD.out]; simp only; unfold rdRow; rw [HG2.out]; simp only; rw [if_pos (.inr (.inl hbig2))]) (by omega) bss hf.1
              go_wp2
              have q1 := heap_setCell_same w2 w.heap.size 0 _ 25 (.slice none 0 0) HXR.out
              try simp only [Exit.inBlock, Exit.then]
              exact bodyPost_ret (results_cs2 rfl _ w.heap.size rfl _ rfl _ _ q1) rfl (.inl ⟨HN.out, rfl, HBW.out.setCell (Nat.le_refl _) _⟩)
            · obtain ⟨cnt, rfl⟩ := Int.eq_ofNat_of_zero_le gv0
              obtain ⟨t, rfl⟩ := Int.eq_ofNat_of_zero_le (show 0 ≤ t2 by omega)
              obtain ⟨m7, hm7⟩ : ∃ m7, m7 = (cnt + 7) / 8 := ⟨_, rfl⟩
              have hq8 : ((cnt : Int) + 7) / 8 = (m7 : Int) := by omega
              have hcn : cnt ≤ 160000 := by omega
              have hcnd : decide ((160000 : Int) < (cnt : Int)) = false := decide_eq_false hbig2
              have htn : t ≤ n := by omega
              have hm7b : m7 ≤ 20000 := by omega
              have HM7 : Hid (m7 = (cnt + 7) / 8) := hm7
              have HQ8 : Hid (((cnt : Int) + 7) / 8 = (m7 : Int)) := hq8
              clear hm7
              by_cases hlong : n < t + m7
              · have hlong' : (n : Int) < (t : Int) + (m7 : Int) := by omega
                have HN : Hid (∀ bss, ¬ rcF bs bss) := fun bss hf => rcQ_none HG.out (i := k + 1) (by rw [rdI, HRD.out]; simp only; unfold rdRow; rw [HG2.out]; simp only; rw [if_pos (.inr (.inr (by rw [HL.out]; omega)))]) (by omega) bss hf.1
                go_wp2
                have q1 := heap_setCell_same w2 w.heap.size 0 _ 25 (.slice none 0 0) HXR.out
                try simp only [Exit.inBlock, Exit.then]
                exact bodyPost_ret (results_cs2 rfl _ w.heap.size rfl _ rfl _ _ q1) rfl (.inl ⟨HN.out, rfl, HBW.out.setCell (Nat.le_refl _) _⟩)
              · have hlong' : ¬ ((n : Int) < (t : Int) + (m7 : Int)) := by omega
                have hlongd : decide ((n : Int) < (t : Int) + (m7 : Int)) = false := decide_eq_false hlong'
                have HSM : Hid (rdRow bs p = some (unL bs t cnt, (t : Int) + (m7 : Int))) := by
                  show _ = _
                  unfold rdRow
                  rw [HG2.out, HL.out]
                  simp only
                  rw [if_neg (by omega), HQ8.out]
                  simp
                have HRD2 : Hid (rdI bs to (k + 1) = some (rs ++ [unL bs t cnt], (t : Int) + (m7 : Int))) := by show _ = _; rw [rdI, HRD.out]; simp only; rw [HSM.out]
                have HTR2 : Hid (total (rs ++ [unL bs t cnt]) ≤ 160000 * (k + 1)) := by show _ ≤ _; rw [total_snoc, unL_len]; have := HTR.out; omega
                clear HSM HRD HTR
                go_wp2_with (at_make; refine wpList_make_full _ rfl _ _ 41 rfl w2.heap.size 5 j0 (.int .u8 0) 1 Try.underlying41 kj kz0 kz1 _ _ _ _ cnt rfl rfl rfl rfl (by rw [kz2]; omega) (by unfold maxLen; omega) (by exact Nat.le_refl _) ?_; intro w6 hown6 hgrow6)
                have hb6 : Below w2.heap.size w2 w6 := (Below.refl _ _).grown hgrow6 (Nat.le_refl _) (by simp)
                have HO6 : Hid (Own w2.heap.size w6 (some ⟨w2.heap.size, 0, none⟩) cnt cnt (unH bs t cnt 0)) := by rw [unH_zero]; exact own_made hown6
                clear hown6 hgrow6
                go_loopw [13] (fun i wi => ∃ j : Nat, j ≤ cnt ∧ i = .int .i64 j ∧ Hid (Own w2.heap.size wi (some ⟨w2.heap.size, 0, none⟩) cnt cnt (unH bs t cnt j)) ∧ Below w2.heap.size w2 wi) (fun i _ => cnt - (intOf i).toNat)
                case atStart => exact ⟨0, Nat.zero_le _, rfl, HO6, hb6⟩
                case round =>
                  obtain ⟨j, hj, rfl, HOJ, hbj⟩ := hrel
                  clear HO6 hb6
                  have hsj := hbj.size
                  have hd : w2.heap.size < wr.heap.size := ownsRow_lt HOJ.out.row
                  by_cases hjl : j < cnt
                  · have hjli : (j : Int) < (cnt : Int) := by omega
                    obtain ⟨b, off, ha, hb, hc0⟩ := HR0.out.get (t + j / 8) (by have := HM7.out; omega)
                    subst ha
                    obtain ⟨q, hq⟩ : ∃ q : Nat, q = j / 8 := ⟨_, rfl⟩
                    have hqi : (j : Int) / 8 = (q : Int) := by omega
                    have hqn : (t : Int) + (q : Int) < (n : Int) := by have := HM7.out; omega
                    obtain ⟨x, hx⟩ : ∃ x, x = bs.getD (t + j / 8) 0 := ⟨_, rfl⟩
                    have hxb := HR0.out.byte (t + j / 8)
                    rw [← hx] at hxb hc0
                    have hand := and_bt x (j % 8) hxb.1 hxb.2
                    obtain ⟨y, hy⟩ : ∃ y, y = btA x (j % 8) := ⟨_, rfl⟩
                    rw [← hy] at hand
                    have HY : Hid (y = btA (bs.getD (t + j / 8) 0) (j % 8)) := by rw [← hx]; exact hy
                    have jx : wr.cell? ⟨b, off + (t + q), none⟩ = some (.int .u8 x) := by
                      rw [hq]
                      exact ((keepT HBW.out hbj).cell (p := ⟨b, off + (t + j / 8), none⟩) hb).trans hc0
                    have hbw : b < wr.heap.size := by have := (keepT HBW.out hbj).size; omega
                    have fd : wr.frozen? ⟨w2.heap.size, j, none⟩ = false := HOJ.out.row.frozenAt j
                    obtain ⟨z, jd⟩ : ∃ z, wr.cell? ⟨w2.heap.size, j, none⟩ = some z := ⟨_, (HOJ.out.row.cellAt j (by omega)).trans (List.getElem?_eq_getElem (by simp [unH_len]; omega))⟩
                    have HS : Hid (Own w2.heap.size (wr.setCell ⟨w2.heap.size, j, none⟩ (.int .u8 y)) (some ⟨w2.heap.size, 0, none⟩) cnt cnt (unH bs t cnt (j + 1))) := by
                      refine ⟨?_, unH_byte _ _ _ _⟩
                      have h1 := (HOJ.out.row.stored j (.int .u8 y)).1
                      rw [← List.map_set, HY.out, unH_set] at h1
                      rw [HY.out]; exact h1
                    have HB7 : Hid (Below w2.heap.size w2 (wr.setCell ⟨w2.heap.size, j, none⟩ (.int .u8 y))) := hbj.setCell (Nat.le_refl _) _
                    clear hq hx hy hc0 HOJ hbj hi hz0 hz1 hz2 kj kz0 kz1 kz2
                    go_wp2
                    go_roundw
                    case rel => exact ⟨j + 1, by omega, by go_num, HS, HB7.out⟩
                    case measure => simp [intOf]; omega
                  · obtain rfl : j = cnt := by omega
                    have HGW : Hid (wr.heap[w.heap.size + 1]? = some (.cells #[.slice ao k cc] 25)) := (hbj.block _ hgr).trans HGR.out
                    have kg : wr.cell? ⟨w.heap.size + 1, 0, none⟩ = some (.slice ao k cc) := (cell_of_row _ _ 0 _ 25 (0, 0) HGW.out).trans rfl
                    have hg6 : w.heap.size + 1 < wr.heap.size := by omega
                    have HOC6 : Hid (OwnC w1.heap.size wr ao k cc qs rs) := HOC.out.kept hbj
                    have HO6 : Hid (Own w1.heap.size wr (some ⟨w2.heap.size, 0, none⟩) j j (unL bs t j)) := HOJ.out.mono hws
                    have HAP : Hid (∀ i l, i < k → (rwv (qs.getD i rw0)).ownBlock = some l → (rwv (some ⟨w2.heap.size, 0, none⟩, j)).ownBlock = some l → False) := fun i l hi' h1 h2 => by
                      have g1 := rows_lt HOC.out hi' h1
                      have g2 := HOJ.out.row.lt l h2
                      omega
                    have B6 : Below (w.heap.size + 1) w1 wr := hbr.trans (hbj.mono (by omega))
                    have HAL : Hid (Below wr.heap.size wr (wr.alloc (.cells #[.slice (some ⟨w2.heap.size, 0, none⟩) j j] 54))) := (Below.refl _ _).alloc (Nat.le_refl _) _
                    have HOR : Hid (_) := HOC6.out.row.alloc (.cells #[.slice (some ⟨w2.heap.size, 0, none⟩) j j] 54)
                    have HCL : Hid (∀ jj uu, ([rwv (some ⟨w2.heap.size, 0, none⟩, j)] : List Value)[jj]? = some uu → (wr.alloc (.cells #[.slice (some ⟨w2.heap.size, 0, none⟩) j j] 54)).cell? ((⟨wr.heap.size, 0, none⟩ : Addr).add jj) = some uu) := by
                      intro jj uu hju
                      rw [Addr.add_lit, Nat.zero_add, cell_of_row _ wr.heap.size jj _ 54 _ (heap_alloc_new wr _), ← hju]
                      simp [rwv]
                    have hrw : w1.heap.size ≤ wr.heap.size := by omega
                    have hg1 : w.heap.size + 1 < w1.heap.size := hsz
                    clear HOJ hbj HOC HGR kj kz0 kz1 kz2 kr fr
                    go_wp2_with (at_builtin; refine wpList_append_own _ rfl _ _ 23 rfl w1.heap.size 54 i0 _ 1 24 Try.underlying23 hi hz0 hz1 hz2 rfl (by decide) _ k _ rfl HOR.out ⟨wr.heap.size, 0, none⟩ 1 1 [rwv (some ⟨w2.heap.size, 0, none⟩, j)] rfl rfl HCL.out (by intro u hu; simp at hu; subst hu; rfl) (by unfold maxLen; omega) (by omega) (by simp; omega) ?_; intro v7 w7 hv7 hg7 _; obtain ⟨a7, c7, rfl⟩ := owns_shapeC hv7; have bl : Below w1.heap.size wr w7 := ((Below.refl w1.heap.size wr).alloc hrw _).grown hg7 (by simp; omega) (fun l hl => (HOC6.out.row.lt l hl).1); have HG7 : Hid (w7.heap[w.heap.size + 1]? = some (.cells #[.slice ao k cc] 25)) := (bl.block _ hg1).trans HGW.out; have k7 : w7.cell? ⟨w.heap.size + 1, 0, none⟩ = some (.slice ao k cc) := (cell_of_row _ _ 0 _ 25 (0, 0) HG7.out).trans rfl; have f7 : w7.frozen? ⟨w.heap.size + 1, 0, none⟩ = false := frozen_of_row w7 _ 0 _ 25 HG7.out; have s7 : w.heap.size + 1 < w7.heap.size := (Array.getElem?_eq_some_iff.1 HG7.out).1; have HO7 : Hid (OwnC w1.heap.size w7 a7 (k + 1) c7 (qs ++ [(some ⟨w2.heap.size, 0, none⟩, j)]) (rs ++ [unL bs t j])) := (HOC6.out.kept HAL.out).appended (HO6.out.kept HAL.out) HAP.out (by rw [List.map_append]; exact hv7) hg7; have HB7 : Hid (Below (w.heap.size + 1) w1 w7) := B6.trans (bl.mono (by omega)); clear hv7 hg7 bl)
                    have HG8 : Hid ((w7.setCell ⟨w.heap.size + 1, 0, none⟩ (.slice a7 (k + 1) c7)).heap[w.heap.size + 1]? = some (.cells #[.slice a7 (k + 1) c7] 25)) := (heap_setCell_same w7 (w.heap.size + 1) 0 _ 25 _ HG7.out).trans rfl
                    have HO8 : Hid (OwnC w1.heap.size (w7.setCell ⟨w.heap.size + 1, 0, none⟩ (.slice a7 (k + 1) c7)) a7 (k + 1) c7 (qs ++ [(some ⟨w2.heap.size, 0, none⟩, j)]) (rs ++ [unL bs t j])) := HO7.out.same fun l hl => Below.heap_setCell _ _ _ _ (by show l ≠ w.heap.size + 1; omega)
                    have HB8 : Hid (Below (w.heap.size + 1) w1 (w7.setCell ⟨w.heap.size + 1, 0, none⟩ (.slice a7 (k + 1) c7))) := HB7.out.setCell (Nat.le_refl _) _
                    go_roundw
                    case rel => exact ⟨k + 1, c7, (t : Int) + (m7 : Int), a7, _, rs ++ [unL bs t j], by omega, by go_num, rfl, by omega, by omega, HRD2, HTR2, HG8, HO8, HB8.out⟩
                    case measure => simp [intOf]; omega
          · have HN : Hid (∀ bss, ¬ rcF bs bss) := fun bss hf => rcQ_none HG.out (i := k + 1) (by rw [rdI, HRD.out]; simp only; unfold rdRow; rw [HG2.out]; simp only; rw [if_pos (.inl hc2)]) (by omega) bss hf.1
            go_wp2
            have q1 := heap_setCell_same w2 w.heap.size 0 _ 25 (.slice none 0 0) HXR.out
            try simp only [Exit.inBlock, Exit.then]
            exact bodyPost_ret (results_cs2 rfl _ w.heap.size rfl _ rfl _ _ q1) rfl (.inl ⟨HN.out, rfl, HBW.out.setCell (Nat.le_refl _) _⟩)
        · obtain rfl : k = N := by omega
          have HRQ : Hid (rcQ bs rs) := ⟨_, _, p, HG.out, by omega, by simpa using HRD.out⟩
          have HTT : Hid (total rs ≤ 5000000) := by show _ ≤ _; have := HTR.out; omega
          have kg : wr.cell? ⟨w.heap.size + 1, 0, none⟩ = some (.slice ao k cc) := (cell_of_row _ _ 0 _ 25 (0, 0) HGR.out).trans rfl
          clear HRD HTR hi hz0 hz1 hz2 kj kz0 kz1 kz2 kr fr
          go_wp2_with fail
          refine (specCascadeBytes_any ao k cc rs _ HOC.out.rows (by omega) HTT.out).mono ?_
          rintro e w3 ⟨a3, n3, c3, ls, ok, rfl, HR3, hn3, ho3, hb3⟩
          have x3 : w3.heap[w.heap.size]? = some (.cells #[.slice none 0 0] 25) := (hb3.block _ hrs).trans HXR.out
          have HX3 : Hid (_ = _) := x3
          have k3 : w3.cell? ⟨w.heap.size, 0, none⟩ = some (.slice none 0 0) := (cell_of_row _ _ 0 _ 25 (0, 0) x3).trans rfl
          have f3 : w3.frozen? ⟨w.heap.size, 0, none⟩ = false := frozen_of_row w3 _ 0 _ 25 x3
          have s3 : w.heap.size < w3.heap.size := (Array.getElem?_eq_some_iff.1 x3).1
          have kc : w3.cell? ⟨w.heap.size + 1, 0, none⟩ = some (.slice ao k cc) := (hb3.cell (p := ⟨w.heap.size + 1, 0, none⟩) hgr).trans kg
          have sc : w.heap.size + 1 < w3.heap.size := by have := hb3.size; omega
          have HO3 : Hid (OwnC w1.heap.size w3 ao k cc qs rs) := HOC.out.kept hb3
          have HB3 : Hid (Below w.heap.size w w3) := keepT HBW.out hb3
          have HOL : Hid (Own wr.heap.size w3 a3 n3 c3 ls) := ho3
          clear x3 kg ho3 HOC hb3
          cases ok with
          | false =>
            have HN : Hid (∀ b2, ¬ rcF bs b2) := fun b2 hf => by
              obtain rfl := rcQ_one HRQ.out hf.1
              rcases HR3.out with ⟨q, _⟩ | ⟨_, q, _⟩
              · cases q
              · exact q hf.2.1
            clear HR3
            go_wp2
            have q1 := heap_setCell_same w3 w.heap.size 0 _ 25 (.slice none 0 0) HX3.out
            try simp only [Exit.inBlock, Exit.then]
            exact bodyPost_ret (results_cs2 rfl _ w.heap.size rfl _ rfl _ _ q1) rfl (.inl ⟨HN.out, rfl, HB3.out.setCell (Nat.le_refl _) _⟩)
          | true =>
            have HCP : Hid (cbP rs ∧ ls = cbL rs) := by
              rcases HR3.out with ⟨_, q, r⟩ | ⟨q, _⟩
              · exact ⟨q, r⟩
              · cases q
            clear HR3
            go_wp2_with fail
            refine (l1Same_any wr.heap.size B0 a3 a n3 n c3 n ls bs _ HOL.out (H0.out.kept HB3.out)).mono ?_
            rintro e w4 ⟨rfl, hw4⟩
            subst hw4
            by_cases hq : ls = bs
            · rw [decide_eq_true hq]
              have HF : Hid (rcF bs rs) := ⟨HRQ.out, HCP.out.1, by rw [← HCP.out.2]; exact hq⟩
              clear hq
              go_wp2
              have q1 := heap_setCell_same w4 w.heap.size 0 _ 25 (.slice ao k cc) HX3.out
              try simp only [Exit.inBlock, Exit.then]
              refine bodyPost_ret (results_cs2 rfl _ w.heap.size rfl _ rfl _ _ q1) rfl (.inr ⟨k, cc, ao, qs, rs, HF.out, hN, HF.out.2.1.2.1, rfl, ?_, HB3.out.setCell (Nat.le_refl _) _⟩)
              exact (HO3.out.same fun l hl => Below.heap_setCell _ _ _ _ (by show l ≠ w.heap.size; omega)).mono (by omega)
            · rw [decide_eq_false hq]
              have HN : Hid (∀ b2, ¬ rcF bs b2) := fun b2 hf => by
                obtain rfl := rcQ_one HRQ.out hf.1
                exact hq (HCP.out.2.trans hf.2.2)
              clear hq
              go_wp2
              have q1 := heap_setCell_same w4 w.heap.size 0 _ 25 (.slice none 0 0) HX3.out
              try simp only [Exit.inBlock, Exit.then]
              exact bodyPost_ret (results_cs2 rfl _ w.heap.size rfl _ rfl _ _ q1) rfl (.inl ⟨HN.out, rfl, HB3.out.setCell (Nat.le_refl _) _⟩)
  · have HN : Hid (∀ bss, ¬ rcF bs bss) := by
      rintro bss ⟨⟨n', to', q, h1, _⟩, _⟩
      rw [HG.out] at h1
      simp only [Prod.mk.injEq] at h1
      exact hc h1.2.2
    go_wp2
    have q1 := heap_setCell_same w1 w.heap.size 0 _ 25 (.slice none 0 0) HX.out
    try simp only [Exit.inBlock, Exit.then]
    exact bodyPost_ret (results_cs2 rfl _ w.heap.size rfl _ rfl _ _ q1) rfl (.inl ⟨HN.out, rfl, HBB.out.setCell (Nat.le_refl _) _⟩)

end Go.Proofs.Ytpnaopmpiobemaa
