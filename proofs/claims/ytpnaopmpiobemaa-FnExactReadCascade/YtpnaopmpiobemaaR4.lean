import Derived.Test.YtpnaopmpiobemaaR3
namespace Go.Proofs.Ytpnaopmpiobemaa
open Go.RowKit

set_option maxRecDepth 10000 in
set_option maxHeartbeats 4000000 in
theorem readRows_any (a : Option Addr) (n : Nat) (bs : List Int) (w : World) (h : Row w a n bs) (hn : n ≤ 1048576) :
    Calls Try.prog 48 #[.slice a n n] w (RsR bs w) := by
  obtain ⟨i0, hi, hz0, hz1, hz2⟩ := info_parts Try.infoRow
  have H0 : Hid (Row w a n bs) := h
  have HL : Hid (bs.length = n) := h.len
  obtain ⟨wb, hwb⟩ : ∃ wb, wb = w.alloc (.cells #[.slice none 0 0] 25) := ⟨_, rfl⟩
  have hbb : Below w.heap.size w wb := by rw [hwb]; exact (Below.refl _ _).alloc (Nat.le_refl _) _
  have hbx : wb.heap[w.heap.size]? = some (.cells #[.slice none 0 0] 25) := by rw [hwb]; exact heap_alloc_new w _
  have hsz : w.heap.size < wb.heap.size := (Array.getElem?_eq_some_iff.1 hbx).1
  have HX : Hid (wb.heap[w.heap.size]? = some (.cells #[.slice none 0 0] 25)) := hbx
  have kb : wb.cell? ⟨w.heap.size, 0, none⟩ = some (.slice none 0 0) := (cell_of_row _ _ 0 _ 25 (0, 0) hbx).trans rfl
  have fb : wb.frozen? ⟨w.heap.size, 0, none⟩ = false := frozen_of_row wb _ 0 _ 25 hbx
  have HWB : Hid (_ = _) := hwb
  have HBB : Hid (Below w.heap.size w wb) := hbb
  clear hwb hbx h hbb
  go_enter Try.func48, Try.ntmps48
  go_upto_region 1 with fail
  rw [← HWB.out]
  clear HWB
  go_wp2_with fail
  refine (implGetNum_any a n n bs 0 _ (H0.out.kept HBB.out) (by omega)).mono ?_
  rintro e w1 ⟨rfl, hw1⟩
  subst hw1
  obtain ⟨⟨v, to, code⟩, hg⟩ : ∃ t, t = getN bs 0 := ⟨_, rfl⟩
  rw [← hg]
  unfold trip
  simp only
  have HG : Hid (getN bs 0 = (v, to, code)) := hg.symm
  clear hg
  by_cases hc : code = 0
  · subst hc
    obtain ⟨hv0, hv1, hto, htl, _⟩ := getN_ok (fun k => (H0.out.byte k).1) HG.out
    rw [HL.out] at htl
    by_cases hbig : 30 < v
    · have HN : Hid (∀ bss, ¬ rcQ bs bss) := by
        rintro bss ⟨n', to', q, h1, h2, _⟩
        rw [HG.out] at h1
        simp only [Prod.mk.injEq, and_true] at h1
        omega
      go_wp2
      have q1 := heap_setCell_same w1 w.heap.size 0 _ 25 (.slice none 0 0) HX.out
      try simp only [Exit.inBlock, Exit.then]
      exact bodyPost_ret (results_cs2 rfl _ w.heap.size rfl _ rfl _ _ q1) rfl (.inl ⟨HN.out, rfl, HBB.out.setCell (Nat.le_refl _) _⟩)
    · obtain ⟨N, rfl⟩ := Int.eq_ofNat_of_zero_le hv0
      have hN : N ≤ 30 := by omega
      have hbd : decide ((30 : Int) < (N : Int)) = false := decide_eq_false hbig
      obtain ⟨w2, hw2⟩ : ∃ w2, w2 = w1.alloc (.cells #[.slice none 0 0] 25) := ⟨_, rfl⟩
      have hb2 : Below w1.heap.size w1 w2 := by rw [hw2]; exact (Below.refl _ _).alloc (Nat.le_refl _) _
      have HX2 : Hid (w2.heap[w1.heap.size]? = some (.cells #[.slice none 0 0] 25)) := by show _ = _; rw [hw2]; exact heap_alloc_new w1 _
      have HW2 : Hid (_ = _) := hw2
      clear hw2 kb fb
      go_upto_region 5 with fail
      rw [← HW2.out]
      clear HW2
      go_wp2
      go_loopw [5, 25] (fun o i wr => ∃ (k cc : Nat) (p : Int) (ao : Option Addr) (qs : List Rw) (rs : List (List Int)), k ≤ N ∧ i = .int .i64 k ∧ o = .int .i64 p ∧ 0 ≤ p ∧ p ≤ n ∧ Hid (rdI bs to k = some (rs, p)) ∧ Hid (total rs ≤ 160000 * k) ∧ Hid (wr.heap[w1.heap.size]? = some (.cells #[.slice ao k cc] 25)) ∧ Hid (OwnC (w1.heap.size + 1) wr ao k cc qs rs) ∧ Below w1.heap.size w1 wr) (fun _ i _ => N - (intOf i).toNat)
      case atStart => exact ⟨0, 0, to, none, [], [], Nat.zero_le _, rfl, rfl, by omega, htl, rfl, by show _ ≤ _; simp [total], HX2, ownC_none _ _, hb2⟩
      case round =>
        obtain ⟨k, cc, p, ao, qs, rs, hk, rfl, rfl, hp0, hpn, HRD, HTR, HGR, HOC, hbr⟩ := hrel
        clear HX2 hb2
        have hws := hbr.size
        have xr : wr.heap[w.heap.size]? = some (.cells #[.slice none 0 0] 25) := (hbr.block _ hsz).trans HX.out
        by_cases hlt : k < N
        · have hlti : (k : Int) < (N : Int) := by omega
          go_wp2_with fail
          refine (readRow_any a n bs p _ (H0.out.kept (keepT HBB.out hbr)) hn).mono ?_
          rintro e w5 (⟨hnone, rfl, hb5⟩ | ⟨m, q, bits, a5, hsome, hpq, hql, hm, rfl, ho5, hb5⟩)
          · have HN : Hid (∀ bss, ¬ rcQ bs bss) := rcQ_none HG.out (i := k + 1) (by rw [rdI, HRD.out]; simp only; rw [hnone]) (by omega)
            have x5 : w5.heap[w.heap.size]? = some (.cells #[.slice none 0 0] 25) := (hb5.block _ (by omega)).trans xr
            have B5 : Below w.heap.size w w5 := keepT (keepT HBB.out hbr) hb5
            have s5 := hb5.size
            obtain ⟨w6, hw6⟩ : ∃ w6, w6 = w5.alloc (.cells #[.slice none 0 0] 54) := ⟨_, rfl⟩
            have B6 : Below w.heap.size w w6 := by rw [hw6]; exact B5.alloc B5.size _
            have x6 : w6.heap[w.heap.size]? = some (.cells #[.slice none 0 0] 25) := by rw [hw6]; exact (((Below.refl w5.heap.size w5).alloc (Nat.le_refl _) _).block _ (by omega)).trans x5
            have HX6 : Hid (_ = _) := x6
            have HW6 : Hid (_ = _) := hw6
            have k6 : w6.cell? ⟨w.heap.size, 0, none⟩ = some (.slice none 0 0) := (cell_of_row _ _ 0 _ 25 (0, 0) x6).trans rfl
            have f6 : w6.frozen? ⟨w.heap.size, 0, none⟩ = false := frozen_of_row w6 _ 0 _ 25 x6
            have s6 : w.heap.size < w6.heap.size := (Array.getElem?_eq_some_iff.1 x6).1
            clear hnone hw6 x6 x5 xr HRD HTR HGR HOC
            go_upto_region 8 with fail
            rw [← HW6.out]
            clear HW6
            go_wp2
            have q1 := heap_setCell_same w6 w.heap.size 0 _ 25 (.slice none 0 0) HX6.out
            try simp only [Exit.inBlock, Exit.then]
            exact bodyPost_ret (results_cs2 rfl _ w.heap.size rfl _ rfl _ _ q1) rfl (.inl ⟨HN.out, rfl, B6.setCell (Nat.le_refl _) _⟩)
          · have HRD2 : Hid (rdI bs to (k + 1) = some (rs ++ [bits], q)) := by show _ = _; rw [rdI, HRD.out]; simp only; rw [hsome]
            have hbl : bits.length = m := ho5.length
            have HTR2 : Hid (total (rs ++ [bits]) ≤ 160000 * (k + 1)) := by show _ ≤ _; rw [total_snoc, hbl]; have := HTR.out; omega
            have hq0 : 0 ≤ q := by omega
            have hqn : q ≤ n := by rw [← HL.out]; exact hql
            obtain ⟨w6, hw6⟩ : ∃ w6, w6 = w5.alloc (.cells #[.slice a5 m m] 54) := ⟨_, rfl⟩
            have hb6 : Below w5.heap.size w5 w6 := by rw [hw6]; exact (Below.refl _ _).alloc (Nat.le_refl _) _
            have x6 : w6.heap[w5.heap.size]? = some (.cells #[.slice a5 m m] 54) := by rw [hw6]; exact heap_alloc_new w5 _
            have D6 : Below wr.heap.size wr w6 := keepT hb5 hb6
            have HW6 : Hid (_ = _) := hw6
            have k6 : w6.cell? ⟨w5.heap.size, 0, none⟩ = some (.slice a5 m m) := (cell_of_row _ _ 0 _ 54 (0, 0) x6).trans rfl
            have s6 : w5.heap.size < w6.heap.size := (Array.getElem?_eq_some_iff.1 x6).1
            have hgr : w1.heap.size < wr.heap.size := (Array.getElem?_eq_some_iff.1 HGR.out).1
            have HG6 : Hid (w6.heap[w1.heap.size]? = some (.cells #[.slice ao k cc] 25)) := (D6.block _ hgr).trans HGR.out
            have kg : w6.cell? ⟨w1.heap.size, 0, none⟩ = some (.slice ao k cc) := (cell_of_row _ _ 0 _ 25 (0, 0) HG6.out).trans rfl
            have hg6 : w1.heap.size < w6.heap.size := by have := D6.size; omega
            have HOC6 : Hid (OwnC (w1.heap.size + 1) w6 ao k cc qs rs) := HOC.out.kept D6
            have HO6 : Hid (Own (w1.heap.size + 1) w6 a5 m m bits) := (ho5.kept hb6).mono (by omega)
            have HAP : Hid (∀ j l, j < k → (rwv (qs.getD j rw0)).ownBlock = some l → (rwv (a5, m)).ownBlock = some l → False) := fun j l hj h1 h2 => by
              have g1 := rows_lt HOC.out hj h1
              have g2 := ho5.row.lt l h2
              omega
            have B6 : Below w1.heap.size w1 w6 := keepT hbr D6
            clear hw6 x6 xr hsome HRD HTR ho5 hb5 hb6 D6 HOC HGR hbl
            go_upto_region 10 with fail
            rw [← HW6.out]
            clear HW6
            have hor := HOC6.out.row.alloc (.cells #[.slice a5 m m] 54)
            have hcl : ∀ jj uu, ([rwv (a5, m)] : List Value)[jj]? = some uu → (w6.alloc (.cells #[.slice a5 m m] 54)).cell? ((⟨w6.heap.size, 0, none⟩ : Addr).add jj) = some uu := by
              intro jj uu hju
              rw [Addr.add_lit, Nat.zero_add, cell_of_row _ w6.heap.size jj _ 54 _ (heap_alloc_new w6 _), ← hju]
              simp [rwv]
            have HCL : Hid (_) := hcl
            have HOR : Hid (_) := hor
            clear hcl hor
            have HAL : Hid (Below w6.heap.size w6 (w6.alloc (.cells #[.slice a5 m m] 54))) := (Below.refl _ _).alloc (Nat.le_refl _) _
            go_wp2_with (at_builtin; refine wpList_append_own _ rfl _ _ 23 rfl (w1.heap.size + 1) 54 i0 _ 1 24 Try.underlying23 hi hz0 hz1 hz2 rfl (by decide) _ k _ rfl HOR.out ⟨w6.heap.size, 0, none⟩ 1 1 [rwv (a5, m)] rfl rfl HCL.out (by intro u hu; simp at hu; subst hu; rfl) (by unfold maxLen; omega) (by omega) (by simp; omega) ?_; intro v7 w7 hv7 hg7 _; obtain ⟨a7, c7, rfl⟩ := owns_shapeC hv7; have bl : Below (w1.heap.size + 1) w6 w7 := ((Below.refl (w1.heap.size + 1) w6).alloc (by omega) _).grown hg7 (by simp; omega) (fun j hj => (HOC6.out.row.lt j hj).1); have HG7 : Hid (w7.heap[w1.heap.size]? = some (.cells #[.slice ao k cc] 25)) := (bl.block _ (Nat.lt_succ_self _)).trans HG6.out; have k7 : w7.cell? ⟨w1.heap.size, 0, none⟩ = some (.slice ao k cc) := (cell_of_row _ _ 0 _ 25 (0, 0) HG7.out).trans rfl; have f7 : w7.frozen? ⟨w1.heap.size, 0, none⟩ = false := frozen_of_row w7 _ 0 _ 25 HG7.out; have s7 : w1.heap.size < w7.heap.size := (Array.getElem?_eq_some_iff.1 HG7.out).1; have HO7 : Hid (OwnC (w1.heap.size + 1) w7 a7 (k + 1) c7 (qs ++ [(a5, m)]) (rs ++ [bits])) := (HOC6.out.kept HAL.out).appended (HO6.out.kept HAL.out) HAP.out (by rw [List.map_append]; exact hv7) hg7; have HB7 : Hid (Below w1.heap.size w1 w7) := B6.trans (bl.mono (Nat.le_succ _)); clear hv7 hg7 bl)
            have HG8 : Hid ((w7.setCell ⟨w1.heap.size, 0, none⟩ (.slice a7 (k + 1) c7)).heap[w1.heap.size]? = some (.cells #[.slice a7 (k + 1) c7] 25)) := (heap_setCell_same w7 w1.heap.size 0 _ 25 _ HG7.out).trans rfl
            have HO8 : Hid (OwnC (w1.heap.size + 1) (w7.setCell ⟨w1.heap.size, 0, none⟩ (.slice a7 (k + 1) c7)) a7 (k + 1) c7 (qs ++ [(a5, m)]) (rs ++ [bits])) := HO7.out.same fun l hl => Below.heap_setCell _ _ _ _ (by show l ≠ w1.heap.size; omega)
            have HB8 : Hid (Below w1.heap.size w1 (w7.setCell ⟨w1.heap.size, 0, none⟩ (.slice a7 (k + 1) c7))) := HB7.out.setCell (Nat.le_refl _) _
            go_roundw
            case rel => exact ⟨k + 1, c7, q, a7, qs ++ [(a5, m)], rs ++ [bits], by omega, by go_num, rfl, hq0, hqn, HRD2, HTR2, HG8, HO8, HB8.out⟩
            case measure => simp [intOf]; omega
        · obtain rfl : k = N := by omega
          have HRC : Hid (rcQ bs rs) := ⟨_, _, p, HG.out, by omega, by simpa using HRD.out⟩
          have HTT : Hid (total rs ≤ 5000000) := by show _ ≤ _; have := HTR.out; omega
          have HOE : Hid (OwnC (w1.heap.size + 1) wr ao k cc qs rs) := HOC
          have kg : wr.cell? ⟨w1.heap.size, 0, none⟩ = some (.slice ao k cc) := (cell_of_row _ _ 0 _ 25 (0, 0) HGR.out).trans rfl
          have hgr : w1.heap.size < wr.heap.size := (Array.getElem?_eq_some_iff.1 HGR.out).1
          have kr : wr.cell? ⟨w.heap.size, 0, none⟩ = some (.slice none 0 0) := (cell_of_row _ _ 0 _ 25 (0, 0) xr).trans rfl
          have fr : wr.frozen? ⟨w.heap.size, 0, none⟩ = false := frozen_of_row wr _ 0 _ 25 xr
          have HXR : Hid (_ = _) := xr
          have hrs : w.heap.size < wr.heap.size := by omega
          clear xr HRD HTR HGR HOC hi hz0 hz1 hz2
          go_wp2
          have q1 := heap_setCell_same wr w.heap.size 0 _ 25 (.slice ao k cc) HXR.out
          try simp only [Exit.inBlock, Exit.then]
          refine bodyPost_ret (results_cs2 rfl _ w.heap.size rfl _ rfl _ _ q1) rfl (.inr ⟨k, cc, ao, qs, rs, HRC.out, hN, HTT.out, rfl, ?_, (keepT HBB.out hbr).setCell (Nat.le_refl _) _⟩)
          exact (HOE.out.same fun l hl => Below.heap_setCell _ _ _ _ (by show l ≠ w.heap.size; omega)).mono (by omega)
  · have HN : Hid (∀ bss, ¬ rcQ bs bss) := by
      rintro bss ⟨n', to', q, h1, _⟩
      rw [HG.out] at h1
      simp only [Prod.mk.injEq] at h1
      exact hc h1.2.2
    go_wp2
    have q1 := heap_setCell_same w1 w.heap.size 0 _ 25 (.slice none 0 0) HX.out
    try simp only [Exit.inBlock, Exit.then]
    exact bodyPost_ret (results_cs2 rfl _ w.heap.size rfl _ rfl _ _ q1) rfl (.inl ⟨HN.out, rfl, HBB.out.setCell (Nat.le_refl _) _⟩)

end Go.Proofs.Ytpnaopmpiobemaa
