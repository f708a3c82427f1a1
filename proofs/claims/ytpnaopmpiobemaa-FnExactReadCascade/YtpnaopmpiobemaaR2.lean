import Derived.Test.YtpnaopmpiobemaaR1p
namespace Go.Proofs.Ytpnaopmpiobemaa
open Go.RowKit

theorem results_rw3 {fn : Func} {t u v : Tmp} (h : fn.results = #[.cell t 54, .tmp u, .tmp v]) (tmps : Array Value) (g : Nat) (ht : tmps.getD t undef = .pointer (some ⟨g, 0, none⟩)) (x y : Value) (hu : tmps.getD u undef = x) (hv : tmps.getD v undef = y) (w : World) (c0 : Value)
    (hb : w.heap[g]? = some (.cells #[c0] 54 (0, 0))) : (results fn tmps).run Try.prog w = .ok (.tuple #[.agg #[c0], x, y]) w := by
  have d0 : w.cell? ⟨g, 0, none⟩ = some c0 := (cell_of_row _ g 0 _ 54 (0, 0) hb).trans rfl
  clear hb
  have ht' : tmps[t]?.getD undef = .pointer (some ⟨g, 0, none⟩) := by rw [← ht]; simp
  have hu' : tmps[u]?.getD undef = x := by rw [← hu]; simp
  have hv' : tmps[v]?.getD undef = y := by rw [← hv]; simp
  simp [results, h, go_sem, ht', hu', hv', d0]
def RdR (bs : List Int) (p : Int) (w : World) (e : Ending) (w' : World) : Prop :=
  (rdRow bs p = none ∧ e = .returned (.tuple #[.agg #[.slice none 0 0], .int .i64 0, .bool false]) ∧ Below w.heap.size w w') ∨
  ∃ (m : Nat) (q : Int) (bits : List Int) (a : Option Addr), rdRow bs p = some (bits, q) ∧ p ≤ q ∧ q ≤ bs.length ∧ m ≤ 160000 ∧ e = .returned (.tuple #[.agg #[.slice a m m], .int .i64 q, .bool true]) ∧ Own (w.heap.size + 1) w' a m m bits ∧ Below w.heap.size w w'

set_option maxRecDepth 10000 in
set_option maxHeartbeats 4000000 in
theorem readRow_any (a : Option Addr) (n : Nat) (bs : List Int) (p : Int) (w : World) (h : Row w a n bs) (hn : n ≤ 1048576) :
    Calls Try.prog 68 #[.slice a n n, .int .i64 p] w (RdR bs p w) := by
  obtain ⟨i0, hi, hz0, hz1, hz2⟩ := info_parts Try.info5
  have H0 : Hid (Row w a n bs) := h
  have HL : Hid (bs.length = n) := h.len
  obtain ⟨wb, hwb⟩ : ∃ wb, wb = w.alloc (.cells #[.slice none 0 0] 54) := ⟨_, rfl⟩
  have hbb : Below w.heap.size w wb := by rw [hwb]; exact (Below.refl _ _).alloc (Nat.le_refl _) _
  have hbx : wb.heap[w.heap.size]? = some (.cells #[.slice none 0 0] 54) := by rw [hwb]; exact heap_alloc_new w _
  have hss : wb.heap.size = w.heap.size + 1 := by rw [hwb]; simp
  have hsz : w.heap.size < wb.heap.size := by omega
  have HSS : Hid (wb.heap.size = w.heap.size + 1) := hss
  clear hss
  have HX : Hid (wb.heap[w.heap.size]? = some (.cells #[.slice none 0 0] 54)) := hbx
  have kb : wb.cell? ⟨w.heap.size, 0, none⟩ = some (.slice none 0 0) := (cell_of_row _ _ 0 _ 54 (0, 0) hbx).trans rfl
  have fb : wb.frozen? ⟨w.heap.size, 0, none⟩ = false := frozen_of_row wb _ 0 _ 54 hbx
  have HWB : Hid (_ = _) := hwb
  have HBB : Hid (Below w.heap.size w wb) := hbb
  clear hwb hbx h hbb
  go_enter Try.func68, Try.ntmps68
  go_upto_region 1 with fail
  rw [← HWB.out]
  clear HWB
  go_wp2_with fail
  refine (implGetNum_any a n n bs p _ (H0.out.kept HBB.out) (by omega)).mono ?_
  rintro e w1 ⟨rfl, hw1⟩
  subst hw1
  obtain ⟨⟨v, to, code⟩, hg⟩ : ∃ t, t = getN bs p := ⟨_, rfl⟩
  rw [← hg]
  unfold trip
  simp only
  have HG : Hid (getN bs p = (v, to, code)) := hg.symm
  clear hg
  by_cases hc : code = 0
  · subst hc
    obtain ⟨hv0, hv1, hto, htl, hp0⟩ := getN_ok (fun k => (H0.out.byte k).1) HG.out
    rw [HL.out] at htl
    by_cases hbig : 160000 < v
    · have HN : Hid (rdRow bs p = none) := by show _ = _; unfold rdRow; rw [HG.out]; exact if_pos (.inr (.inl hbig))
      go_wp2
      have q1 := heap_setCell_same w1 w.heap.size 0 _ 54 (.slice none 0 0) HX.out
      try simp only [Exit.inBlock, Exit.then]
      exact bodyPost_ret (results_rw3 rfl _ w.heap.size rfl _ _ rfl rfl _ _ q1) rfl (.inl ⟨HN.out, rfl, HBB.out.setCell (Nat.le_refl _) _⟩)
    · obtain ⟨cnt, rfl⟩ := Int.eq_ofNat_of_zero_le hv0
      obtain ⟨t, rfl⟩ := Int.eq_ofNat_of_zero_le (show 0 ≤ to by omega)
      obtain ⟨m7, hm7⟩ : ∃ m7, m7 = (cnt + 7) / 8 := ⟨_, rfl⟩
      have hq7 : ((cnt : Int) + 8 - 1) / 8 = (m7 : Int) := by omega
      have hq8 : ((cnt : Int) + 7) / 8 = (m7 : Int) := by omega
      have hcn : cnt ≤ 160000 := by omega
      have hcnd : decide ((160000 : Int) < (cnt : Int)) = false := decide_eq_false hbig
      have htn : t ≤ n := by omega
      have hm7b : m7 ≤ 20000 := by omega
      have HM7 : Hid (m7 = (cnt + 7) / 8) := hm7
      have HQ8 : Hid (((cnt : Int) + 7) / 8 = (m7 : Int)) := hq8
      clear hm7
      by_cases hlong : n < t + m7
      · have hlong' : (n : Int) < (t : Int) + (m7 : Int) := by omega
        have HN : Hid (rdRow bs p = none) := by show _ = _; unfold rdRow; rw [HG.out, HL.out]; exact if_pos (.inr (.inr (by show (n : Int) < (t : Int) + ((cnt : Int) + 7) / 8; omega)))
        go_wp2
        have q1 := heap_setCell_same w1 w.heap.size 0 _ 54 (.slice none 0 0) HX.out
        try simp only [Exit.inBlock, Exit.then]
        exact bodyPost_ret (results_rw3 rfl _ w.heap.size rfl _ _ rfl rfl _ _ q1) rfl (.inl ⟨HN.out, rfl, HBB.out.setCell (Nat.le_refl _) _⟩)
      · have hlong' : ¬ ((n : Int) < (t : Int) + (m7 : Int)) := by omega
        have hlongd : decide ((n : Int) < (t : Int) + (m7 : Int)) = false := decide_eq_false hlong'
        have HSM : Hid (rdRow bs p = some (unL bs t cnt, (t : Int) + (m7 : Int))) := by
          show _ = _
          unfold rdRow
          rw [HG.out, HL.out]
          simp only
          rw [if_neg (by omega), HQ8.out]
          simp
        by_cases htn2 : t = n
        · have hcnt0 : cnt = 0 := by have := HM7.out; omega
          subst htn2
          have hm70 : m7 = 0 := by omega
          clear HM7 HQ8 hq8 hq7
          subst hcnt0
          subst hm70
          have hn0 : 0 < t := by omega
          obtain ⟨b, off, rfl, hb, hc0⟩ := H0.out.get 0 hn0
          clear hc0
          go_upto_region 8 with fail
          obtain ⟨w2, hw2⟩ : ∃ w2, w2 = w1.alloc (.cells #[.slice (some ⟨b, off, none⟩) 0 0, .int .i64 0] 100) := ⟨_, rfl⟩
          have hb2 : Below w1.heap.size w1 w2 := by rw [hw2]; exact (Below.refl _ _).alloc (Nat.le_refl _) _
          rw [← hw2]
          clear hw2 kb fb
          go_wp2_with (at_make; refine wpList_make_full _ rfl _ _ 41 rfl w2.heap.size 5 i0 (.int .u8 0) 1 Try.underlying41 hi hz0 hz1 _ _ _ _ 0 rfl rfl rfl rfl (by rw [hz2]; omega) (by unfold maxLen; omega) (by exact Nat.le_refl _) ?_; intro w3 hown3 hgrow3)
          have hb3 : Below w2.heap.size w2 w3 := (Below.refl _ _).grown hgrow3 (Nat.le_refl _) (by simp)
          have HO3 : Hid (Own w2.heap.size w3 (some ⟨w2.heap.size, 0, none⟩) 0 0 (unL bs t 0)) := by unfold unL; rw [unH_zero]; exact own_made hown3
          have B3 : Below w1.heap.size w1 w3 := keepT hb2 hb3
          have s12 := hb2.size
          have s3 := B3.size
          clear hown3 hgrow3 hi hz0 hz1 hz2
          go_loop [49] (fun i => i = .int .i64 0) (fun _ => 0)
          case atStart => exact rfl
          case round =>
            obtain rfl := hrel
            have xr : w3.heap[w.heap.size]? = some (.cells #[.slice none 0 0] 54) := (B3.block _ hsz).trans HX.out
            have kr : w3.cell? ⟨w.heap.size, 0, none⟩ = some (.slice none 0 0) := (cell_of_row _ _ 0 _ 54 (0, 0) xr).trans rfl
            have fr : w3.frozen? ⟨w.heap.size, 0, none⟩ = false := frozen_of_row w3 _ 0 _ 54 xr
            have HXR : Hid (_ = _) := xr
            have hrs : w.heap.size < w3.heap.size := by omega
            clear xr
            go_wp2
            have q1 := heap_setCell_same w3 w.heap.size 0 _ 54 (.slice (some ⟨w2.heap.size, 0, none⟩) 0 0) HXR.out
            have hss := HSS.out
            have HSM' : rdRow bs p = some (unL bs t 0, (t : Int)) := by have := HSM.out; simpa using this
            try simp only [Exit.inBlock, Exit.then]
            refine bodyPost_ret (results_rw3 rfl _ w.heap.size rfl _ _ rfl rfl _ _ q1) rfl (.inr ⟨0, _, _, _, HSM', by omega, by rw [HL.out]; omega, by decide, rfl, ?_, ((keepT HBB.out B3)).setCell (Nat.le_refl _) _⟩)
            exact (HO3.out.same fun l hl => Below.heap_setCell _ _ _ _ (by show l ≠ w.heap.size; omega)).mono (by omega)
        · have hn0 : 0 < n := by omega
          obtain ⟨b, off, rfl, hb, hc0⟩ := H0.out.get 0 hn0
          have e1 : ¬ ((n : Int) - (t : Int) = 0) := by omega
          have e2 : n ≠ t := by omega
          have e3 : n - t ≠ 0 := by omega
          have hcell : ∀ k, k < n → w.cell? ⟨b, off + k, none⟩ = some (.int .u8 (bs.getD k 0)) := fun k hk => by
            obtain ⟨b', off', ha', _, hck⟩ := H0.out.get k hk
            obtain ⟨rfl, rfl⟩ : b = b' ∧ off = off' := by simpa using ha'
            exact hck
          have HCELL : Hid (∀ k, k < n → w.cell? ⟨b, off + k, none⟩ = some (.int .u8 (bs.getD k 0))) := hcell
          clear hc0 hcell
          go_upto_region 8 with fail
          obtain ⟨w2, hw2⟩ : ∃ w2, w2 = w1.alloc (.cells #[.slice (some ⟨b, off + t, none⟩) m7 (n - t), .int .i64 0] 100) := ⟨_, rfl⟩
          have hb2 : Below w1.heap.size w1 w2 := by rw [hw2]; exact (Below.refl _ _).alloc (Nat.le_refl _) _
          have HX2 : Hid (w2.heap[w1.heap.size]? = some (.cells #[.slice (some ⟨b, off + t, none⟩) m7 (n - t), .int .i64 ((0 : Nat) : Int)] 100)) := by show _ = _; rw [hw2]; exact heap_alloc_new w1 _
          have s2 : w1.heap.size < w2.heap.size := (Array.getElem?_eq_some_iff.1 HX2.out).1
          rw [← hw2]
          clear hw2 kb fb
          go_wp2_with (at_make; refine wpList_make_full _ rfl _ _ 41 rfl w2.heap.size 5 i0 (.int .u8 0) 1 Try.underlying41 hi hz0 hz1 _ _ _ _ cnt rfl rfl rfl rfl (by rw [hz2]; omega) (by unfold maxLen; omega) (by exact Nat.le_refl _) ?_; intro w3 hown3 hgrow3)
          have hb3 : Below w2.heap.size w2 w3 := (Below.refl _ _).grown hgrow3 (Nat.le_refl _) (by simp)
          have HO3 : Hid (Own w2.heap.size w3 (some ⟨w2.heap.size, 0, none⟩) cnt cnt (unH bs t cnt 0)) := by rw [unH_zero]; exact own_made hown3
          have HX3 : Hid (w3.heap[w1.heap.size]? = some (.cells #[.slice (some ⟨b, off + t, none⟩) m7 (n - t), .int .i64 ((0 : Nat) : Int)] 100)) := (hb3.block _ s2).trans HX2.out
          have B3 : Below w1.heap.size w1 w3 := keepT hb2 hb3
          clear hown3 hgrow3 hi hz0 hz1 hz2
          go_loopw [49] (fun i wr => ∃ j : Nat, j ≤ cnt ∧ i = .int .i64 j ∧ Hid (wr.heap[w1.heap.size]? = some (.cells #[.slice (some ⟨b, off + t, none⟩) m7 (n - t), .int .i64 (j : Int)] 100)) ∧ Hid (Own w2.heap.size wr (some ⟨w2.heap.size, 0, none⟩) cnt cnt (unH bs t cnt j)) ∧ Below w1.heap.size w1 wr) (fun i _ => cnt - (intOf i).toNat)
          case atStart => exact ⟨0, Nat.zero_le _, rfl, HX3, HO3, B3⟩
          case round =>
            obtain ⟨j, hj, rfl, HGJ, HOJ, hbj⟩ := hrel
            clear HX3 HO3 B3 HX2 hb3
            have hsj := hbj.size
            by_cases hlt : j < cnt
            · have hlti : (j : Int) < (cnt : Int) := by omega
              go_wp2_with fail
              refine (step_any w1.heap.size (some ⟨b, off + t, none⟩) m7 (n - t) j 100 _ HGJ.out (by omega)).mono ?_
              rintro e w5 ⟨rfl, hst⟩
              have HST : Hid (Stp w1.heap.size _ wr w5) := hst
              have HO5 : Hid (Own w2.heap.size w5 (some ⟨w2.heap.size, 0, none⟩) cnt cnt (unH bs t cnt j)) := HOJ.out.same fun l hl => HST.out.2.1 l (by omega)
              have HX5 : Hid (w5.heap[w1.heap.size]? = some (.cells #[.slice (some ⟨b, off + t, none⟩) m7 (n - t), .int .i64 ((j + 1 : Nat) : Int)] 100)) := HST.out.1
              have B5 : Below w1.heap.size w1 w5 := hbj.trans HST.out.2.2.2
              have hg5 : w1.heap.size < w5.heap.size := (Array.getElem?_eq_some_iff.1 HX5.out).1
              have j0 : w5.cell? ⟨w1.heap.size, 0, none⟩ = some (.slice (some ⟨b, off + t, none⟩) m7 (n - t)) := (cell_of_row w5 _ 0 _ 100 (0, 0) HX5.out).trans rfl
              have hqm : j / 8 < m7 := by have := HM7.out; omega
              obtain ⟨q, hq⟩ : ∃ q : Nat, q = j / 8 := ⟨_, rfl⟩
              obtain ⟨x, hx⟩ : ∃ x, x = bs.getD (t + j / 8) 0 := ⟨_, rfl⟩
              have HXX : Hid (x = bs.getD (t + j / 8) 0) := hx
              have hxb := H0.out.byte (t + j / 8)
              rw [← hx] at hxb
              have jx : w5.cell? ⟨b, off + t + q, none⟩ = some (.int .u8 x) := by
                rw [hx, hq, Nat.add_assoc]
                exact (((keepT HBB.out B5)).cell (p := ⟨b, off + (t + j / 8), none⟩) hb).trans (HCELL.out _ (by omega))
              have hb5 : b < w5.heap.size := by have := (keepT HBB.out B5).size; omega
              rw [← hq] at hqm ⊢
              have hqmi : (q : Int) < (m7 : Int) := by omega
              obtain ⟨mk, hmk⟩ : ∃ mk : Int, mk = ((2 ^ (7 - j % 8) : Nat) : Int) := ⟨_, rfl⟩
              have hmk0 : 0 < mk := by rw [hmk]; have : 0 < 2 ^ (7 - j % 8) := Nat.pow_pos (by decide); omega
              have hand : bits .and .u8 x mk = btA x (j % 8) * mk := by
                obtain ⟨y, rfl⟩ := Int.eq_ofNat_of_zero_le hxb.1
                rw [hmk]; exact and_all (j % 8) (Nat.mod_lt _ (by decide)) y (by omega)
              rw [← hmk]
              clear hst HST hq hx hmk HOJ HGJ hbj
              rcases (show btA x (j % 8) = 0 ∨ btA x (j % 8) = 1 by have := btA_bd x (j % 8); omega) with e | e
              · rw [e, Int.zero_mul] at hand
                have HS : Hid (Own w2.heap.size w5 (some ⟨w2.heap.size, 0, none⟩) cnt cnt (unH bs t cnt (j + 1))) := by rw [← unH_same bs t cnt j (by rw [← HXX.out]; exact e)]; exact HO5.out
                clear e HO5
                go_wp2
                go_roundw
                case rel => exact ⟨j + 1, by omega, by go_num, HX5, HS, B5⟩
                case measure => simp [intOf]; omega
              · rw [e, Int.one_mul] at hand
                have hmkn : ¬ (mk = 0) := by omega
                have fd : w5.frozen? ⟨w2.heap.size, j, none⟩ = false := HO5.out.row.frozenAt j
                have hd5 : w2.heap.size < w5.heap.size := ownsRow_lt HO5.out.row
                obtain ⟨z, jd⟩ : ∃ z, w5.cell? ⟨w2.heap.size, j, none⟩ = some z := ⟨_, (HO5.out.row.cellAt j (by omega)).trans (List.getElem?_eq_getElem (by simp [unH_len]; omega))⟩
                have HS : Hid (Own w2.heap.size (w5.setCell ⟨w2.heap.size, j, none⟩ (.int .u8 1)) (some ⟨w2.heap.size, 0, none⟩) cnt cnt (unH bs t cnt (j + 1))) := by
                  refine ⟨?_, unH_byte _ _ _ _⟩
                  have h1 := (HO5.out.row.stored j (.int .u8 1)).1
                  rw [← List.map_set, ← e, HXX.out, unH_set] at h1
                  rw [← e, HXX.out]; exact h1
                have HX6 : Hid ((w5.setCell ⟨w2.heap.size, j, none⟩ (.int .u8 1)).heap[w1.heap.size]? = some (.cells #[.slice (some ⟨b, off + t, none⟩) m7 (n - t), .int .i64 ((j + 1 : Nat) : Int)] 100)) := (Below.heap_setCell _ _ _ _ (by show w1.heap.size ≠ w2.heap.size; omega)).trans HX5.out
                have HB6 : Hid (Below w1.heap.size w1 (w5.setCell ⟨w2.heap.size, j, none⟩ (.int .u8 1))) := B5.setCell (by show w1.heap.size ≤ w2.heap.size; omega) _
                clear e HO5 HX5 B5
                go_wp2
                go_roundw
                case rel => exact ⟨j + 1, by omega, by go_num, HX6, HS, HB6.out⟩
                case measure => simp [intOf]; omega
            · obtain rfl : j = cnt := by omega
              have xr : wr.heap[w.heap.size]? = some (.cells #[.slice none 0 0] 54) := (hbj.block _ hsz).trans HX.out
              have kr : wr.cell? ⟨w.heap.size, 0, none⟩ = some (.slice none 0 0) := (cell_of_row _ _ 0 _ 54 (0, 0) xr).trans rfl
              have fr : wr.frozen? ⟨w.heap.size, 0, none⟩ = false := frozen_of_row wr _ 0 _ 54 xr
              have HXR : Hid (_ = _) := xr
              have hrs : w.heap.size < wr.heap.size := by omega
              clear xr
              go_wp2
              have q1 := heap_setCell_same wr w.heap.size 0 _ 54 (.slice (some ⟨w2.heap.size, 0, none⟩) j j) HXR.out
              have hss := HSS.out
              try simp only [Exit.inBlock, Exit.then]
              refine bodyPost_ret (results_rw3 rfl _ w.heap.size rfl _ _ rfl rfl _ _ q1) rfl (.inr ⟨j, _, _, _, HSM.out, by omega, by rw [HL.out]; omega, hcn, rfl, ?_, ((keepT HBB.out hbj)).setCell (Nat.le_refl _) _⟩)
              exact (HOJ.out.same fun l hl => Below.heap_setCell _ _ _ _ (by show l ≠ w.heap.size; omega)).mono (by omega)
  · have HN : Hid (rdRow bs p = none) := by show _ = _; unfold rdRow; rw [HG.out]; exact if_pos (.inl hc)
    go_wp2
    have q1 := heap_setCell_same w1 w.heap.size 0 _ 54 (.slice none 0 0) HX.out
    try simp only [Exit.inBlock, Exit.then]
    exact bodyPost_ret (results_rw3 rfl _ w.heap.size rfl _ _ rfl rfl _ _ q1) rfl (.inl ⟨HN.out, rfl, HBB.out.setCell (Nat.le_refl _) _⟩)

end Go.Proofs.Ytpnaopmpiobemaa
