import Derived.Test.YtochaopoggempaaEM12
import Derived.Deep.RegionWith
namespace Go.Proofs.Ytochaopoggempaa
open Go.RowKit Go.Sort

set_option maxRecDepth 10000 in
set_option maxHeartbeats 1000000 in
theorem l8SecretOk_group (x : Int) (w : World) (hx : 1 ≤ x ∧ x ≤ 500000002) :
    Calls Try.prog 90 #[scv 1 x 0 0] w fun e w' => e = .returned (.bool true) ∧ Below w.heap.size w w' := by
  have hbb : Below w.heap.size w (w.alloc (.cells #[.int .i64 1, .int .u64 x, .int .i64 0, .int .i64 0] 94)) := (Below.refl _ _).alloc (Nat.le_refl _) _
  obtain ⟨h0, h1⟩ := hx
  have h2 : x < 500000003 := by omega
  unfold scv
  go_enter Try.func90, Try.ntmps90
  go_wp2
  go_ret
  exact ⟨rfl, hbb⟩

theorem heap_set3E {w : World} {g t : Nat} {c0 c1 c2 : Value} (h : w.heap[g]? = some (.cells #[c0, c1, c2] t (0, 0))) (v0 v1 v2 : Value) : (((w.setCell ⟨g, 0, none⟩ v0).setCell ⟨g, 1, none⟩ v1).setCell ⟨g, 2, none⟩ v2).heap[g]? = some (.cells #[v0, v1, v2] t (0, 0)) :=
  heap_setCell_same _ _ 2 _ t _ (heap_setCell_same _ _ 1 _ t _ (heap_setCell_same _ _ 0 _ t _ h))

set_option maxRecDepth 10000 in
set_option maxHeartbeats 4000000 in
theorem specPubOf_group (x : Int) (w : World) (hx : secP x) :
    Calls Try.prog 75 #[scv 1 x 0 0] w fun e w' => e = .returned (.tuple #[.agg #[.int .i64 1, .int .u64 (gp 4 x), .int .i64 0], .bool true]) ∧ Below w.heap.size w w' := by
  obtain ⟨wb, hwb⟩ : ∃ wb, wb = (w.alloc (.cells #[.int .i64 1, .int .u64 x, .int .i64 0, .int .i64 0] 94)).alloc (.cells #[.int .i64 0, .int .u64 0, .int .i64 0] 74) := ⟨_, rfl⟩
  have hbb : Below w.heap.size w wb := by rw [hwb]; exact two_below _ _ _
  have hx2 := two_blocks w (.cells #[.int .i64 1, .int .u64 x, .int .i64 0, .int .i64 0] 94) (.cells #[.int .i64 0, .int .u64 0, .int .i64 0] 74)
  rw [← hwb] at hx2
  obtain ⟨hb0, hb1⟩ := hx2
  have hl0 : w.heap.size < wb.heap.size := (Array.getElem?_eq_some_iff.1 hb0).1
  have hl1 : w.heap.size + 1 < wb.heap.size := (Array.getElem?_eq_some_iff.1 hb1).1
  have HC : ∀ W, Below wb.heap.size wb W → W.cell? ⟨w.heap.size, 0, none⟩ = some (.int .i64 1) ∧ W.cell? ⟨w.heap.size, 1, none⟩ = some (.int .u64 x) ∧ W.cell? ⟨w.heap.size, 2, none⟩ = some (.int .i64 0) ∧ W.cell? ⟨w.heap.size, 3, none⟩ = some (.int .i64 0) := fun W hW => by
    have h := (hW.block _ hl0).trans hb0
    exact ⟨(cell_of_row _ _ 0 _ 94 (0, 0) h).trans rfl, (cell_of_row _ _ 1 _ 94 (0, 0) h).trans rfl, (cell_of_row _ _ 2 _ 94 (0, 0) h).trans rfl, (cell_of_row _ _ 3 _ 94 (0, 0) h).trans rfl⟩
  have HD : ∀ W, Below wb.heap.size wb W → W.heap[w.heap.size + 1]? = some (.cells #[.int .i64 0, .int .u64 0, .int .i64 0] 74) := fun W hW => (hW.block _ hl1).trans hb1
  have HW : Hid (_ = _) := hwb
  have HS : Hid (secP x) := hx
  have hxb : 1 ≤ x ∧ x ≤ 500000002 := hx
  have SO := fun W => l8SecretOk_group x W hxb
  unfold scv at SO ⊢
  obtain ⟨h0, h1⟩ := hxb
  obtain ⟨p0, p1, p2, p3⟩ := HC _ (Below.refl _ _)
  clear hwb hb0 hb1 hx
  have KO := fun W => specKeyOf_any x W
  rw [secP_key HS.out] at KO
  have hgp := gp_bd 4 x
  obtain ⟨ky, hky⟩ : ∃ ky, ky = gp 4 x := ⟨_, rfl⟩
  rw [← hky] at hgp KO ⊢
  obtain ⟨hg0, hg1⟩ := hgp
  clear hky
  go_enter Try.func75, Try.ntmps75
  go_upto_region 1 with fail
  rw [← HW.out]
  clear HW
  go_wp2_with fail
  refine (SO _).mono ?_
  rintro e w2 ⟨rfl, hb2⟩
  clear p0 p1 p2 p3 SO
  obtain ⟨p0, p1, p2, p3⟩ := HC _ hb2
  have hd2 : Below wb.heap.size wb w2.drew := hb2.drew
  have D0 := HD _ hb2
  have D1 := HD _ hd2
  obtain ⟨d0, d1, d2, d3⟩ := HC _ hd2
  have e0 : w2.drew.cell? ⟨w.heap.size + 1, 0, none⟩ = some (.int .i64 0) := (cell_of_row _ _ 0 _ 74 (0, 0) D1).trans rfl
  have e1 : w2.drew.cell? ⟨w.heap.size + 1, 1, none⟩ = some (.int .u64 0) := (cell_of_row _ _ 1 _ 74 (0, 0) D1).trans rfl
  have e2 : w2.drew.cell? ⟨w.heap.size + 1, 2, none⟩ = some (.int .i64 0) := (cell_of_row _ _ 2 _ 74 (0, 0) D1).trans rfl
  have f0 : w2.drew.frozen? ⟨w.heap.size + 1, 0, none⟩ = false := frozen_of_row _ _ 0 _ 74 D1
  have f1 : w2.drew.frozen? ⟨w.heap.size + 1, 1, none⟩ = false := frozen_of_row _ _ 1 _ 74 D1
  have f2 : w2.drew.frozen? ⟨w.heap.size + 1, 2, none⟩ = false := frozen_of_row _ _ 2 _ 74 D1
  have g0 : w2.cell? ⟨w.heap.size + 1, 0, none⟩ = some (.int .i64 0) := (cell_of_row _ _ 0 _ 74 (0, 0) D0).trans rfl
  have k0 : w2.frozen? ⟨w.heap.size + 1, 0, none⟩ = false := frozen_of_row _ _ 0 _ 74 D0
  have g1 : w2.cell? ⟨w.heap.size + 1, 1, none⟩ = some (.int .u64 0) := (cell_of_row _ _ 1 _ 74 (0, 0) D0).trans rfl
  have k1 : w2.frozen? ⟨w.heap.size + 1, 1, none⟩ = false := frozen_of_row _ _ 1 _ 74 D0
  have g2 : w2.cell? ⟨w.heap.size + 1, 2, none⟩ = some (.int .i64 0) := (cell_of_row _ _ 2 _ 74 (0, 0) D0).trans rfl
  have k2 : w2.frozen? ⟨w.heap.size + 1, 2, none⟩ = false := frozen_of_row _ _ 2 _ 74 D0
  have q1 : IntKind.i64.wrap x = x := by rw [IntKind.wrap_i64]; omega
  have qu : IntKind.u64.wrap ky = ky := by first | (rw [IntKind.wrap_u64]; omega) | (show ky % 18446744073709551616 = ky; omega)
  go_upto_region 4 with fail
  go_region_law (go_simp; go_at_call 53; refine (KO _).mono ?_; rintro e wp ⟨rfl, hw⟩; have hw2 := hw.symm; subst hw2)
  all_goals
    go_wp2
    try simp only [Exit.inBlock, Exit.then]
    refine bodyPost_ret (results_pb2 rfl _ (w.heap.size + 1) rfl _ rfl _ _ _ _ (by first | exact heap_set3E D0 _ _ _ | exact heap_set3E D1 _ _ _)) rfl ⟨rfl, ?_⟩
    first | exact ((((keepT hbb hb2).setCell (by simp) _).setCell (by simp) _).setCell (by simp) _).drew | exact ((((keepT hbb hd2).setCell (by simp) _).setCell (by simp) _).setCell (by simp) _)

set_option maxRecDepth 10000 in
set_option maxHeartbeats 8000000 in
theorem specOpenMsg_any (eph : Int) (wa : Option Addr) (wn wc : Nat) (ba : Option Addr) (bn bc : Nat) (tg : Int) (ws : List (Int × Int)) (bs : List Int) (x : Int) (w : World) (h1 : RowWr w wa wn ws) (h2 : Row w ba bn bs) (hc2 : ba = none → bc = 0) (hn1 : wn ≤ 9223372036854775807) (hn2 : bn ≤ 9223372036854775807) :
    Calls Try.prog 33 #[evv eph wa wn wc ba bn bc tg, .int .i64 x] w (OmA (openR eph ws bs tg x) w) := by
  have L1 : Hid (ws.length = wn) := h1.len
  have L2 : Hid (bs.length = bn) := h2.len
  obtain ⟨wb, hwb⟩ : ∃ wb, wb = w.alloc (.cells #[.int .i64 eph, .slice wa wn wc, .slice ba bn bc, .int .u64 tg] 46) := ⟨_, rfl⟩
  have B0 : Below w.heap.size w wb := by rw [hwb]; exact (Below.refl _ _).alloc (Nat.le_refl _) _
  have HX : Hid (BlkV wb w.heap.size (.int .i64 eph) (.slice wa wn wc) (.slice ba bn bc) (.int .u64 tg)) := by rw [hwb]; exact heap_alloc_new w _
  have HW : Hid (_ = _) := hwb
  have H1 : Hid (RowWr w wa wn ws) := h1
  have H2 : Hid (Row w ba bn bs) := h2
  clear hwb h1 h2
  obtain ⟨⟨x0, x1, x2, x3⟩, _⟩ := HX.out.cells
  rw [evv]
  by_cases hs : secP x
  · have HS : Hid (secP x) := hs
    have hxb : 1 ≤ x ∧ x ≤ 500000002 := hs
    by_cases hm : memP eph
    · by_cases he : eph = 1
      · have HV : Hid (openR eph ws bs tg x = ([], 1)) := by show _ = _; unfold openR; rw [if_neg (fun h => h.2.2 he)]
        have ze : (eph == 1) = true := by simpa using he
        clear he
        go_enter Try.func33, Try.ntmps33
        go_upto_region 1 with fail
        rw [← HW.out]
        clear HW
        go_wp2_with fail
        refine (l7Secret_any x _).mono ?_
        rintro e w1 ⟨rfl, hw⟩
        have hw2 := hw.symm
        subst hw2
        rw [decide_eq_true hs]
        go_wp2_with fail
        refine (l7Member_any eph _).mono ?_
        rintro e w1 ⟨rfl, hw⟩
        have hw2 := hw.symm
        subst hw2
        rw [decide_eq_true hm]
        go_wp2
        go_ret2
        exact ⟨_, 0, 0, by rw [HV.out]; rfl, by rw [HV.out]; exact own_zeroE _ _ _ (by first | rfl | simp | simp [grow]) (B0).size, (B0).alloc (B0).size _⟩
      · have HKP : Hid (keyP eph) := ⟨hm, he⟩
        have hkb := keyP_lt HKP.out
        have ze : (eph == 1) = false := by simpa using he
        clear he
        obtain ⟨hx0, hx1⟩ := hxb
        obtain ⟨hk0, hk1⟩ := hkb
        go_enter Try.func33, Try.ntmps33
        go_upto_region 1 with fail
        rw [← HW.out]
        clear HW
        go_wp2_with fail
        refine (l7Secret_any x _).mono ?_
        rintro e w1 ⟨rfl, hw⟩
        have hw2 := hw.symm
        subst hw2
        rw [decide_eq_true hs]
        go_wp2_with fail
        refine (l7Member_any eph _).mono ?_
        rintro e w1 ⟨rfl, hw⟩
        have hw2 := hw.symm
        subst hw2
        rw [decide_eq_true hm]
        clear hs hm
        have PUB := fun W => specPubOf_group x W HS.out
        unfold scv at PUB
        have hgp := gp_bd 4 x
        obtain ⟨ky, hky⟩ : ∃ ky, ky = gp 4 x := ⟨_, rfl⟩
        rw [← hky] at hgp PUB
        obtain ⟨hg0, hg1⟩ := hgp
        have HID0 : Hid (idX x = kidN 1 ky 0) := by show _ = _; rw [hky]; rfl
        clear hky
        have KI := fun W => specKeyId_any 1 ky 0 W ⟨hg0, by omega⟩ (by decide) (by decide)
        unfold kpv at KI
        obtain ⟨id, hid⟩ : ∃ id, id = kidN 1 ky 0 := ⟨_, rfl⟩
        have hidb : U64 id := by rw [hid]; unfold kidN; exact hashL_bd _
        rw [← hid] at KI HID0
        clear hid
        have qu : IntKind.u64.wrap x = x := by first | (rw [IntKind.wrap_u64]; omega) | (show x % 18446744073709551616 = x; omega)
        go_wp2_with fail
        refine (PUB _).mono ?_
        rintro e w2 ⟨rfl, hb2⟩
        clear qu PUB
        have b3 : Below w2.heap.size w2 (w2.alloc (.cells #[.int .i64 1, .int .u64 ky, .int .i64 0] 74)) := (Below.refl _ _).alloc (Nat.le_refl _) _
        go_wp2_with fail
        refine (KI _).mono ?_
        rintro e w3 ⟨rfl, hb3⟩
        have K3 : Below wb.heap.size wb w3 := keepT hb2 (keepT b3 hb3)
        have B3 := keepT B0 K3
        have HX3 : Hid (BlkV w3 w.heap.size (.int .i64 eph) (.slice wa wn wc) (.slice ba bn bc) (.int .u64 tg)) := HX.out.kept K3
        clear x0 x1 x2 x3 b3 hb3 hb2 KI HX
        go_wp2
        go_loopw [9] (fun i wr => ∃ k : Nat, k ≤ wn ∧ i = .int .i64 k ∧ Hid (NoW ws id k) ∧ BlkV wr w.heap.size (.int .i64 eph) (.slice wa wn wc) (.slice ba bn bc) (.int .u64 tg) ∧ Below w.heap.size w wr) (fun i _ => wn - (intOf i).toNat)
        case atStart => exact ⟨0, Nat.zero_le _, rfl, fun k hk => absurd hk (Nat.not_lt_zero _), HX3.out, B3⟩
        case round =>
          obtain ⟨j, hj, rfl, HN, hX, hbr⟩ := hrel
          have HXr : Hid (BlkV wr w.heap.size (.int .i64 eph) (.slice wa wn wc) (.slice ba bn bc) (.int .u64 tg)) := hX
          clear hX
          obtain ⟨⟨x0, x1, x2, x3⟩, _⟩ := HXr.out.cells
          by_cases hjn : j < wn
          · have hji : (j : Int) < (wn : Int) := by omega
            obtain ⟨b1, off, rfl, hb1, y0, y1⟩ := (H1.out.kept hbr).get j hjn
            obtain ⟨q, hq⟩ : ∃ q, q = ws.getD j (0, 0) := ⟨_, rfl⟩
            rw [← hq] at y0 y1
            have HQ : Hid (ws.getD j (0, 0) = q) := hq.symm
            clear hq
            obtain ⟨q1, v⟩ := q
            by_cases hqi : q1 = id
            · have zq : (q1 != id) = false := by simpa using hqi
              have HF : Hid (ws.find? (fun p => p.1 == idX x) = some (q1, v)) := by show _ = _; rw [← HQ.out, HID0.out]; exact find_pos ws id j ⟨by rw [L1.out]; exact hjn, by rw [HQ.out]; exact hqi, HN.out⟩
              clear hqi
              have hsh := gp_bd eph x
              obtain ⟨sh, hshv⟩ : ∃ sh, sh = gp eph x := ⟨_, rfl⟩
              have HSH : Hid (gp eph x = sh) := hshv.symm
              rw [← hshv] at hsh
              obtain ⟨hs0, hs1⟩ := hsh
              clear hshv
              have ca0 : Hid (∀ d os, Calls Try.prog 57 #[.int .i64 eph, .int .i64 x, .int .i64 1000000007] (grow (redrawn wr d) os) fun e w'' => e = .returned (.int .i64 sh) ∧ ∃ p : Regrown, w'' = grow (redrawn wr p.d) p.os) := fun d os => Calls.regrown_of (Calls.below_of_same (by rw [← HSH.out]; exact l7PowP_any eph x _ (by omega) (by omega) (by omega) (by omega)))
              have ca1 : Hid (∀ d os, Calls Try.prog 56 #[.int .i64 sh, .int .u64 id] (grow (redrawn wr d) os) fun e w'' => e = .returned (.int .u64 (wrN sh id)) ∧ ∃ p : Regrown, w'' = grow (redrawn wr p.d) p.os) := fun d os => Calls.regrown_of (l17Wrap_any sh id _ (by omega) hidb)
              obtain ⟨k, hk⟩ : ∃ k, k = bits .xor .u64 v (wrN sh id) := ⟨_, rfl⟩
              have hkb : U64 k := by rw [hk]; exact u64_xor_range _ _
              have HKV : Hid (keyV eph x v = k) := by show _ = _; rw [hk]; unfold keyV; rw [HSH.out, HID0.out]
              have XX : Hid (bits .xor .u64 v (wrN sh id) = k) := hk.symm
              clear hk
              have qx0 := cell_regrown x0
              have qx1 := cell_regrown x1
              have qy1 := cell_regrown y1
              go_wp2_with fail
              refine wp_region_quiet_below (by kernel_rfl) (by kernel_rfl) ?_
              iterate 9 (go_big_quiet_step (fail))
              go_big_quiet_step (exact ca0.out _ _)
              go_big_quiet_step (fail)
              go_big_quiet_step (exact ca1.out _ _)
              iterate 2 (go_big_quiet_step (fail))
              refine wpQuiet_nil ?_
              intro _ hw'
              obtain ⟨⟨dq, osq⟩, hw''⟩ := hw'
              subst hw''
              rw [XX.out]
              have b5 := below_regrown wr dq osq
              obtain ⟨w5, hw5⟩ : ∃ w5, w5 = grow (redrawn wr dq) osq := ⟨_, rfl⟩
              rw [← hw5] at b5 ⊢
              clear hw5 qx0 qx1 qy1 ca0 ca1 x0 x1 x2 x3 y0 y1
              have B5 := keepT hbr b5
              have HX5 : Hid (BlkV w5 w.heap.size (.int .i64 eph) (.slice (some ⟨b1, off, none⟩) wn wc) (.slice ba bn bc) (.int .u64 tg)) := HXr.out.kept b5
              have HR5 : Hid (Row w5 ba bn bs) := H2.out.kept B5
              obtain ⟨⟨x0, x1, x2, x3⟩, _⟩ := HX5.out.cells
              have qx2 := cell_regrown x2
              have qx3 := cell_regrown x3
              by_cases hb : bn ≤ 4000
              · have hbi : decide ((4000 : Int) < (bn : Int)) = false := decide_eq_false (by omega)
                obtain ⟨tv, htv⟩ : ∃ tv, tv = tagN k bs := ⟨_, rfl⟩
                have HTV : Hid (tagN k bs = tv) := htv.symm
                have ca2 : Hid (∀ d os, Calls Try.prog 45 #[.int .u64 k, .slice ba bn bc] (grow (redrawn w5 d) os) fun e w'' => e = .returned (.int .u64 tv) ∧ ∃ p : Regrown, w'' = grow (redrawn w5 p.d) p.os) := fun d os => Calls.regrown_of (by rw [← HTV.out]; exact l17Tag_any k ba bn bc bs _ hkb (HR5.out.kept (below_regrown w5 d os)) (by omega) hc2)
                clear htv
                by_cases ht : tg = tv
                · subst ht
                  have HV : Hid (openR eph ws bs tg x = (maskL k bs, 0)) := by
                    show _ = _
                    unfold openR
                    rw [if_pos ⟨HS.out, HKP.out⟩, HF.out]
                    show (if bs.length ≤ 4000 ∧ tg = tagN (keyV eph x v) bs then _ else _) = _
                    rw [HKV.out, if_pos ⟨by rw [L2.out]; exact hb, HTV.out.symm⟩]
                  have zt : (tg != tg) = false := by simp
                  go_wp2_with fail
                  refine wp_region_quiet_below (by kernel_rfl) (by kernel_rfl) ?_
                  iterate 10 (go_big_quiet_step (fail))
                  go_big_quiet_step (exact ca2.out _ _)
                  iterate 2 (go_big_quiet_step (fail))
                  refine wpQuiet_nil ?_
                  intro _ hw'
                  obtain ⟨⟨dq2, osq2⟩, hw''⟩ := hw'
                  subst hw''
                  have b6 := below_regrown w5 dq2 osq2
                  have B6 := keepT B5 b6
                  have x2' := qx2 dq2 osq2
                  have HR6 : Hid (Row (grow (redrawn w5 dq2) osq2) ba bn bs) := HR5.out.kept b6
                  go_wp2_with fail
                  refine (l17Stream_any k ba bn bc bs _ hkb HR6.out (by omega) hc2).mono ?_
                  rintro e w7 ⟨a7, c7, rfl, ho7, hb7⟩
                  go_wp2
                  go_ret2
                  exact ⟨a7, bn, c7, by rw [HV.out]; rfl, by rw [HV.out]; exact ho7.mono B6.size, keepT B6 hb7⟩
                · have HV : Hid (openR eph ws bs tg x = ([], 2)) := by
                    show _ = _
                    unfold openR
                    rw [if_pos ⟨HS.out, HKP.out⟩, HF.out]
                    show (if bs.length ≤ 4000 ∧ tg = tagN (keyV eph x v) bs then _ else _) = _
                    rw [HKV.out, if_neg (fun h => ht (h.2.trans HTV.out))]
                  have zt : (tg != tv) = true := by simpa using ht
                  go_wp2_with fail
                  refine wp_region_quiet_below (by kernel_rfl) (by kernel_rfl) ?_
                  iterate 10 (go_big_quiet_step (fail))
                  go_big_quiet_step (exact ca2.out _ _)
                  iterate 2 (go_big_quiet_step (fail))
                  refine wpQuiet_nil ?_
                  intro _ hw'
                  obtain ⟨⟨dq2, osq2⟩, hw''⟩ := hw'
                  subst hw''
                  have B6 := keepT B5 (below_regrown w5 dq2 osq2)
                  go_wp2
                  go_ret2
                  exact ⟨_, 0, 0, by rw [HV.out]; rfl, by rw [HV.out]; exact own_zeroE _ _ _ (by first | rfl | simp | simp [grow]) (B6).size, (B6).alloc (B6).size _⟩
              · have hbi : (4000 : Int) < (bn : Int) := by omega
                have HV : Hid (openR eph ws bs tg x = ([], 2)) := by
                  show _ = _
                  unfold openR
                  rw [if_pos ⟨HS.out, HKP.out⟩, HF.out]
                  show (if bs.length ≤ 4000 ∧ tg = tagN (keyV eph x v) bs then _ else _) = _
                  rw [if_neg (fun h => hb (by rw [← L2.out]; exact h.1))]
                go_wp2_with fail
                refine wp_region_quiet_below (by kernel_rfl) (by kernel_rfl) ?_
                iterate 13 (go_big_quiet_step (fail))
                refine wpQuiet_nil ?_
                intro _ hw'
                obtain ⟨⟨dq2, osq2⟩, hw''⟩ := hw'
                subst hw''
                have B6 := keepT B5 (below_regrown w5 dq2 osq2)
                go_wp2
                go_ret2
                exact ⟨_, 0, 0, by rw [HV.out]; rfl, by rw [HV.out]; exact own_zeroE _ _ _ (by first | rfl | simp | simp [grow]) (B6).size, (B6).alloc (B6).size _⟩
            · have zq : (q1 != id) = true := by simpa using hqi
              have HN2 : Hid (NoW ws id (j + 1)) := fun i hi => by
                by_cases e : i < j
                · exact HN.out i e
                · obtain rfl : i = j := by omega
                  rw [HQ.out]; exact hqi
              clear hqi
              go_wp2
              go_roundw
              case rel => exact ⟨j + 1, by omega, by go_num, HN2, HXr.out, hbr⟩
              case measure => simp [intOf]; omega
          · obtain rfl : j = wn := by omega
            have HV : Hid (openR eph ws bs tg x = ([], 1)) := by
              show _ = _
              unfold openR
              rw [if_pos ⟨HS.out, HKP.out⟩, HID0.out, find_no ws id (by rw [L1.out]; exact HN.out)]
            go_wp2
            go_ret2
            exact ⟨_, 0, 0, by rw [HV.out]; rfl, by rw [HV.out]; exact own_zeroE _ _ _ (by first | rfl | simp | simp [grow]) (hbr).size, (hbr).alloc (hbr).size _⟩
    · have HV : Hid (openR eph ws bs tg x = ([], 1)) := by show _ = _; unfold openR; rw [if_neg (fun h => hm h.2.1)]
      go_enter Try.func33, Try.ntmps33
      go_upto_region 1 with fail
      rw [← HW.out]
      clear HW
      go_wp2_with fail
      refine (l7Secret_any x _).mono ?_
      rintro e w1 ⟨rfl, hw⟩
      have hw2 := hw.symm
      subst hw2
      rw [decide_eq_true hs]
      go_wp2_with fail
      refine (l7Member_any eph _).mono ?_
      rintro e w1 ⟨rfl, hw⟩
      have hw2 := hw.symm
      subst hw2
      rw [decide_eq_false hm]
      go_wp2
      go_ret2
      exact ⟨_, 0, 0, by rw [HV.out]; rfl, by rw [HV.out]; exact own_zeroE _ _ _ (by first | rfl | simp | simp [grow]) (B0).size, (B0).alloc (B0).size _⟩
  · have HV : Hid (openR eph ws bs tg x = ([], 1)) := by show _ = _; unfold openR; rw [if_neg (fun h => hs h.1)]
    go_enter Try.func33, Try.ntmps33
    go_upto_region 1 with fail
    rw [← HW.out]
    clear HW
    go_wp2_with fail
    refine (l7Secret_any x _).mono ?_
    rintro e w1 ⟨rfl, hw⟩
    have hw2 := hw.symm
    subst hw2
    rw [decide_eq_false hs]
    go_wp2
    go_ret2
    exact ⟨_, 0, 0, by rw [HV.out]; rfl, by rw [HV.out]; exact own_zeroE _ _ _ (by first | rfl | simp | simp [grow]) (B0).size, (B0).alloc (B0).size _⟩

end Go.Proofs.Ytochaopoggempaa
