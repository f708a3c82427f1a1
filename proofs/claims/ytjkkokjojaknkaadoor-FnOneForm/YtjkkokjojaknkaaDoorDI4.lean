import Derived.Test.YtjkkokjojaknkaaDoorDI1
import Derived.Test.YtjkkokjojaknkaaDoorDI3
import Derived.Deep.DeepCutAuto
namespace Go.Proofs.YtjkkokjojaknkaaDoor
open Go.RowKit

theorem drawAll (g : Nat) (a : Option Addr) (n cap : Nat) (bs : List Int) : ∀ l, l ≤ 4 → DrC g a n cap bs l := by
  intro l
  induction l with
  | zero => intro _; exact drawItem_next g a n cap bs 0 (by decide) fun l h => by cases h
  | succ l ih => intro hl; exact drawItem_next g a n cap bs (l + 1) hl fun l2 h => by cases h; exact ih (by omega)
theorem owns_at {w : World} {lo e s n c m : Nat} {a : Option Addr} {xs : List Value} (h : w.ownsRow lo e s (.slice a n c) m xs) {l : Nat} (hl : (Value.slice a n c).ownBlock = some l) : a = some ⟨l, 0, none⟩ := by
  rcases h.2 with ⟨hv, _⟩ | ⟨g, cap', cur, hv, _⟩
  · simp only [Value.slice.injEq] at hv
    obtain ⟨rfl, _⟩ := hv
    cases hl
  · simp only [Value.slice.injEq] at hv
    obtain ⟨rfl, _⟩ := hv
    cases hl
    rfl
set_option maxRecDepth 10000 in
set_option maxHeartbeats 400000 in
theorem open_p (a : Option Addr) (n cap : Nat) (bs : List Int) (w : World) (h : Row w a n bs) (hn : n ≤ 1000000000) :
    Calls Tryd.prog 31 #[.slice a n cap] w fun e w' => e = .returned (.pointer (some ⟨w.heap.size, 0, none⟩)) ∧ RdP w' w.heap.size a n cap bs 0 ∧ Below w.heap.size w w' := by
  have H : Hid (Row w a n bs) := h
  clear h
  go_enter Tryd.func31, Tryd.ntmps31
  go_wp2
  go_ret
  have hb : Below w.heap.size w (w.alloc (.cells #[.slice a n cap, .int .i64 0] 76)) := (Below.refl _ _).alloc (Nat.le_refl _) _
  exact ⟨rfl, ⟨Nat.zero_le _, heap_alloc_new w _, H.out.kept hb, H.out.in_, hn⟩, hb⟩

set_option maxRecDepth 10000 in
set_option maxHeartbeats 16000000 in
theorem drawItemOk_any (a : Option Addr) (n cap : Nat) (bs : List Int) (w : World) (h : Row w a n bs) (hn : n ≤ 1000000000) :
    Calls Tryd.prog 9 #[.slice a n cap] w fun e w' => ∃ ab nb cb ak nk ck, e = .returned (itv (dItem bs) ab nb cb ak nk ck) ∧ Row w' ab nb (dItem bs).body ∧ (ab = none → cb = 0) ∧ nb ≤ 20010 ∧ Kids 13 w' ak nk (dItem bs).kids ∧ Below w.heap.size w w' := by
  obtain ⟨i0, hi, hz0, hz1, hz2⟩ := info_parts Tryd.infoItem
  obtain ⟨i5, hi5, hz50, hz51, hz52⟩ := info_parts Tryd.info5
  have HI : Hid (_ ∧ _ ∧ _ ∧ _) := ⟨hi, hz0, hz1, hz2⟩
  have HI5 : Hid (_ ∧ _ ∧ _ ∧ _) := ⟨hi5, hz50, hz51, hz52⟩
  clear hi hz0 hz1 hz2 hi5 hz50 hz51 hz52
  have HR : Hid (Row w a n bs) := h
  clear h
  go_enter Tryd.func9, Tryd.ntmps9
  go_upto_region 1 with fail
  obtain ⟨W0, hW0⟩ : ∃ W0, W0 = w.alloc (.cells #[.int .i64 0, .int .i64 0, .bool false, .slice none 0 0, .slice none 0 0] 26) := ⟨_, rfl⟩
  have hb0 : Below w.heap.size w W0 := by rw [hW0]; exact (Below.refl _ _).alloc (Nat.le_refl _) _
  have hs0 : W0.heap.size = w.heap.size + 1 := by rw [hW0]; simp
  have HE0 : Hid (W0.heap[w.heap.size]? = some (.cells #[.int .i64 0, .int .i64 0, .bool false, .slice none 0 0, .slice none 0 0] 26 (0, 0))) := by show _ = _; rw [hW0]; exact heap_alloc_new w _
  rw [← hW0]
  clear hW0
  go_wp2_with fail
  refine (open_p a n cap bs W0 (HR.out.kept hb0) hn).mono ?_
  rintro e w1 ⟨rfl, hrd1, hb1⟩
  have hs1 := hb1.size
  have hg1 := hrd1.lt
  obtain ⟨g, hg⟩ : ∃ g, g = W0.heap.size := ⟨_, rfl⟩
  rw [← hg] at hrd1 ⊢
  rw [← hg] at hg1
  have hgw : w.heap.size < g := by omega
  have B1 : Hid (Below w.heap.size w w1) := hb0.trans (hb1.mono (by omega))
  have he1 := (hb1.block w.heap.size (by omega)).trans HE0.out
  have HE1 : Hid (_ = _) := he1
  have HR1 : Hid (_) := hrd1
  clear hb0 hb1 he1 hrd1 HE0 HR hg hs0 hs1
  have HD := drawAll g a n cap bs 4 (Nat.le_refl _) 0 w1 HR1.out
  rw [show (5 - ((4 : Nat) : Int)) = 1 by decide] at HD
  obtain ⟨x, hx⟩ : ∃ x, x = drw bs 4 0 := ⟨_, rfl⟩
  have HX : Hid (x = drw bs 4 0) := hx
  rw [← hx] at HD
  clear hx
  go_wp2_with fail
  refine HD.mono ?_
  rintro e w2 ⟨hq2, ab, nb, cb, ak, nk, ck, M, rfl, m1, m2, ob, nk3, vs, hka⟩
  have hs2 := hq2.2.size
  have B2 : Below w.heap.size w w2 := B1.out.trans (hq2.2.below (by omega) B1.out.size)
  have he2 := (hq2.2.block w.heap.size (by omega) (.inl hgw)).trans HE1.out
  have HM2 : Hid (_ ∧ _ ∧ _ ∧ _ ∧ _) := ⟨B2, he2, hq2.1, ob, hka.toH⟩
  clear B2 he2 hq2 ob hka HD B1 HE1 HR1
  unfold itv
  go_upto_region 3 with (refine wpList_store_rowTo rfl 26 _ _ rfl rfl (w2.heap.size) #[.int .i64 x.1.cls, .int .i64 x.1.tag, .bool x.1.cons, .slice ab nb cb, .slice ak nk ck] rfl rfl 26 #[.int .i64 0, .int .i64 0, .bool false, .slice none 0 0, .slice none 0 0] (heap_alloc_new w2 _) infoSizeIt rfl (by simp [Value.oneCell']) ?_)
  have hal : Below w2.heap.size w2 (w2.alloc (.cells #[.int .i64 0, .int .i64 0, .bool false, .slice none 0 0, .slice none 0 0] 26)) := (Below.refl _ _).alloc (Nat.le_refl _) _
  have hsa : (w2.alloc (.cells #[.int .i64 0, .int .i64 0, .bool false, .slice none 0 0, .slice none 0 0] 26)).heap.size = w2.heap.size + 1 := by simp
  have e3 := setRow_heap (w2.alloc (.cells #[.int .i64 0, .int .i64 0, .bool false, .slice none 0 0, .slice none 0 0] 26)) w2.heap.size _ #[.int .i64 x.1.cls, .int .i64 x.1.tag, .bool x.1.cons, .slice ab nb cb, .slice ak nk ck] 26 (0, 0) (heap_alloc_new w2 _)
  have t3 : Touch w2.heap.size (w2.heap.size + 1) (w2.alloc (.cells #[.int .i64 0, .int .i64 0, .bool false, .slice none 0 0, .slice none 0 0] 26)) ((w2.alloc (.cells #[.int .i64 0, .int .i64 0, .bool false, .slice none 0 0, .slice none 0 0] 26)).setRow w2.heap.size #[.int .i64 x.1.cls, .int .i64 x.1.tag, .bool x.1.cons, .slice ab nb cb, .slice ak nk ck]) := touch_setRow16 _ _ _
  have hD3 : DX w g a n cap bs x.2 ((w2.alloc (.cells #[.int .i64 0, .int .i64 0, .bool false, .slice none 0 0, .slice none 0 0] 26)).setRow w2.heap.size #[.int .i64 x.1.cls, .int .i64 x.1.tag, .bool x.1.cons, .slice ab nb cb, .slice ak nk ck]) w2.heap.size x.1 ab nb cb ak nk ck w1.heap.size M w2.heap.size vs := by
    have hse : ((w2.alloc (.cells #[.int .i64 0, .int .i64 0, .bool false, .slice none 0 0, .slice none 0 0] 26)).setRow w2.heap.size #[.int .i64 x.1.cls, .int .i64 x.1.tag, .bool x.1.cons, .slice ab nb cb, .slice ak nk ck]).heap.size = w2.heap.size + 1 := by simp
    exact ⟨(HM2.out.2.2.1.kept hal).touch t3 (by omega), hgw, by omega, (HM2.out.1.trans (hal.mono (by omega))).trans (t3.below (by omega) (by omega)), (t3.block _ (by omega) (.inl (by omega))).trans ((hal.block _ (by omega)).trans HM2.out.2.1), e3, hg1, m1, m2, by omega, .inl (Nat.le_refl _), (HM2.out.2.2.2.1.kept hal).touch (.inl m2) t3, (HM2.out.2.2.2.2.keptH (Nat.le_refl _) hal).touch (.inl (Nat.le_refl _)) t3, nk3⟩
  obtain ⟨G, hG⟩ : ∃ G, w2.heap.size = G := ⟨_, rfl⟩
  obtain ⟨W3, hW3⟩ : ∃ W3, W3 = (w2.alloc (.cells #[.int .i64 0, .int .i64 0, .bool false, .slice none 0 0, .slice none 0 0] 26)).setRow w2.heap.size #[.int .i64 x.1.cls, .int .i64 x.1.tag, .bool x.1.cons, .slice ab nb cb, .slice ak nk ck] := ⟨_, rfl⟩
  rw [← hW3] at hD3 ⊢
  clear hW3 e3 t3 hal hsa
  have HD3 : Hid (_) := hD3
  clear hD3 HM2 m1 m2 hG
  have BO := once_p g a n cap bs 12 x.2 W3 HD3.out.rd (by decide)
  obtain ⟨o, ho⟩ : ∃ o, o = onV bs 12 x.2 := ⟨_, rfl⟩
  have HO : Hid (o = onV bs 12 x.2) := ho
  rw [← ho] at BO
  clear ho
  go_wp2_with fail
  refine BO.mono ?_
  rintro e w4 ⟨rfl, hq4⟩
  have HD4 : Hid (_) := HD3.out.rdq hq4
  clear hq4 HD3 BO
  go_upto_if 10 with fail
  go_cut [14] (fun _ wx => ∃ (ab : Option Addr) (nb cb : Nat) (ak : Option Addr) (nk ck lo M H : Nat) (vs : List Value), Hid (DX w g a n cap bs (dI1 bs).2 wx w2.heap.size (dI1 bs).1 ab nb cb ak nk ck lo M H vs))
  case first =>
    cases o with
    | false =>
      have e1 : dI1 bs = (x.1, bwP bs 12 x.2) := by rw [HX.out]; exact if_neg (by rw [← HX.out, ← HO.out]; decide)
      have HE1 : Hid (_ = _) := e1
      clear e1
      go_wp2_with fail
      go_meet
      rw [HE1.out]
      exact ⟨_, _, _, _, _, _, _, _, _, _, HD4⟩
    | true =>
      have e1 : dI1 bs = (deepI (10 + bwV bs 3 (bwP bs 12 x.2)), bwP bs 3 (bwP bs 12 x.2)) := by rw [HX.out]; exact if_pos (by rw [← HX.out]; exact HO.out.symm)
      have HE1 : Hid (_ = _) := e1
      clear e1
      have BT := below_p g a n cap bs 3 (bwP bs 12 x.2) w4 HD4.out.rd (by decide)
      have hv : bwV bs 3 (bwP bs 12 x.2) < 3 := bwV_lt _ _ _ (by decide)
      obtain ⟨v, hve⟩ : ∃ v, v = bwV bs 3 (bwP bs 12 x.2) := ⟨_, rfl⟩
      have HV : Hid (v = bwV bs 3 (bwP bs 12 x.2)) := hve
      rw [← hve] at BT hv
      clear hve
      go_wp2_with fail
      refine BT.mono ?_
      rintro e w5 ⟨rfl, hq5⟩
      have HD5 : Hid (_) := HD4.out.rdq hq5
      clear hq5 BT
      have DP := l2Deep_any (11 + v) (2 - v) (by omega) (by omega) w5
      rw [show 11 + v - 1 = 10 + v by omega, Int.natCast_add] at DP
      go_wp2_with fail
      refine DP.mono ?_
      rintro e w6 ⟨⟨ab6, nb6, cb6, ak6, nk6, ck6, M6, rfl, m16, m26, ob6, nk36, vs6, hka6⟩, hb6⟩
      have HD6 : Hid (_) := HD5.out.on hb6
      have hgG := HD5.out.gG
      have hlt5 := HD5.out.lt
      have HM6 : Hid (_ ∧ _) := ⟨ob6, hka6.toH⟩
      clear ob6 hka6 hb6 DP
      unfold itv
      go_wp2_with (refine wpList_store_rowTo rfl 26 _ _ rfl rfl (w2.heap.size) #[.int .i64 (deepI (10 + v)).cls, .int .i64 (deepI (10 + v)).tag, .bool (deepI (10 + v)).cons, .slice ab6 nb6 cb6, .slice ak6 nk6 ck6] rfl rfl 26 #[.int .i64 x.1.cls, .int .i64 x.1.tag, .bool x.1.cons, .slice ab nb cb, .slice ak nk ck] HD6.out.box infoSizeIt rfl (by simp [Value.oneCell']) ?_)
      go_meet
      have e7 := setRow_heap w6 w2.heap.size _ #[.int .i64 (deepI (10 + v)).cls, .int .i64 (deepI (10 + v)).tag, .bool (deepI (10 + v)).cons, .slice ab6 nb6 cb6, .slice ak6 nk6 ck6] 26 (0, 0) HD6.out.box
      have t7 : Touch w2.heap.size (w2.heap.size + 1) w6 (w6.setRow w2.heap.size #[.int .i64 (deepI (10 + v)).cls, .int .i64 (deepI (10 + v)).tag, .bool (deepI (10 + v)).cons, .slice ab6 nb6 cb6, .slice ak6 nk6 ck6]) := touch_setRow16 _ _ _
      have h6 := HD6.out
      have g1 := h6.gw
      have hse : (w6.setRow w2.heap.size #[.int .i64 (deepI (10 + v)).cls, .int .i64 (deepI (10 + v)).tag, .bool (deepI (10 + v)).cons, .slice ab6 nb6 cb6, .slice ak6 nk6 ck6]).heap.size = w6.heap.size := by simp
      rw [HE1.out, ← HV.out]
      exact ⟨ab6, nb6, cb6, ak6, nk6, ck6, w5.heap.size, M6, w6.heap.size, vs6, h6.rd.touch t7 hgG, g1, hgG, h6.bel.trans (t7.below (by omega) h6.bel.size), (t7.block _ (by omega) (.inl (by omega))).trans h6.res, e7, by omega, m16, m26, by rw [hse]; exact Nat.le_refl _, .inr hlt5, HM6.out.1.touch (.inr (by omega)) t7, HM6.out.2.touch (.inr (by omega)) t7, nk36⟩
  case rest =>
  clear HD4 HX HO nk3
  obtain ⟨ab, nb, cb, ak, nk, ck, lo, M, H, vs, HDa⟩ := hcut
  have HW := dI1_wt bs
  have hnbH : Hid (nb ≤ 256) := by show _ ≤ _; have := HDa.out.ob.own.length; have := HW.1; omega
  clear HW
  obtain ⟨q, hq⟩ : ∃ q, q = (dI1 bs).2 := ⟨_, rfl⟩
  have HQ : Hid (q = (dI1 bs).2) := hq
  rw [← hq] at HDa
  clear hq
  obtain ⟨y, hy⟩ : ∃ y, y = (dI1 bs).1 := ⟨_, rfl⟩
  have HY : Hid (y = (dI1 bs).1) := hy
  rw [← hy] at HDa
  clear hy
  have BO := once_p g a n cap bs 6 q wc HDa.out.rd (by decide)
  obtain ⟨o, ho⟩ : ∃ o, o = onV bs 6 q := ⟨_, rfl⟩
  have HO : Hid (o = onV bs 6 q) := ho
  rw [← ho] at BO
  clear ho
  go_wp2_with fail
  refine BO.mono ?_
  rintro e w4b ⟨rfl, hq4⟩
  have HDb : Hid (_) := HDa.out.rdq hq4
  clear hq4 HDa BO
  go_upto_if 16 with fail
  go_cut [53] (fun _ wx => ∃ (ab : Option Addr) (nb cb : Nat) (ak : Option Addr) (nk ck : Nat), Hid (DZ w wx w2.heap.size (dItem bs) ab nb cb ak nk ck))
  case first =>
    cases o with
    | false =>
      have e1 : dItem bs = y := by rw [HY.out]; exact if_neg (by rw [← HQ.out, ← HO.out]; decide)
      have HE1 : Hid (_ = _) := e1
      clear e1
      go_wp2_with fail
      go_meet
      rw [HE1.out]
      exact ⟨_, _, _, _, _, _, HDb.out.done (by have := hnbH.out; omega)⟩
    | true =>
      have e1 : dItem bs = dBend bs y (bwP bs 6 q) := by rw [HY.out, HQ.out]; exact if_pos (by rw [← HQ.out]; exact HO.out.symm)
      have HE1 : Hid (dItem bs = dBend bs y (bwP bs 6 q)) := e1
      clear e1
      obtain ⟨q6, hq6⟩ : ∃ q6, q6 = bwP bs 6 q := ⟨_, rfl⟩
      rw [← hq6] at HDb HE1
      clear hq6
      have BT := below_p g a n cap bs 5 q6 w4b HDb.out.rd (by decide)
      have hv5 : bwV bs 5 q6 < 5 := bwV_lt _ _ _ (by decide)
      obtain ⟨q2, hq2⟩ : ∃ q2, q2 = bwP bs 5 q6 := ⟨_, rfl⟩
      have HQ2 : Hid (q2 = bwP bs 5 q6) := hq2
      rw [← hq2] at BT
      clear hq2
      have hcases : bwV bs 5 q6 = 0 ∨ bwV bs 5 q6 = 1 ∨ bwV bs 5 q6 = 2 ∨ bwV bs 5 q6 = 3 ∨ bwV bs 5 q6 = 4 := by omega
      rcases hcases with hv | hv | hv | hv | hv
      · rw [hv, show ((0 : Nat) : Int) = 0 from rfl] at BT
        have HE2 : Hid (dItem bs = .mk ((bwV bs 6 q2 : Int) - 1) y.tag y.cons y.body y.kids) := by show _ = _; rw [HE1.out, HQ2.out]; exact if_pos hv
        clear hv hv5 HE1
        go_wp2_with fail
        refine BT.mono ?_
        rintro e w5 ⟨rfl, hq5⟩
        have HD5 : Hid (_) := HDb.out.rdq hq5
        clear hq5 BT
        have BT2 := below_p g a n cap bs 6 q2 w5 HD5.out.rd (by decide)
        have hv6 : bwV bs 6 q2 < 6 := bwV_lt _ _ _ (by decide)
        obtain ⟨v, hve⟩ : ∃ v, v = bwV bs 6 q2 := ⟨_, rfl⟩
        rw [← hve] at BT2 HE2 hv6
        clear hve
        go_wp2_with fail
        refine BT2.mono ?_
        rintro e w6 ⟨rfl, hq6⟩
        have HD6 : Hid (_) := HD5.out.rdq hq6
        clear hq6 BT2
        obtain ⟨⟨x0, x1, x2, x3, x4⟩, y0, y1, y2, y3, y4⟩ := HD6.out.cells
        go_wp2_with fail
        go_meet
        rw [HE2.out]
        exact ⟨_, _, _, _, _, _, HD6.out.put (y' := .mk ((v : Int) - 1) y.tag y.cons y.body y.kids) rfl rfl (by have := hnbH.out; omega) ((heap_setCell_same w6 w2.heap.size 0 _ 26 _ HD6.out.box).trans rfl)⟩
      · rw [hv, show ((1 : Nat) : Int) = 1 from rfl] at BT
        have HE2 : Hid (dItem bs = .mk y.cls (badT.getD (bwV bs 4 q2) 0) y.cons y.body y.kids) := by show _ = _; rw [HE1.out, HQ2.out]; exact (if_neg (by omega)).trans (if_pos hv)
        clear hv hv5 HE1
        go_wp2_with fail
        refine BT.mono ?_
        rintro e w5 ⟨rfl, hq5⟩
        have HD5 : Hid (_) := HDb.out.rdq hq5
        clear hq5 BT
        obtain ⟨wt, hwt⟩ : ∃ wt, wt = w5.alloc (.cells badC 2) := ⟨_, rfl⟩
        have hbt : Below w5.heap.size w5 wt := by rw [hwt]; exact (Below.refl _ _).alloc (Nat.le_refl _) _
        have xt : wt.heap[w5.heap.size]? = some (.cells badC 2) := by rw [hwt]; exact heap_alloc_new w5 _
        have st : w5.heap.size < wt.heap.size := (Array.getElem?_eq_some_iff.1 xt).1
        have HT : Hid (_) := HD5.out.on hbt
        have HWT : Hid (_ = _) := hwt
        have BT := below_p g a n cap bs 4 q2 wt HT.out.rd (by decide)
        have hv : bwV bs 4 q2 < 4 := bwV_lt _ _ _ (by decide)
        obtain ⟨v, hve⟩ : ∃ v, v = bwV bs 4 q2 := ⟨_, rfl⟩
        have HV : Hid (v = bwV bs 4 q2) := hve
        rw [← hve] at BT hv
        clear hwt hve hbt
        go_wp2_with fail
        have et : w5.alloc (.cells #[.int .i64 (-1), .int .i64 0, .int .i64 268435455, .int .i64 268435456] 2) = wt := HWT.out.symm
        rw [et]
        clear HWT et
        refine BT.mono ?_
        rintro e w6 ⟨rfl, hqt⟩
        obtain ⟨z, hz⟩ : ∃ z, z = badT.getD v 0 := ⟨_, rfl⟩
        have HZ : Hid (z = badT.getD v 0) := hz
        have hui : (v : Int) < 4 := by omega
        have hgl : g < w5.heap.size := Nat.lt_trans HD5.out.gG HD5.out.lt
        have js : w6.cell? ⟨w5.heap.size, v, none⟩ = some (.int .i64 z) := by rw [hz]; exact (cell_of_row _ _ v _ 2 (0, 0) ((hqt.2.block _ st (.inr (by omega))).trans xt)).trans (badC_get v hv)
        have hsw6 := hqt.2.size
        have hlw6 : w5.heap.size < w6.heap.size := by omega
        have HD6 : Hid (_) := HT.out.rdq hqt
        clear hqt xt HT hz
        obtain ⟨⟨x0, x1, x2, x3, x4⟩, y0, y1, y2, y3, y4⟩ := HD6.out.cells
        go_wp2_with fail
        go_meet
        rw [HE2.out, ← HV.out, ← HZ.out]
        exact ⟨_, _, _, _, _, _, HD6.out.put (y' := .mk y.cls z y.cons y.body y.kids) rfl rfl (by have := hnbH.out; omega) ((heap_setCell_same w6 w2.heap.size 1 _ 26 _ HD6.out.box).trans rfl)⟩
      · rw [hv, show ((2 : Nat) : Int) = 2 from rfl] at BT
        have HE2 : Hid (dItem bs = .mk y.cls y.tag (!y.cons) y.body y.kids) := by show _ = _; rw [HE1.out]; exact (if_neg (by omega)).trans ((if_neg (by omega)).trans (if_pos hv))
        clear hv hv5 HE1
        go_wp2_with fail
        refine BT.mono ?_
        rintro e w5 ⟨rfl, hq5⟩
        have HD5 : Hid (_) := HDb.out.rdq hq5
        clear hq5 BT
        obtain ⟨⟨x0, x1, x2, x3, x4⟩, y0, y1, y2, y3, y4⟩ := HD5.out.cells
        go_wp2_with fail
        go_meet
        rw [HE2.out]
        exact ⟨_, _, _, _, _, _, HD5.out.put (y' := .mk y.cls y.tag (!y.cons) y.body y.kids) rfl rfl (by have := hnbH.out; omega) ((heap_setCell_same w5 w2.heap.size 2 _ 26 _ HD5.out.box).trans rfl)⟩
      · rw [hv, show ((3 : Nat) : Int) = 3 from rfl] at BT
        have HE2 : Hid (dItem bs = .mk y.cls y.tag false (List.replicate (19995 + bwV bs 8 q2) 0) []) := by show _ = _; rw [HE1.out, HQ2.out]; exact (if_neg (by omega)).trans ((if_neg (by omega)).trans ((if_neg (by omega)).trans (if_pos hv)))
        clear hv hv5 HE1
        go_wp2_with fail
        refine BT.mono ?_
        rintro e w5 ⟨rfl, hq5⟩
        have HD5 : Hid (_) := HDb.out.rdq hq5
        clear hq5 BT
        have BT2 := below_p g a n cap bs 8 q2 w5 HD5.out.rd (by decide)
        have hv6 : bwV bs 8 q2 < 8 := bwV_lt _ _ _ (by decide)
        obtain ⟨v, hve⟩ : ∃ v, v = bwV bs 8 q2 := ⟨_, rfl⟩
        rw [← hve] at BT2 HE2 hv6
        clear hve
        go_wp2_with fail
        refine BT2.mono ?_
        rintro e w6 ⟨rfl, hq6⟩
        have HD6 : Hid (_) := HD5.out.rdq hq6
        clear hq6 BT2
        obtain ⟨hi5, hz50, hz51, hz52⟩ := HI5.out
        go_wp2_with (at_make; refine wpList_make_full _ rfl _ _ 22 rfl w6.heap.size 5 i5 (.int .u8 0) 1 Tryd.underlying22 hi5 hz50 hz51 _ _ _ _ (19995 + v) rfl rfl (by first | rfl | (simp; done) | (simp; omega)) (by first | rfl | (simp; done) | (simp; omega)) (by rw [hz52]; omega) (by unfold maxLen; omega) (by exact Nat.le_refl _) ?_; intro w9 hown hgrow; have HD9 := HD6.out.on ((Below.refl w6.heap.size w6).grown hgrow (Nat.le_refl _) (by simp)); obtain ⟨⟨x0, x1, x2, x3, x4⟩, y0, y1, y2, y3, y4⟩ := HD9.cells; have HWW : Hid (_ ∧ _ ∧ _) := ⟨hown, hgrow, HD9⟩; clear hown hgrow HD9)
        go_meet
        have h9 := HWW.out.2.2
        have ho9 := (own_made HWW.out.1).ownB
        have hs9 := HWW.out.2.1.size
        have g1 := h9.gw
        have g2 := h9.gG
        have g3 := HD6.out.lt
        have r1 : (w9.setCell ⟨w2.heap.size, 3, none⟩ (.slice (some ⟨w6.heap.size, 0, none⟩) (19995 + v) (19995 + v))).heap[w2.heap.size]? = some (.cells #[.int .i64 y.cls, .int .i64 y.tag, .bool y.cons, .slice (some ⟨w6.heap.size, 0, none⟩) (19995 + v) (19995 + v), .slice ak nk ck] 26 (0, 0)) := (heap_setCell_same w9 w2.heap.size 3 _ 26 _ h9.box).trans rfl
        have r2 : ((w9.setCell ⟨w2.heap.size, 3, none⟩ (.slice (some ⟨w6.heap.size, 0, none⟩) (19995 + v) (19995 + v))).setCell ⟨w2.heap.size, 2, none⟩ (.bool false)).heap[w2.heap.size]? = some (.cells #[.int .i64 y.cls, .int .i64 y.tag, .bool false, .slice (some ⟨w6.heap.size, 0, none⟩) (19995 + v) (19995 + v), .slice ak nk ck] 26 (0, 0)) := (heap_setCell_same _ w2.heap.size 2 _ 26 _ r1).trans rfl
        have r3 : (((w9.setCell ⟨w2.heap.size, 3, none⟩ (.slice (some ⟨w6.heap.size, 0, none⟩) (19995 + v) (19995 + v))).setCell ⟨w2.heap.size, 2, none⟩ (.bool false)).setCell ⟨w2.heap.size, 4, none⟩ (.slice none 0 0)).heap[w2.heap.size]? = some (.cells #[.int .i64 y.cls, .int .i64 y.tag, .bool false, .slice (some ⟨w6.heap.size, 0, none⟩) (19995 + v) (19995 + v), .slice none 0 0] 26 (0, 0)) := (heap_setCell_same _ w2.heap.size 4 _ 26 _ r2).trans rfl
        have T := ((touch_set w9 w2.heap.size 3 (.slice (some ⟨w6.heap.size, 0, none⟩) (19995 + v) (19995 + v)) (Nat.le_refl w2.heap.size) (Nat.lt_succ_self _)).trans (touch_set _ w2.heap.size 2 (.bool false) (Nat.le_refl w2.heap.size) (Nat.lt_succ_self _))).trans (touch_set _ w2.heap.size 4 (.slice none 0 0) (Nat.le_refl w2.heap.size) (Nat.lt_succ_self _))
        rw [HE2.out]
        exact ⟨some ⟨w6.heap.size, 0, none⟩, 19995 + v, 19995 + v, none, 0, 0, h9.bel.trans (T.below (by omega) h9.bel.size), by omega, (T.block _ (by omega) (.inl (by omega))).trans h9.res, r3, (by intro h; cases h), by omega, fun W' t' => ⟨((ho9.touch (.inr (by omega)) T).touch (.inr (by omega)) t').own.toRow, (ownKids_nil 12 0 0 W' none).kids⟩⟩
      · rw [hv, show ((4 : Nat) : Int) = 4 from rfl] at BT
        have HE2 : Hid (dItem bs = .mk y.cls y.tag y.cons y.body (y.kids ++ [zeroIt])) := by show _ = _; rw [HE1.out]; exact (if_neg (by omega)).trans ((if_neg (by omega)).trans ((if_neg (by omega)).trans (if_neg (by omega))))
        clear hv hv5 HE1
        go_wp2_with fail
        refine BT.mono ?_
        rintro e w5 ⟨rfl, hq5⟩
        have HD5 : Hid (_) := HDb.out.rdq hq5
        clear hq5 BT
        obtain ⟨⟨x0, x1, x2, x3, x4⟩, y0, y1, y2, y3, y4⟩ := HD5.out.cells
        obtain ⟨hi, hz0, hz1, hz2⟩ := HI.out
        have hal : Below w5.heap.size w5 (w5.alloc (.cells #[.int .i64 0, .int .i64 0, .bool false, .slice none 0 0, .slice none 0 0] 26)) := (Below.refl _ _).alloc (Nat.le_refl _) _
        have hsz5 : (w5.alloc (.cells #[.int .i64 0, .int .i64 0, .bool false, .slice none 0 0, .slice none 0 0] 26)).heap.size = w5.heap.size + 1 := by simp
        have HD6 : Hid (_) := HD5.out.on hal
        have HNEWS : Hid (_) := cells_new w5 #[.int .i64 0, .int .i64 0, .bool false, .slice none 0 0, .slice none 0 0] 26
        have HAL : Hid (_) := hal
        have hn3 := HD5.out.n3
        have hM6 : M ≤ w5.heap.size + 1 := by have := HD5.out.m2; have := HD5.out.m3; omega
        have hG6 : w2.heap.size < w5.heap.size + 1 := by have := HD5.out.lt; omega
        have hGM : w2.heap.size < w5.heap.size := HD5.out.lt
        clear hal x0 x1 x2 x3 y0 y1 y2 y3 y4
        go_wp2_with (at_builtin; refine wpList_append_lies _ rfl (.tmp 20) (.tmp 22) 24 rfl M 26 i0 _ 5 72 Tryd.underlying24 hi hz0 hz1 hz2 rfl (by decide) _ nk vs rfl HD6.out.ks.row ⟨w5.heap.size, 0, none⟩ 1 1 [.int .i64 0, .int .i64 0, .bool false, .slice none 0 0, .slice none 0 0] rfl rfl HNEWS.out (by intro u hu; simp only [List.mem_cons, List.not_mem_nil, or_false] at hu; rcases hu with rfl | rfl | rfl | rfl | rfl <;> rfl) (by decide) (by unfold maxLen; omega) (by omega) (by rw [hsz5]; exact hM6) (w5.heap.size + 1) hsz5 ?_; intro g5 c5 w5x hown5 hg5 hlies5 hlt5; have hne5 : ∀ l, (Value.slice ak nk ck).ownBlock = some l → l ≠ w2.heap.size := (fun l hl => by have h1 := HD6.out.ks.row.lt l hl; have h2 := HD6.out.sep; have h3 := HD6.out.ks.blk l (owns_at HD6.out.ks.row hl); have h4 := HD6.out.m1; omega); have y3 := (hg5.block w2.heap.size (by omega) (fun e => (hne5 _ e.symm) rfl)).trans HD6.out.box; have yc4 : w5x.cell? ⟨w2.heap.size, 4, none⟩ = some (.slice ak nk ck) := (cell_of_row _ w2.heap.size 4 _ 26 (0, 0) y3).trans rfl; have yf4 : w5x.frozen? ⟨w2.heap.size, 4, none⟩ = false := frozen_of_row w5x w2.heap.size 4 _ 26 y3; have HOW : Hid (_ ∧ _ ∧ _ ∧ _ ∧ _) := ⟨hown5, hg5, hlies5, y3, hne5⟩; clear hown5 hg5 hlies5 y3 hne5)
        go_meet
        obtain ⟨hown5, hg5, hlies5, y3, hne5⟩ := HOW.out
        have h6 := HD6.out
        have g1 := h6.gw
        have g2 := h6.gG
        have g4 := h6.wl
        have g5' := h6.m1
        have g6 := h6.m2
        have g7 := h6.sep
        have hlow : ∀ l, (Value.slice ak nk ck).ownBlock = some l → M ≤ l := fun l hl => (h6.ks.row.lt l hl).1
        have tS := touch_set w5x w2.heap.size 4 (.slice (some ⟨g5, 0, none⟩) (nk + 1) c5) (Nat.le_refl w2.heap.size) (Nat.lt_succ_self _)
        have tg := touch_grown hg5 (fun l hl => ⟨hlow l hl, (h6.ks.row.lt l hl).2⟩)
        have hbx : Below w.heap.size w w5x := h6.bel.grown hg5 h6.bel.size (fun l hl => by have := hlow l hl; omega)
        have hrx := (hg5.block w.heap.size (by have := h6.lt; omega) (fun e => by have := hlow _ e.symm; omega)).trans h6.res
        have hsx := hg5.size
        have hg5G : g5 ≠ w2.heap.size := by
          rcases hlies5 with hl | hl
          · exact hne5 _ hl
          · omega
        have hg5R : g5 ≠ w.heap.size := by
          rcases hlies5 with hl | hl
          · have := hlow _ hl; omega
          · omega
        rw [HE2.out]
        refine ⟨ab, nb, cb, some ⟨g5, 0, none⟩, nk + 1, c5, hbx.trans (tS.below (by omega) hbx.size), by omega, (tS.block _ (by omega) (.inl (by omega))).trans hrx, (heap_setCell_same w5x w2.heap.size 4 _ 26 _ y3).trans rfl, h6.ob.own.nil, by have := hnbH.out; omega, fun W' t' => ⟨?_, ?_⟩⟩
        · exact (((h6.ob.touch (.inl (Nat.le_refl _)) tg).touch (by omega) tS).touch (.inr (by omega)) t').own.toRow
        · exact append_reads (d := 11) (W := w5) HD5.out.ks (by omega) HAL.out hown5 hg5 tS (by omega) hg5G t' (by omega) hg5R
  case rest =>
  clear HDb HO HY HQ hnbH
  obtain ⟨ab, nb, cb, ak, nk, ck, HZ⟩ := hcut
  go_wp2_with (first | (refine wpList_load_row rfl 26 _ rfl (w2.heap.size) rfl 26 #[.int .i64 (dItem bs).cls, .int .i64 (dItem bs).tag, .bool (dItem bs).cons, .slice ab nb cb, .slice ak nk ck] (0, 0) _ HZ.out.box Tryd.underlying26 rfl infoSizeIt ?_) | (refine wpList_store_rowTo rfl 26 _ _ rfl rfl (w.heap.size) #[.int .i64 (dItem bs).cls, .int .i64 (dItem bs).tag, .bool (dItem bs).cons, .slice ab nb cb, .slice ak nk ck] rfl rfl 26 #[.int .i64 0, .int .i64 0, .bool false, .slice none 0 0, .slice none 0 0] HZ.out.res infoSizeIt rfl (by simp [Value.oneCell']) ?_))
  have q4 := setRow_heap wc w.heap.size _ #[.int .i64 (dItem bs).cls, .int .i64 (dItem bs).tag, .bool (dItem bs).cons, .slice ab nb cb, .slice ak nk ck] 26 (0, 0) HZ.out.res
  have tt : Touch w.heap.size (w.heap.size + 1) wc (wc.setRow w.heap.size #[.int .i64 (dItem bs).cls, .int .i64 (dItem bs).tag, .bool (dItem bs).cons, .slice ab nb cb, .slice ak nk ck]) := touch_setRow16 _ _ _
  try simp only [Exit.inBlock, Exit.then]
  refine bodyPost_ret (results_item rfl _ w.heap.size rfl _ _ _ _ _ _ q4) rfl ?_
  have hr := HZ.out.rd _ tt
  exact ⟨ab, nb, cb, ak, nk, ck, rfl, hr.1, HZ.out.nil, HZ.out.nb3, hr.2, HZ.out.bel.trans (tt.below (Nat.le_refl _) HZ.out.bel.size)⟩

end Go.Proofs.YtjkkokjojaknkaaDoor
