import Derived.Test.YtckdikgbigkilabWWt
import Derived.Deep.RegionWith
namespace Go.Proofs.Ytckdikgbigkilab
open Go.RowKit

set_option maxRecDepth 10000 in
set_option maxHeartbeats 20000000 in
theorem lawWalk_walk (d : Nat) (x : It) (ab : Option Addr) (nb cb : Nat) (ak : Option Addr) (nk ck : Nat) (ap : Option Addr) (np cp : Nat) (ps : List Int) (w : World) (hrow : Row w ab nb x.body) (hnb : nb ≤ 9223372036854775807) (hk : Kids d w ak nk x.kids) (hp : Row64 w ap np ps) (hnpm : np ≤ 9223372036854775807) :
    Calls Try.prog 6 #[itv x ab nb cb ak nk ck, .slice ap np cp] w fun e w' => e = .returned (.bool true) ∧ Below w.heap.size w w' := by
  have HR : Hid (Row w ab nb x.body) := hrow
  have HK : Hid (Kids d w ak nk x.kids) := hk
  have HP : Hid (Row64 w ap np ps) := hp
  clear hrow hk hp
  have hbl : Below w.heap.size w (w.alloc (.cells #[.int .i64 x.cls, .int .i64 x.tag, .bool x.cons, .slice ab nb cb, .slice ak nk ck] 29)) := (Below.refl _ _).alloc (Nat.le_refl _) _
  have hbx := boxT_new 29 w x ab nb cb ak nk ck
  by_cases hnp : np ≤ 1048576
  · have hnp' : ¬ (np : Int) > 1048576 := by omega
    unfold itv
    go_enter Try.func6, Try.ntmps6
    go_wp2_with fail
    refine (szItem_any d (szS_all d) x ab nb cb ak nk ck 1048576 _ hnb (HK.out.kept hbl) (by decide) (by decide)).mono ?_
    rintro e w1 ⟨rfl, hb1⟩
    have B1 : Below w.heap.size w w1 := hbl.trans (hb1.mono hbl.size)
    replace hbx := hbx.kept hb1
    clear hb1 hbl
    by_cases hlt : ((nb + wtS d x.kids : Nat) : Int) ≤ 1048576
    · have e1 : szR (nb + wtS d x.kids) 1048576 = 1048576 - ((nb + wtS d x.kids : Nat) : Int) := by rw [szR, if_pos hlt]
      obtain ⟨v, hv⟩ : ∃ v, v = 1048576 - ((nb + wtS d x.kids : Nat) : Int) := ⟨_, rfl⟩
      have hv0 : ¬ v < 0 := by omega
      rw [e1, ← hv]
      have hb20 : nb ≤ 1048576 := by omega
      have HW : Hid (wtS d x.kids ≤ 1048576) := by show _ ≤ _; omega
      clear e1 hv hlt hnb
      obtain ⟨q0, q1, q2, q3, q4⟩ := hbx.cells
      have HB : Hid (_) := hbx
      clear hbx
      obtain ⟨y, hy⟩ : ∃ y, y = (walkL x ps).getD zeroIt := ⟨_, rfl⟩
      obtain ⟨s, hs⟩ : ∃ s, s = (walkL x ps).isSome := ⟨_, rfl⟩
      have HY : Hid (y = (walkL x ps).getD zeroIt) := hy
      have HSS : Hid (s = (walkL x ps).isSome) := hs
      clear hy hs
      go_wp2_with fail
      refine (toItem_any d (toS_all d) x ab nb cb ak nk ck _ (HR.out.kept B1) (HK.out.kept B1) hb20 HW.out).mono ?_
      rintro e w2 ⟨ab2, ak2, M2, rfl, _, _, ob2, ok2, hb2⟩
      have B2 : Below w.heap.size w w2 := B1.trans (hb2.mono B1.size)
      have HB2 : Hid (_) := HB.out.kept hb2
      clear q0 q1 q2 q3 q4 HB hb2
      unfold itv
      go_wp2_with fail
      refine (toInt64S_any ap np cp ps _ (HP.out.kept B2) hnp).mono ?_
      rintro e w3 ⟨ap3, rfl, op3, hb3⟩
      have B3 : Below w.heap.size w w3 := B2.trans (hb3.mono B2.size)
      have HB3 : Hid (_) := HB2.out.kept hb3
      have ob3 := ob2.kept hb3
      have ok3 := ok2.kept hb3
      have z3 := B3.size
      clear HB2 ob2 ok2 hb3
      go_wp2_with fail
      refine (specWalk_any d x ab2 nb nb ak2 nk nk ap3 np np ps _ ob3.own.toRow ob3.own.nil hb20 ok3.kids HW.out op3.toRow hnp).mono ?_
      rintro e w4 ⟨y4, dw, abw, nbw, cbw, akw, nkw, ckw, Mw, s4, rfl, hy4, hs4, hnbw, hwtw, mw1, mw2, obw, okw, hb4⟩
      obtain rfl : y4 = y := hy4.out.trans HY.out.symm
      obtain rfl : s4 = s := hs4.out.trans HSS.out.symm
      have B4 : Below w.heap.size w w4 := B3.trans (hb4.mono B3.size)
      have z4 := hb4.size
      have hal4 : Below w4.heap.size w4 (w4.alloc (.cells #[.int .i64 y4.cls, .int .i64 y4.tag, .bool y4.cons, .slice abw nbw cbw, .slice akw nkw ckw] 34)) := (Below.refl _ _).alloc (Nat.le_refl _) _
      have B5 : Below w.heap.size w (w4.alloc (.cells #[.int .i64 y4.cls, .int .i64 y4.tag, .bool y4.cons, .slice abw nbw cbw, .slice akw nkw ckw] 34)) := B4.alloc B4.size _
      have TW5 : Hid (_) := tree_new (y := y4) (cb := cbw) (ck := ckw) obw okw mw1 mw2
      have HB5 : Hid (_) := (HB3.out.kept hb4).kept hal4
      have zz5 : (w4.alloc (.cells #[.int .i64 y4.cls, .int .i64 y4.tag, .bool y4.cons, .slice abw nbw cbw, .slice akw nkw ckw] 34)).heap.size = w4.heap.size + 1 := by simp
      obtain ⟨q0, q1, q2, q3, q4⟩ := HB5.out.cells
      clear hy4 hs4 hnbw hwtw obw okw hb4 HB3 hal4 ob3 ok3 op3
      unfold itv
      go_wp2_with fail
      obtain ⟨W5, hW5⟩ : ∃ W5, W5 = (w4.alloc (.cells #[.int .i64 y4.cls, .int .i64 y4.tag, .bool y4.cons, .slice abw nbw cbw, .slice akw nkw ckw] 34)) := ⟨_, rfl⟩
      rw [← hW5] at TW5 HB5 B5 zz5 ⊢
      clear hW5 q0 q1 q2 q3 q4
      refine (toItem_any d (toS_all d) x ab nb cb ak nk ck _ (HR.out.kept B5) (HK.out.kept B5) hb20 HW.out).mono ?_
      rintro e w6 ⟨ab6, ak6, M6, rfl, mx1, mx2, ob6, ok6, hb6⟩
      have B6 : Below w.heap.size w w6 := B5.trans (hb6.mono B5.size)
      have z6 := hb6.size
      have hal6 : Below w6.heap.size w6 (w6.alloc (.cells #[.int .i64 x.cls, .int .i64 x.tag, .bool x.cons, .slice ab6 nb nb, .slice ak6 nk nk] 34)) := (Below.refl _ _).alloc (Nat.le_refl _) _
      have B7 : Below w.heap.size w (w6.alloc (.cells #[.int .i64 x.cls, .int .i64 x.tag, .bool x.cons, .slice ab6 nb nb, .slice ak6 nk nk] 34)) := B6.alloc B6.size _
      have TX7 : Hid (_) := tree_new (y := x) (cb := nb) (ck := nk) ob6 ok6 mx1 mx2
      have TW7 : Hid (_) := (TW5.out.kept hb6).kept hal6
      have HB7 : Hid (_) := (HB5.out.kept hb6).kept hal6
      have zz7 : (w6.alloc (.cells #[.int .i64 x.cls, .int .i64 x.tag, .bool x.cons, .slice ab6 nb nb, .slice ak6 nk nk] 34)).heap.size = w6.heap.size + 1 := by simp
      clear ob6 ok6 hb6 TW5 HB5 hal6
      unfold itv
      go_wp2_with fail
      obtain ⟨W7, hW7⟩ : ∃ W7, W7 = (w6.alloc (.cells #[.int .i64 x.cls, .int .i64 x.tag, .bool x.cons, .slice ab6 nb nb, .slice ak6 nk nk] 34)) := ⟨_, rfl⟩
      rw [← hW7] at TX7 TW7 HB7 B7 zz7 ⊢
      clear hW7
      refine (toInt64S_any ap np cp ps _ (HP.out.kept B7) hnp).mono ?_
      rintro e w8 ⟨ap8, rfl, op8, hb8⟩
      have B8 : Below w.heap.size w w8 := B7.trans (hb8.mono B7.size)
      have z8 := hb8.size
      have TX8 : Hid (_) := TX7.out.kept hb8
      have TW8 : Hid (_) := TW7.out.kept hb8
      have HB8 : Hid (_) := HB7.out.kept hb8
      have O18 : Hid (_) := op8
      obtain ⟨p0, p1, p2, p3, p4⟩ := TX8.out.box.cells
      clear hb8 op8 TX7 TW7 HB7
      go_wp2_with fail
      refine (implWalk_any d x ab6 nb nb ak6 nk nk ap8 np np ps _ TX8.out.body.own.toRow TX8.out.body.own.nil hb20 TX8.out.kids.kids HW.out O18.out.toRow hnp).mono ?_
      rintro e w9 ⟨y9, dg, abg, nbg, cbg, akg, nkg, ckg, Mg, s9, rfl, hy9, hs9, hnbg, hwtg, mg1, mg2, obg, okg, hb9⟩
      obtain rfl : y9 = y4 := hy9.out.trans HY.out.symm
      obtain rfl : s9 = s4 := hs9.out.trans HSS.out.symm
      have B9 : Below w.heap.size w w9 := B8.trans (hb9.mono B8.size)
      have z9 := hb9.size
      have hal9 : Below w9.heap.size w9 (w9.alloc (.cells #[.int .i64 y9.cls, .int .i64 y9.tag, .bool y9.cons, .slice abg nbg cbg, .slice akg nkg ckg] 34)) := (Below.refl _ _).alloc (Nat.le_refl _) _
      have BA : Below w.heap.size w (w9.alloc (.cells #[.int .i64 y9.cls, .int .i64 y9.tag, .bool y9.cons, .slice abg nbg cbg, .slice akg nkg ckg] 34)) := B9.alloc B9.size _
      have TGA : Hid (_) := tree_new (y := y9) (cb := cbg) (ck := ckg) obg okg mg1 mg2
      have TWA : Hid (_) := (TW8.out.kept hb9).kept hal9
      have TXA : Hid (_) := (TX8.out.kept hb9).kept hal9
      have HBA : Hid (_) := (HB8.out.kept hb9).kept hal9
      have O1A : Hid (_) := (O18.out.kept hb9).kept hal9
      have zzA : (w9.alloc (.cells #[.int .i64 y9.cls, .int .i64 y9.tag, .bool y9.cons, .slice abg nbg cbg, .slice akg nkg ckg] 34)).heap.size = w9.heap.size + 1 := by simp
      have t1 : (s9 != s9) = false := by simp
      have HWG : Hid (_ ≤ _) := hwtg.out
      obtain ⟨r0, r1, r2, r3, r4⟩ := TWA.out.box.cells
      obtain ⟨u0, u1, u2, u3, u4⟩ := TGA.out.box.cells
      clear hy9 hs9 hwtg obg okg hb9 hal9 TW8 TX8 HB8 O18 p0 p1 p2 p3 p4
      unfold itv
      go_wp2_with fail
      refine Calls.mono (TGA.out.eq TWA.out) ?_
      rintro e wB ⟨rfl, hbB⟩
      have BB : Below w.heap.size w wB := BA.trans (hbB.mono BA.size)
      have zB := hbB.size
      rw [zzA] at zB
      have TGB : Hid (_) := TGA.out.kept hbB
      have TWB : Hid (_) := TWA.out.kept hbB
      have TXB : Hid (_) := TXA.out.kept hbB
      have HBB : Hid (_) := HBA.out.kept hbB
      have O1B : Hid (_) := O1A.out.kept hbB
      obtain ⟨p0, p1, p2, p3, p4⟩ := TXB.out.box.cells
      obtain ⟨q0, q1, q2, q3, q4⟩ := HBB.out.cells
      have hltA : w.heap.size < W5.heap.size := by omega
      clear hbB TGA TWA TXA HBA O1A r0 r1 r2 r3 r4 u0 u1 u2 u3 u4
      go_wp2_with fail
      have hszB := BB.size
      have Bd : Below w.heap.size w wB.drew := BB.drew
      have hdd : Below wB.heap.size wB wB.drew := (Below.refl _ _).drew
      have TI : Hid (_) := toItem_any d (toS_all d) x ab nb cb ak nk ck wB.drew (HR.out.kept Bd) (HK.out.kept Bd) hb20 HW.out
      have EQ : ∀ (ab7 ak7 : Option Addr) (wa : World), Below wB.drew.heap.size wB.drew wa → Row wa ab7 nb x.body → Kids d wa ak7 nk x.kids → Hid (Calls Try.prog 17 #[itv x ab6 nb nb ak6 nk nk, itv x ab7 nb nb ak7 nk nk] wa fun e w' => e = .returned (.bool true) ∧ Below wa.heap.size wa w') := fun ab7 ak7 wa h7 r7 k7 =>
        eqItem_same d (eqS_all d) x ab6 nb nb ak6 nk nk ab7 nb ak7 nk wa (((TXB.out.kept hdd).kept h7).body.own.toRow) (((TXB.out.kept hdd).kept h7).kids.kids) r7 k7 (by unfold maxLen; omega)
      have HXD : ∀ (wa : World), Below wB.drew.heap.size wB.drew wa → BoxT 34 w6.heap.size wa x ab6 nb nb ak6 nk nk := fun wa h7 => ((TXB.out.kept hdd).kept h7).box
      go_region_with (first
        | (go_at_call 15; refine Calls.mono TI.out ?_; rintro e wa ⟨ab7, ak7, M7, rfl, _, _, ob7, ok7, hba⟩; unfold itv; have hx7 := HXD wa hba; obtain ⟨y0, y1, y2, y3, y4⟩ := hx7.cells)
        | (go_at_call 17; refine Calls.mono (EQ ab7 ak7 wa hba ob7.own.toRow ok7.kids).out ?_; rintro e wb ⟨rfl, hbb⟩))
      all_goals
        have Bbb : Below wB.heap.size wB wb := (hdd.trans (hba.mono (by simp))).trans (hbb.mono hba.size)
        clear p0 p1 p2 p3 p4 q0 q1 q2 q3 q4 y0 y1 y2 y3 y4 hx7 ob7 ok7 hba hbb EQ TI HXD hdd Bd
        have BC : Below w.heap.size w wb := BB.trans (Bbb.mono hszB)
        have zC := Bbb.size
        have TGC : Hid (_) := TGB.out.kept Bbb
        have TWC : Hid (_) := TWB.out.kept Bbb
        have TXC : Hid (_) := TXB.out.kept Bbb
        have HBC : Hid (_) := HBB.out.kept Bbb
        have O1C : Hid (_) := O1B.out.kept Bbb
        clear TGB TWB TXB HBB O1B Bbb
        go_wp2_with fail
        refine (toInt64S_any ap np cp ps _ (HP.out.kept BC) hnp).mono ?_
        rintro e wD ⟨apD, rfl, opD, hbD⟩
        have O1D := O1C.out.kept hbD
        go_wp2_with fail
        refine (eqInt64S_same ap8 apD np np np ps _ O1D.toRow opD.toRow hnpm).mono ?_
        rintro e wE ⟨rfl, hbE⟩
        have hDE : Below wb.heap.size wb wE := hbD.trans (hbE.mono hbD.size)
        have BE : Below w.heap.size w wE := BC.trans (hDE.mono BC.size)
        have zE := hDE.size
        have TGE : Hid (_) := TGC.out.kept hDE
        have TWE : Hid (_) := TWC.out.kept hDE
        have TXE : Hid (_) := TXC.out.kept hDE
        have HBE : Hid (_) := HBC.out.kept hDE
        have O1E : Hid (_) := O1C.out.kept hDE
        obtain ⟨p0, p1, p2, p3, p4⟩ := TXE.out.box.cells
        clear TGC TWC TXC HBC O1C O1D opD hbD hbE hDE
        go_wp2_with fail
        refine (markItem_int d W5.heap.size M6 w6.heap.size x ab6 nb nb ak6 nk nk 1 1 rfl wE TXE.out.body TXE.out.kids mx1 mx2 (by omega) (by have := HW.out; omega)).mono ?_
        rintro e wG ⟨rfl, _, _, tG⟩
        have zG := tG.size
        have BG : Below w.heap.size w wG := BE.trans (tG.below (by omega) (by omega))
        have TGG : Hid (_) := TGE.out.touch (.inr (by omega)) (.inr (by omega)) tG
        have TWG : Hid (_) := TWE.out.touch (.inl (by omega)) (.inl (by omega)) tG
        have HBG : Hid (_) := HBE.out.touch (.inl (by omega)) tG
        have O1G : Hid (_) := O1E.out.touch (.inr (by omega)) tG
        have hqk := mkS_le d x.kids (1 + nb)
        obtain ⟨qk, hqke⟩ : ∃ qk, qk = (mkS d x.kids (1 + nb)).2 := ⟨_, rfl⟩
        rw [← hqke] at hqk ⊢
        have hqk9 : qk ≤ 100000000 := by have := HW.out; omega
        clear hqke hqk tG p0 p1 p2 p3 p4 TGE TWE TXE HBE O1E
        go_wp2_with fail
        refine (markInt64S_int W7.heap.size w8.heap.size ap8 np np qk _ rfl ps wG O1G.out (by omega) (by omega)).mono ?_
        rintro e wH ⟨rfl, tH⟩
        have zH := tH.size
        have BH : Below w.heap.size w wH := BG.trans (tH.below (by omega) (by omega))
        have TGH : Hid (_) := TGG.out.touch (.inr (by omega)) (.inr (by omega)) tH
        have TWH : Hid (_) := TWG.out.touch (.inl (by omega)) (.inl (by omega)) tH
        have HBH : Hid (_) := HBG.out.touch (.inl (by omega)) tH
        obtain ⟨r0, r1, r2, r3, r4⟩ := TWH.out.box.cells
        obtain ⟨u0, u1, u2, u3, u4⟩ := TGH.out.box.cells
        obtain ⟨qn, hqn⟩ : ∃ qn : Int, qn = ((qk + np : Nat) : Int) := ⟨_, rfl⟩
        rw [← hqn]
        have gqn : ¬ qn < 0 := by omega
        clear hqn tH TGG TWG HBG O1G
        go_wp2_with fail
        refine Calls.mono (TGH.out.eq TWH.out) ?_
        rintro e wI ⟨rfl, hbI⟩
        have BI : Below w.heap.size w wI := BH.trans (hbI.mono BH.size)
        have zI := hbI.size
        have TGI : Hid (_) := TGH.out.kept hbI
        have TWI : Hid (_) := TWH.out.kept hbI
        have HBI : Hid (_) := HBH.out.kept hbI
        clear r0 r1 r2 r3 r4 u0 u1 u2 u3 u4 hbI TGH TWH HBH
        obtain ⟨u0, u1, u2, u3, u4⟩ := TGI.out.box.cells
        go_wp2_with fail
        refine (markItem_int dg w8.heap.size Mg w9.heap.size y9 abg nbg cbg akg nkg ckg 1 1 rfl wI TGI.out.body TGI.out.kids mg1 mg2 (by omega) (by have := HWG.out; omega)).mono ?_
        rintro e wJ ⟨rfl, obJ, okJ, tJ⟩
        have zJ := tJ.size
        have BJ : Below w.heap.size w wJ := BI.trans (tJ.below (by omega) (by omega))
        have bxJ := TGI.out.box.touch (.inr (Nat.le_refl _)) tJ
        have TWJ : Hid (_) := TWI.out.touch (.inl (by omega)) (.inl (by omega)) tJ
        have HBJ : Hid (_) := HBI.out.touch (.inl (by omega)) tJ
        clear u0 u1 u2 u3 u4
        obtain ⟨u0, u1, u2, u3, u4⟩ := bxJ.cells
        have BXJ : Hid (_) := bxJ
        have OBJ : Hid (_) := obJ
        have OKJ : Hid (_) := okJ
        have HELD : ∀ W : World, Row W abg nbg (marks 1 nbg) → Kids dg W akg nkg (mkS dg y9.kids (1 + nbg)).1 → Hid (Calls Try.prog 26 #[itv y9 abg nbg cbg akg nkg ckg, .int .i64 1] W fun e w' => e = .returned (.int .i64 ((mkS dg y9.kids (1 + nbg)).2 : Nat)) ∧ Below W.heap.size W w') := fun W hb hk => heldItem_any dg y9 abg nbg cbg akg nkg ckg 1 1 rfl W hb hk (by have := HWG.out; omega)
        obtain ⟨m, hme⟩ : ∃ m, m = (mkS dg y9.kids (1 + nbg)).2 := ⟨_, rfl⟩
        rw [← hme] at HELD ⊢
        have gm : ¬ (m : Int) < 0 := by omega
        clear hme tJ bxJ obJ okJ TGI TWI HBI
        go_wp2_with fail
        refine Calls.mono (HELD wJ OBJ.out.own.toRow OKJ.out.kids).out ?_
        rintro e wK ⟨rfl, hbK⟩
        have BK : Below w.heap.size w wK := BJ.trans (hbK.mono BJ.size)
        have TWK : Hid (_) := TWJ.out.kept hbK
        have HBK : Hid (_) := HBJ.out.kept hbK
        have BXK : Hid (_) := BXJ.out.kept hbK
        have OBK : Hid (_) := OBJ.out.kept hbK
        have OKK : Hid (_) := OKJ.out.kept hbK
        obtain ⟨q0, q1, q2, q3, q4⟩ := HBK.out.cells
        clear u0 u1 u2 u3 u4 hbK TWJ HBJ BXJ OBJ OKJ
        go_wp2_with fail
        refine (toItem_any d (toS_all d) x ab nb cb ak nk ck _ (HR.out.kept BK) (HK.out.kept BK) hb20 HW.out).mono ?_
        rintro e wL ⟨abL, akL, ML, rfl, _, _, obL, okL, hbL⟩
        have BL : Below w.heap.size w wL := BK.trans (hbL.mono BK.size)
        clear q0 q1 q2 q3 q4
        unfold itv
        go_wp2_with fail
        refine (toInt64S_any ap np cp ps _ (HP.out.kept BL) hnp).mono ?_
        rintro e wM ⟨apM, rfl, opM, hbM⟩
        have BM : Below w.heap.size w wM := BL.trans (hbM.mono BL.size)
        have hLM : Below wK.heap.size wK wM := hbL.trans (hbM.mono hbL.size)
        have obM := obL.kept hbM
        have okM := okL.kept hbM
        have TWM : Hid (_) := TWK.out.kept hLM
        have BXM : Hid (_) := BXK.out.kept hLM
        have OBM : Hid (_) := OBK.out.kept hLM
        have OKM : Hid (_) := OKK.out.kept hLM
        clear obL okL hbL hbM hLM TWK BXK OBK OKK HBK
        go_wp2_with fail
        refine (implWalk_any d x abL nb nb akL nk nk apM np np ps _ obM.own.toRow obM.own.nil hb20 okM.kids HW.out opM.toRow hnp).mono ?_
        rintro e wN ⟨yN, dN, abN, nbN, cbN, akN, nkN, ckN, MN, sN, rfl, hyN, hsN, hnbN, hwtN, mN1, mN2, obN, okN, hbN⟩
        obtain rfl : yN = y9 := hyN.out.trans HY.out.symm
        obtain rfl : sN = s9 := hsN.out.trans HSS.out.symm
        have BN : Below w.heap.size w wN := BM.trans (hbN.mono BM.size)
        have halN : Below wN.heap.size wN (wN.alloc (.cells #[.int .i64 yN.cls, .int .i64 yN.tag, .bool yN.cons, .slice abN nbN cbN, .slice akN nkN ckN] 34)) := (Below.refl _ _).alloc (Nat.le_refl _) _
        have BO : Below w.heap.size w (wN.alloc (.cells #[.int .i64 yN.cls, .int .i64 yN.tag, .bool yN.cons, .slice abN nbN cbN, .slice akN nkN ckN] 34)) := BN.alloc BN.size _
        have THO : Hid (_) := tree_new (y := yN) (cb := cbN) (ck := ckN) obN okN mN1 mN2
        have TWO : Hid (_) := (TWM.out.kept hbN).kept halN
        have BXO : Hid (_) := (BXM.out.kept hbN).kept halN
        have OBO : Hid (_) := (OBM.out.kept hbN).kept halN
        have OKO : Hid (_) := (OKM.out.kept hbN).kept halN
        obtain ⟨r0, r1, r2, r3, r4⟩ := TWO.out.box.cells
        obtain ⟨p0, p1, p2, p3, p4⟩ := THO.out.box.cells
        clear hyN hsN hwtN hnbN obN okN hbN halN obM okM opM TWM BXM OBM OKM
        unfold itv
        go_wp2_with fail
        refine Calls.mono (THO.out.eq TWO.out) ?_
        rintro e wP ⟨rfl, hbP⟩
        have BP : Below w.heap.size w wP := BO.trans (hbP.mono BO.size)
        have BXP : Hid (_) := BXO.out.kept hbP
        have OBP : Hid (_) := OBO.out.kept hbP
        have OKP : Hid (_) := OKO.out.kept hbP
        obtain ⟨u0, u1, u2, u3, u4⟩ := BXP.out.cells
        clear hbP TWO BXO OBO OKO THO r0 r1 r2 r3 r4 p0 p1 p2 p3 p4
        go_wp2_with fail
        refine Calls.mono (HELD wP OBP.out.own.toRow OKP.out.kids).out ?_
        rintro e wQ ⟨rfl, hbQ⟩
        have BQ : Below w.heap.size w wQ := BP.trans (hbQ.mono BP.size)
        clear hbQ u0 u1 u2 u3 u4 BXP OBP OKP
        go_wp2
        go_ret
        exact ⟨rfl, BQ⟩
    · have e1 : szR (nb + wtS d x.kids) 1048576 = -1 := by rw [szR, if_neg hlt]
      rw [e1]
      clear e1
      go_wp2
      go_ret
      exact ⟨rfl, B1⟩
  · have hnp' : (np : Int) > 1048576 := by omega
    unfold itv
    go_enter Try.func6, Try.ntmps6
    go_wp2
    go_ret
    exact ⟨rfl, hbl⟩

end Go.Proofs.Ytckdikgbigkilab
