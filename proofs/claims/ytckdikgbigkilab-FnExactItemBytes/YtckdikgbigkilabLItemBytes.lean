import Derived.Test.YtckdikgbigkilabWItem14
import Derived.Test.YtckdikgbigkilabWMk2
import Derived.Deep.RegionWith
namespace Go.Proofs.Ytckdikgbigkilab
open Go.RowKit

theorem ans_form {B : Nat} {o : Option (List Int)} {e : Ending} {w' : World} (h : Ans B o e w') : ∃ a n cap bs ok, e = .returned (.tuple #[.slice a n cap, .bool ok]) ∧ Hid (ok = o.isSome) ∧ Hid (bs = o.getD []) ∧ Own B w' a n cap bs := by
  rcases h with ⟨a, n, cap, bs, rfl, ho, hw⟩ | ⟨rfl, ho⟩
  · exact ⟨a, n, cap, bs, true, rfl, (by show _ = _; rw [ho.out]; rfl), (by show _ = _; rw [ho.out]; rfl), hw⟩
  · exact ⟨none, 0, 0, [], false, rfl, (by show _ = _; rw [ho.out]; rfl), (by show _ = _; rw [ho.out]; rfl), own_nil _ _⟩
theorem getD_len (r : Nat) (x : It) : ((enc r x).getD []).length ≤ 20000 := by
  cases h : enc r x with
  | none => simp
  | some l => exact enc_len r x l h

set_option maxRecDepth 10000 in
set_option maxHeartbeats 8000000 in
theorem lawItemBytes_walk (d : Nat) (x : It) (ab : Option Addr) (nb cb : Nat) (ak : Option Addr) (nk ck : Nat) (w : World) (hrow : Row w ab nb x.body) (hnb : nb ≤ 9223372036854775807) (hk : Kids d w ak nk x.kids) :
    Calls Try.prog 5 #[itv x ab nb cb ak nk ck] w fun e w' => e = .returned (.bool true) ∧ Below w.heap.size w w' := by
  have HR : Hid (Row w ab nb x.body) := hrow
  have HK : Hid (Kids d w ak nk x.kids) := hk
  clear hrow hk
  have hbl : Below w.heap.size w (w.alloc (.cells #[.int .i64 x.cls, .int .i64 x.tag, .bool x.cons, .slice ab nb cb, .slice ak nk ck] 29)) := (Below.refl _ _).alloc (Nat.le_refl _) _
  have hbx := boxT_new 29 w x ab nb cb ak nk ck
  unfold itv
  go_enter Try.func5, Try.ntmps5
  go_wp2_with fail
  refine (szItem_any d (szS_all d) x ab nb cb ak nk ck 1048576 _ hnb (HK.out.kept hbl) (by decide) (by decide)).mono ?_
  rintro e w1 ⟨rfl, hb1⟩
  have B1 : Below w.heap.size w w1 := hbl.trans (hb1.mono hbl.size)
  replace hbx := hbx.kept hb1
  clear hb1 hbl
  by_cases hlt : ((nb + wtS d x.kids : Nat) : Int) ≤ 1048576
  · have e1 : szR (nb + wtS d x.kids) 1048576 = 1048576 - ((nb + wtS d x.kids : Nat) : Int) := by rw [szR, if_pos hlt]
    obtain ⟨v, hv⟩ : ∃ v, v = 1048576 - ((nb + wtS d x.kids : Nat) : Int) := ⟨_, rfl⟩
    have hv0 : ¬ v < 0 := by omega
    rw [e1, ← hv]
    have hb20 : nb ≤ 1048576 := by omega
    have HW : Hid (wtS d x.kids ≤ 1048576) := by show _ ≤ _; omega
    clear e1 hv hlt hnb
    obtain ⟨q0, q1, q2, q3, q4⟩ := hbx.cells
    have HB : Hid (_) := hbx
    clear hbx
    obtain ⟨bs, hbs⟩ : ∃ bs, bs = (enc 12 x).getD [] := ⟨_, rfl⟩
    obtain ⟨s, hs⟩ : ∃ s, s = (enc 12 x).isSome := ⟨_, rfl⟩
    have hbl2 : bs.length ≤ 20000 := by rw [hbs]; exact getD_len 12 x
    have HBS : Hid (bs = (enc 12 x).getD []) := hbs
    have HSS : Hid (s = (enc 12 x).isSome) := hs
    obtain ⟨nn, hnn⟩ : ∃ nn, nn = bs.length := ⟨_, rfl⟩
    have HNN : Hid (nn = bs.length) := hnn
    rw [← hnn] at hbl2
    clear hbs hs hnn
    go_wp2_with fail
    refine (toItem_any d (toS_all d) x ab nb cb ak nk ck _ (HR.out.kept B1) (HK.out.kept B1) hb20 HW.out).mono ?_
    rintro e w2 ⟨ab2, ak2, M2, rfl, _, _, ob2, ok2, hb2⟩
    have B2 : Below w.heap.size w w2 := B1.trans (hb2.mono B1.size)
    have HB2 : Hid (_) := HB.out.kept hb2
    clear q0 q1 q2 q3 q4 HB
    unfold itv
    go_wp2_with fail
    refine (specItemBytes_any d x ab2 nb nb ak2 nk nk _ ob2.own.toRow ob2.own.nil hb20 ok2.kids HW.out).mono ?_
    rintro e w3 ⟨⟨a0, n0, c0, bs0, s0, rfl, hs0, hbs0, ho0⟩, hb3⟩
    obtain rfl : s0 = s := hs0.out.trans HSS.out.symm
    obtain rfl : bs0 = bs := hbs0.out.trans HBS.out.symm
    obtain rfl : n0 = nn := ho0.length.symm.trans HNN.out.symm
    have B3 : Below w.heap.size w w3 := B2.trans (hb3.mono B2.size)
    have HB3 : Hid (_) := HB2.out.kept hb3
    have OW3 : Hid (_) := ho0.ownB
    have hlt3 := HB3.out.lt
    obtain ⟨q0, q1, q2, q3, q4⟩ := HB3.out.cells
    have z2 := B2.size
    have z3 := hb3.size
    clear hs0 hbs0 ho0 HB2 ob2 ok2 hb2 hb3
    go_wp2_with fail
    refine (toItem_any d (toS_all d) x ab nb cb ak nk ck _ (HR.out.kept B3) (HK.out.kept B3) hb20 HW.out).mono ?_
    rintro e w4 ⟨ab4, ak4, M4, rfl, m1, m2, ob4, ok4, hb4⟩
    have B4 : Below w.heap.size w w4 := B3.trans (hb4.mono B3.size)
    have hal : Below w4.heap.size w4 (w4.alloc (.cells #[.int .i64 x.cls, .int .i64 x.tag, .bool x.cons, .slice ab4 nb nb, .slice ak4 nk nk] 34)) := (Below.refl _ _).alloc (Nat.le_refl _) _
    have B5 : Below w.heap.size w (w4.alloc (.cells #[.int .i64 x.cls, .int .i64 x.tag, .bool x.cons, .slice ab4 nb nb, .slice ak4 nk nk] 34)) := B4.alloc B4.size _
    have z5 : (w4.alloc (.cells #[.int .i64 x.cls, .int .i64 x.tag, .bool x.cons, .slice ab4 nb nb, .slice ak4 nk nk] 34)).heap.size = w4.heap.size + 1 := by simp
    have HX5 : Hid (_) := boxT_new 34 w4 x ab4 nb nb ak4 nk nk
    have OB5 : Hid (_) := ob4.kept hal
    have OK5 : Hid (_) := ok4.kept hal
    have HB5 : Hid (_) := (HB3.out.kept hb4).kept hal
    have OW5 : Hid (_) := (OW3.out.kept hb4).kept hal
    have z4 := hb4.size
    clear q0 q1 q2 q3 q4 HB3 OW3 ob4 ok4 hb4 hal
    unfold itv
    go_wp2_with fail
    refine (implItemBytes_any d x ab4 nb nb ak4 nk nk _ OB5.out.own.toRow OB5.out.own.nil (by omega) OK5.out.kids).mono ?_
    rintro e w6 ⟨hans, hb6⟩
    obtain ⟨ag, ng, cg, bsg, sg, rfl, hsg, hbsg, hog⟩ := ans_form hans
    obtain rfl : sg = s0 := hsg.out.trans HSS.out.symm
    obtain rfl : bsg = bs0 := hbsg.out.trans HBS.out.symm
    obtain rfl : ng = n0 := hog.length.symm.trans HNN.out.symm
    have B6 : Below w.heap.size w w6 := B5.trans (hb6.mono B5.size)
    have z6 := hb6.size
    rw [z5] at z6
    have OG6 : Hid (OwnB (w4.heap.size + 1) w6.heap.size w6 ag ng cg bsg) := by show OwnB _ _ _ _ _ _ _; rw [← z5]; exact hog.ownB
    have OW6 : Hid (_) := OW5.out.kept hb6
    have OB6 : Hid (_) := OB5.out.kept hb6
    have OK6 : Hid (_) := OK5.out.kept hb6
    have HX6 : Hid (_) := HX5.out.kept hb6
    have HB6 : Hid (_) := HB5.out.kept hb6
    have t1 : (sg != sg) = false := by simp
    clear hans hsg hbsg hog OW5 OB5 OK5 HX5 HB5 hb6
    go_wp2_with fail
    refine (eqByteS_any ag a0 ng ng cg c0 bsg bsg _ OG6.out.own.toRow OW6.out.own.toRow (by unfold maxLen; omega) (by unfold maxLen; omega)).mono ?_
    rintro e w7 ⟨rfl, hb7⟩
    rw [decide_eq_true (rfl : bsg = bsg)]
    have B7 : Below w.heap.size w w7 := B6.trans (hb7.mono B6.size)
    have z7 := hb7.size
    have OG7 : Hid (_) := OG6.out.kept hb7
    have OW7 : Hid (_) := OW6.out.kept hb7
    have OB7 : Hid (_) := OB6.out.kept hb7
    have OK7 : Hid (_) := OK6.out.kept hb7
    have HX7 : Hid (_) := HX6.out.kept hb7
    have HB7 : Hid (_) := HB6.out.kept hb7
    obtain ⟨p0, p1, p2, p3, p4⟩ := HX7.out.cells
    obtain ⟨q0, q1, q2, q3, q4⟩ := HB7.out.cells
    clear OG6 OW6 OB6 OK6 HX6 HB6 hb7
    go_wp2_with fail
    have hsz7 := B7.size
    have Bd : Below w.heap.size w w7.drew := B7.drew
    have hdd : Below w7.heap.size w7 w7.drew := (Below.refl _ _).drew
    have TI : Hid (_) := toItem_any d (toS_all d) x ab nb cb ak nk ck w7.drew (HR.out.kept Bd) (HK.out.kept Bd) hb20 HW.out
    have EQ : ∀ (ab7 ak7 : Option Addr) (wa : World), Below w7.drew.heap.size w7.drew wa → Row wa ab7 nb x.body → Kids d wa ak7 nk x.kids → Hid (Calls Try.prog 17 #[itv x ab4 nb nb ak4 nk nk, itv x ab7 nb nb ak7 nk nk] wa fun e w' => e = .returned (.bool true) ∧ Below wa.heap.size wa w') := fun ab7 ak7 wa h7 r7 k7 =>
      eqItem_same d (eqS_all d) x ab4 nb nb ak4 nk nk ab7 nb ak7 nk wa (((OB7.out.kept hdd).kept h7).own.toRow) (((OK7.out.kept hdd).kept h7).kids) r7 k7 (by unfold maxLen; omega)
    have HXD : ∀ (wa : World), Below w7.drew.heap.size w7.drew wa → BoxT 34 w4.heap.size wa x ab4 nb nb ak4 nk nk := fun wa h7 => (HX7.out.kept hdd).kept h7
    go_region_with (first
      | (go_at_call 15; refine Calls.mono TI.out ?_; rintro e wa ⟨ab7, ak7, M7, rfl, _, _, ob7, ok7, hba⟩; unfold itv; have hx7 := HXD wa hba; obtain ⟨y0, y1, y2, y3, y4⟩ := hx7.cells)
      | (go_at_call 17; refine Calls.mono (EQ ab7 ak7 wa hba ob7.own.toRow ok7.kids).out ?_; rintro e wb ⟨rfl, hbb⟩))
    all_goals
      have BB : Below w7.heap.size w7 wb := (hdd.trans (hba.mono (by simp))).trans (hbb.mono hba.size)
      clear p0 p1 p2 p3 p4 q0 q1 q2 q3 q4 y0 y1 y2 y3 y4 hx7 ob7 ok7 hba hbb EQ TI HXD hdd Bd
      have Bb : Below w.heap.size w wb := B7.trans (BB.mono hsz7)
      have zb := BB.size
      have OGb : Hid (_) := OG7.out.kept BB
      have OWb : Hid (_) := OW7.out.kept BB
      have OBb : Hid (_) := OB7.out.kept BB
      have OKb : Hid (_) := OK7.out.kept BB
      have HXb : Hid (_) := HX7.out.kept BB
      have HBb : Hid (_) := HB7.out.kept BB
      obtain ⟨p0, p1, p2, p3, p4⟩ := HXb.out.cells
      clear OG7 OW7 OB7 OK7 HX7 HB7 BB
      go_wp2_with fail
      refine (markItem_int d w3.heap.size M4 w4.heap.size x ab4 nb nb ak4 nk nk 1 1 rfl wb OBb.out OKb.out m1 m2 (by omega) (by have := HW.out; omega)).mono ?_
      rintro e wc ⟨rfl, _, _, tc⟩
      have zc := tc.size
      have Bc : Below w.heap.size w wc := Bb.trans (tc.below (by omega) (by omega))
      have OGc : Hid (_) := OGb.out.touch (.inr (by omega)) tc
      have OWc : Hid (_) := OWb.out.touch (.inl (by omega)) tc
      have HBc : Hid (BoxT 29 w.heap.size wc x ab nb cb ak nk ck) := ⟨(tc.block _ HBb.out.lt (.inl hlt3)).trans HBb.out.heap⟩
      obtain ⟨qk, hqk⟩ : ∃ qk, qk = (mkS d x.kids (1 + nb)).2 := ⟨_, rfl⟩
      rw [← hqk]
      have gk : ¬ (qk : Int) < 0 := by omega
      clear hqk tc p0 p1 p2 p3 p4 OGb OWb OBb OKb HXb HBb
      go_wp2_with fail
      refine (eqByteS_any ag a0 ng ng cg c0 bsg bsg _ OGc.out.own.toRow OWc.out.own.toRow (by unfold maxLen; omega) (by unfold maxLen; omega)).mono ?_
      rintro e wd ⟨rfl, hbd⟩
      rw [decide_eq_true (rfl : bsg = bsg)]
      have Bdd : Below w.heap.size w wd := Bc.trans (hbd.mono Bc.size)
      have zd := hbd.size
      have OGd : Hid (_) := OGc.out.kept hbd
      have OWd : Hid (_) := OWc.out.kept hbd
      have HBd : Hid (_) := HBc.out.kept hbd
      clear OGc OWc HBc hbd
      go_wp2_with fail
      refine (markByteS_int (w4.heap.size + 1) ag ng cg 1 bsg _ OGd.out.own (by omega) (by decide) (by decide)).mono ?_
      rintro e we ⟨rfl, hoe, hge⟩
      have te := OGd.out.wrote hge
      have ze := te.size
      have Be : Below w.heap.size w we := Bdd.trans (te.below (by omega) (by omega))
      have OGe : Hid (OwnB (w4.heap.size + 1) w6.heap.size we ag ng cg (marks 1 ng)) := ⟨hoe, OGd.out.lt⟩
      have OWe : Hid (_) := OWd.out.touch (.inl (by omega)) te
      have HBe : Hid (BoxT 29 w.heap.size we x ab nb cb ak nk ck) := ⟨(te.block _ HBd.out.lt (.inl (by omega))).trans HBd.out.heap⟩
      obtain ⟨q0, q1, q2, q3, q4⟩ := HBe.out.cells
      have gm : ¬ (1 : Int) + (ng : Int) < 0 := by omega
      clear hoe hge te OGd OWd HBd
      go_wp2_with fail
      refine (heldByteS_int ag ng cg 1 _ OGe.out.own.toRow (by omega) (by decide) (by decide)).mono ?_
      rintro e wf ⟨rfl, rfl⟩
      go_wp2_with fail
      refine (toItem_any d (toS_all d) x ab nb cb ak nk ck _ (HR.out.kept Be) (HK.out.kept Be) hb20 HW.out).mono ?_
      rintro e wg ⟨abg, akg, Mg, rfl, _, _, obg, okg, hbg⟩
      have Bg : Below w.heap.size w wg := Be.trans (hbg.mono Be.size)
      have OGg : Hid (_) := OGe.out.kept hbg
      have OWg : Hid (_) := OWe.out.kept hbg
      clear OGe OWe HBe hbg q0 q1 q2 q3 q4
      unfold itv
      go_wp2_with fail
      refine (implItemBytes_any d x abg nb nb akg nk nk _ obg.own.toRow obg.own.nil (by omega) okg.kids).mono ?_
      rintro e wh ⟨hans, hbh⟩
      obtain ⟨ah, nh, ch, bsh, sh, rfl, hsh, hbsh, hoh⟩ := ans_form hans
      obtain rfl : sh = sg := hsh.out.trans HSS.out.symm
      obtain rfl : bsh = bsg := hbsh.out.trans HBS.out.symm
      obtain rfl : nh = ng := hoh.length.symm.trans HNN.out.symm
      have Bh : Below w.heap.size w wh := Bg.trans (hbh.mono Bg.size)
      have OGh : Hid (_) := OGg.out.kept hbh
      have OWh : Hid (_) := OWg.out.kept hbh
      have ROH : Hid (_) := hoh.toRow
      clear hans hsh hbsh hoh OGg OWg obg okg hbh
      go_wp2_with fail
      refine (eqByteS_any ah a0 nh nh ch c0 bsh bsh _ ROH.out OWh.out.own.toRow (by unfold maxLen; omega) (by unfold maxLen; omega)).mono ?_
      rintro e wi ⟨rfl, hbi⟩
      rw [decide_eq_true (rfl : bsh = bsh)]
      have Bi : Below w.heap.size w wi := Bh.trans (hbi.mono Bh.size)
      have OGi : Hid (_) := OGh.out.kept hbi
      clear OGh OWh ROH hbi
      go_wp2_with fail
      refine (heldByteS_int ag nh cg 1 _ OGi.out.own.toRow (by omega) (by decide) (by decide)).mono ?_
      rintro e wj ⟨rfl, rfl⟩
      go_wp2
      go_ret
      exact ⟨rfl, Bi⟩
  · have e1 : szR (nb + wtS d x.kids) 1048576 = -1 := by rw [szR, if_neg hlt]
    rw [e1]
    clear e1
    go_wp2
    go_ret
    exact ⟨rfl, B1⟩

end Go.Proofs.Ytckdikgbigkilab
