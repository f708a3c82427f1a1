import Derived.Test.YtjkkokjojaknkaaDoorWCp
import Derived.Test.YtjkkokjojaknkaaDoorWI64
import Derived.Test.YtjkkokjojaknkaaDoorWMk2
namespace Go.Proofs.YtjkkokjojaknkaaDoor
open Go.RowKit

def zeroIt : It := .mk 0 0 false [] []
/-- One step down. -/
def stepL (x : It) (p : Int) : Option It := if 0 ≤ p ∧ p < x.kids.length then some (x.kids.getD p.toNat default) else none
def walkP : It → List Int → Option It
  | x, [] => some x
  | x, p :: ps => match stepL x p with
    | none => none
    | some y => walkP y ps
def walkL (x : It) (ps : List Int) : Option It := if (enc 12 x).isSome then walkP x ps else none

theorem drop_get64 (xs : List Int) (k : Nat) (h : k < xs.length) : xs.drop k = xs.getD k 0 :: xs.drop (k + 1) := by
  rw [List.drop_eq_getElem_cons h]
  simp [h]
theorem walkP_none (x : It) (ps : List Int) (k : Nat) (h : k < ps.length) (hs : stepL x (ps.getD k 0) = none) : walkP x (ps.drop k) = none := by
  rw [drop_get64 ps k h, walkP, hs]
theorem walkP_some (x y : It) (ps : List Int) (k : Nat) (h : k < ps.length) (hs : stepL x (ps.getD k 0) = some y) : walkP x (ps.drop k) = walkP y (ps.drop (k + 1)) := by
  rw [drop_get64 ps k h, walkP, hs]
theorem walkP_end (x : It) (ps : List Int) (k : Nat) (h : ps.length ≤ k) : walkP x (ps.drop k) = some x := by
  rw [List.drop_eq_nil_of_le h, walkP]

theorem results_item2 {fn : Func} {t u : Tmp} (h : fn.results = #[.cell t 26, .tmp u]) (tmps : Array Value) (g : Nat) (ht : tmps.getD t undef = .pointer (some ⟨g, 0, none⟩)) (w : World) (c0 c1 c2 c3 c4 : Value)
    (hb : w.heap[g]? = some (.cells #[c0, c1, c2, c3, c4] 26 (0, 0))) : (results fn tmps).run Tryd.prog w = .ok (.tuple #[.agg #[c0, c1, c2, c3, c4], tmps.getD u undef]) w := by
  have d0 : w.cell? ⟨g, 0, none⟩ = some c0 := (cell_of_row _ g 0 _ 26 (0, 0) hb).trans rfl
  have d1 : w.cell? ⟨g, 1, none⟩ = some c1 := (cell_of_row _ g 1 _ 26 (0, 0) hb).trans rfl
  have d2 : w.cell? ⟨g, 2, none⟩ = some c2 := (cell_of_row _ g 2 _ 26 (0, 0) hb).trans rfl
  have d3 : w.cell? ⟨g, 3, none⟩ = some c3 := (cell_of_row _ g 3 _ 26 (0, 0) hb).trans rfl
  have d4 : w.cell? ⟨g, 4, none⟩ = some c4 := (cell_of_row _ g 4 _ 26 (0, 0) hb).trans rfl
  clear hb
  have ht' : tmps[t]?.getD undef = .pointer (some ⟨g, 0, none⟩) := by rw [← ht]; simp
  simp [results, h, go_sem, ht', d0, d1, d2, d3, d4]

/-- What Walk answers: an item of our own, or the zero one. -/
def WkPost (o : Option It) (w : World) (e : Ending) (w' : World) : Prop :=
  ∃ y d ab nb cb ak nk ck M s, e = .returned (.tuple #[itv y ab nb cb ak nk ck, .bool s]) ∧ Hid (y = o.getD zeroIt) ∧ Hid (s = o.isSome) ∧ nb ≤ 1048576 ∧ Hid (wtS d y.kids ≤ 1048576) ∧ w.heap.size ≤ M ∧ M ≤ w'.heap.size ∧ OwnB w.heap.size M w' ab nb cb y.body ∧ OwnKids d M w'.heap.size w' ak nk y.kids ∧ Below w.heap.size w w'

/-- The five cells of a variable are stored. -/
theorem box_set {t g : Nat} {W : World} {x : It} {ab : Option Addr} {nb cb : Nat} {ak : Option Addr} {nk ck : Nat} (h : BoxT t g W x ab nb cb ak nk ck) (y : It) (ab' : Option Addr) (nb' cb' : Nat) (ak' : Option Addr) (nk' ck' : Nat) :
    BoxT t g (((((W.setCell ⟨g, 0, none⟩ (.int .i64 y.cls)).setCell ⟨g, 1, none⟩ (.int .i64 y.tag)).setCell ⟨g, 2, none⟩ (.bool y.cons)).setCell ⟨g, 3, none⟩ (.slice ab' nb' cb')).setCell ⟨g, 4, none⟩ (.slice ak' nk' ck')) y ab' nb' cb' ak' nk' ck' ∧
    Touch g (g + 1) W (((((W.setCell ⟨g, 0, none⟩ (.int .i64 y.cls)).setCell ⟨g, 1, none⟩ (.int .i64 y.tag)).setCell ⟨g, 2, none⟩ (.bool y.cons)).setCell ⟨g, 3, none⟩ (.slice ab' nb' cb')).setCell ⟨g, 4, none⟩ (.slice ak' nk' ck')) ∧
    (((((W.setCell ⟨g, 0, none⟩ (.int .i64 y.cls)).setCell ⟨g, 1, none⟩ (.int .i64 y.tag)).setCell ⟨g, 2, none⟩ (.bool y.cons)).setCell ⟨g, 3, none⟩ (.slice ab' nb' cb')).setCell ⟨g, 4, none⟩ (.slice ak' nk' ck')).heap.size = W.heap.size := by
  have q1 := heap_setCell_same _ g 0 _ t (.int .i64 y.cls) h.heap
  have q2 := heap_setCell_same _ g 1 _ t (.int .i64 y.tag) q1
  have q3 := heap_setCell_same _ g 2 _ t (.bool y.cons) q2
  have q4 := heap_setCell_same _ g 3 _ t (.slice ab' nb' cb') q3
  have q5 := heap_setCell_same _ g 4 _ t (.slice ak' nk' ck') q4
  refine ⟨⟨q5⟩, ?_, by simp⟩
  exact ((((touch_set _ _ _ _ (Nat.le_refl _) (Nat.lt_succ_self _)).trans (touch_set _ _ _ _ (Nat.le_refl _) (Nat.lt_succ_self _))).trans (touch_set _ _ _ _ (Nat.le_refl _) (Nat.lt_succ_self _))).trans (touch_set _ _ _ _ (Nat.le_refl _) (Nat.lt_succ_self _))).trans (touch_set _ _ _ _ (Nat.le_refl _) (Nat.lt_succ_self _))
theorem BoxT.frozen {t g : Nat} {W : World} {x : It} {ab : Option Addr} {nb cb : Nat} {ak : Option Addr} {nk ck : Nat} (h : BoxT t g W x ab nb cb ak nk ck) (j : Nat) : W.frozen? ⟨g, j, none⟩ = false := frozen_of_row W g j _ t h.heap
theorem BoxT.touch {t g p q : Nat} {W W' : World} {x : It} {ab : Option Addr} {nb cb : Nat} {ak : Option Addr} {nk ck : Nat} (h : BoxT t g W x ab nb cb ak nk ck) (hd : g < p ∨ q ≤ g) (ht : Touch p q W W') : BoxT t g W' x ab nb cb ak nk ck := ⟨(ht.block g h.lt hd).trans h.heap⟩

theorem ownKids_nil (d lo hi : Nat) (w : World) (a : Option Addr) : OwnKids (d + 1) lo hi w a 0 [] := ⟨rfl, by decide, .inl rfl⟩

theorem wk_fail {o : Option It} (ho : Hid (o = none)) {w W : World} (hb : Below w.heap.size w W) (br : BoxT 26 (w.heap.size + 1) W zeroIt none 0 0 none 0 0) {e : Ending} (he : e = .returned (.tuple #[itv zeroIt none 0 0 none 0 0, .bool false])) :
    WkPost o w e (((((W.setCell ⟨w.heap.size + 1, 0, none⟩ (.int .i64 0)).setCell ⟨w.heap.size + 1, 1, none⟩ (.int .i64 0)).setCell ⟨w.heap.size + 1, 2, none⟩ (.bool false)).setCell ⟨w.heap.size + 1, 3, none⟩ (.slice none 0 0)).setCell ⟨w.heap.size + 1, 4, none⟩ (.slice none 0 0)) := by
  obtain ⟨_, ht, hs⟩ := box_set br zeroIt none 0 0 none 0 0
  have hsz := hb.size
  refine ⟨zeroIt, 1, none, 0, 0, none, 0, 0, w.heap.size, false, he, (by show _ = _; rw [ho.out]; rfl), (by show _ = _; rw [ho.out]; rfl), by decide, (by show _ ≤ _; decide), Nat.le_refl _, ?_, ⟨own_nil _ _, fun _ h => by cases h⟩, ownKids_nil 0 _ _ _ _, hb.trans (ht.below (by omega) hsz)⟩
  exact Nat.le_trans hsz ht.size

theorem wk_done {o : Option It} {y : It} (ho : Hid (o = some y)) {d : Nat} {w W : World} {ab : Option Addr} {nb cb : Nat} {ak : Option Addr} {nk ck M : Nat} (hnb : nb ≤ 1048576) (hwt : Hid (wtS d y.kids ≤ 1048576)) (hb : Below w.heap.size w W) (h2 : w.heap.size + 2 ≤ M) (hM : M ≤ W.heap.size) (lo : Nat) (hlo : w.heap.size + 2 ≤ lo)
    (ob : OwnB lo M W ab nb cb y.body) (ok : OwnKids d M W.heap.size W ak nk y.kids) (br : BoxT 26 (w.heap.size + 1) W zeroIt none 0 0 none 0 0) {e : Ending} (he : e = .returned (.tuple #[itv y ab nb cb ak nk ck, .bool true])) :
    WkPost o w e (((((W.setCell ⟨w.heap.size + 1, 0, none⟩ (.int .i64 y.cls)).setCell ⟨w.heap.size + 1, 1, none⟩ (.int .i64 y.tag)).setCell ⟨w.heap.size + 1, 2, none⟩ (.bool y.cons)).setCell ⟨w.heap.size + 1, 3, none⟩ (.slice ab nb cb)).setCell ⟨w.heap.size + 1, 4, none⟩ (.slice ak nk ck)) := by
  obtain ⟨_, ht, hs⟩ := box_set br y ab nb cb ak nk ck
  have hsz := hb.size
  refine ⟨y, d, ab, nb, cb, ak, nk, ck, M, true, he, (by show _ = _; rw [ho.out]; rfl), (by show _ = _; rw [ho.out]; rfl), hnb, hwt, by omega, by rw [hs]; exact hM, (ob.touch (.inr (by omega)) ht).mono (by omega) (Nat.le_refl _), ?_, hb.trans (ht.below (by omega) hsz)⟩
  rw [hs]
  exact ownKids_moves d _ _ _ _ _ _ _ _ _ ok (.inr (by omega)) ht

set_option maxRecDepth 10000 in
set_option maxHeartbeats 4000000 in
theorem implWalk_any (d : Nat) (x : It) (ab : Option Addr) (nb cb : Nat) (ak : Option Addr) (nk ck : Nat) (ap : Option Addr) (np cp : Nat) (ps : List Int) (w : World) (hr : Row w ab nb x.body) (hnil : ab = none → cb = 0) (hnb : nb ≤ 1048576) (hk : Kids d w ak nk x.kids) (hwt : wtS d x.kids ≤ 1048576) (hp : Row64 w ap np ps) (hnp : np ≤ 1048576) :
    Calls Tryd.prog 19 #[itv x ab nb cb ak nk ck, .slice ap np cp] w fun e w' => WkPost (walkL x ps) w e w' := by
  have HR : Hid (Row w ab nb x.body) := hr
  have HK : Hid (Kids d w ak nk x.kids) := hk
  have HP : Hid (Row64 w ap np ps) := hp
  have HPL : Hid (ps.length = np) := hp.len
  have HW : Hid (wtS d x.kids ≤ 1048576) := hwt
  clear hr hk hp hwt
  obtain ⟨b0, b1⟩ := two_blocks w (.cells #[.int .i64 x.cls, .int .i64 x.tag, .bool x.cons, .slice ab nb cb, .slice ak nk ck] 26) (.cells #[.int .i64 0, .int .i64 0, .bool false, .slice none 0 0, .slice none 0 0] 26)
  have hB0 : Below w.heap.size w ((w.alloc (.cells #[.int .i64 x.cls, .int .i64 x.tag, .bool x.cons, .slice ab nb cb, .slice ak nk ck] 26)).alloc (.cells #[.int .i64 0, .int .i64 0, .bool false, .slice none 0 0, .slice none 0 0] 26)) := ((Below.refl _ _).alloc (Nat.le_refl _) _).alloc (by simp) _
  have BX0 : Hid (BoxT 26 w.heap.size _ x ab nb cb ak nk ck) := ⟨b0⟩
  have BR0 : Hid (BoxT 26 (w.heap.size + 1) _ zeroIt none 0 0 none 0 0) := ⟨b1⟩
  clear b0 b1
  unfold itv
  go_enter Tryd.func19, Tryd.ntmps19
  go_wp2_with fail
  refine (implItemOk_any d x ab nb cb ak nk ck _ (HR.out.kept hB0) hnil (by omega) (HK.out.kept hB0)).mono ?_
  rintro e w1 ⟨rfl, hb1⟩
  have B1 : Below w.heap.size w w1 := hB0.trans (hb1.mono hB0.size)
  have bx1 := BX0.out.kept hb1
  have br1 := BR0.out.kept hb1
  obtain ⟨z0, z1, z2, z3, z4⟩ := br1.cells
  have f0 := br1.frozen 0
  have f1 := br1.frozen 1
  have f2 := br1.frozen 2
  have f3 := br1.frozen 3
  have f4 := br1.frozen 4
  have hs1 := br1.lt
  have BX1 : Hid (_) := bx1
  have BR1 : Hid (_) := br1
  obtain ⟨s, hs⟩ : ∃ s, s = (enc 12 x).isSome := ⟨_, rfl⟩
  have HS : Hid (s = (enc 12 x).isSome) := hs
  rw [← hs]
  clear hs bx1 br1 hb1 hB0 BX0 BR0
  cases s with
  | false =>
    have HO : Hid (walkL x ps = none) := by show _ = _; rw [walkL, ← HS.out]; rfl
    go_wp2
    try simp only [Exit.inBlock, Exit.then]
    refine bodyPost_ret (results_item2 rfl _ (w.heap.size + 1) rfl _ _ _ _ _ _ (box_set BR1.out zeroIt none 0 0 none 0 0).1.heap) rfl ?_
    exact wk_fail HO B1 BR1.out rfl
  | true =>
    have HO : Hid (walkL x ps = walkP x (ps.drop 0)) := by show _ = _; rw [walkL, ← HS.out, List.drop_zero]; rfl
    clear z0 z1 z2 z3 z4 f0 f1 f2 f3 f4
    go_wp2
    go_loopw [14] (fun i wr => ∃ (k : Nat) (y : It) (d1 : Nat) (ab1 : Option Addr) (nb1 cb1 : Nat) (ak1 : Option Addr) (nk1 ck1 : Nat), k ≤ np ∧ i = .int .i64 k ∧ BoxT 26 w.heap.size wr y ab1 nb1 cb1 ak1 nk1 ck1 ∧ BoxT 26 (w.heap.size + 1) wr zeroIt none 0 0 none 0 0 ∧ Hid (walkL x ps = walkP y (ps.drop k)) ∧ Row w ab1 nb1 y.body ∧ (ab1 = none → cb1 = 0) ∧ nb1 ≤ 1048576 ∧ Kids d1 w ak1 nk1 y.kids ∧ Hid (wtS d1 y.kids ≤ 1048576) ∧ Below w.heap.size w wr) (fun i _ => np - (intOf i).toNat)
    case atStart => exact ⟨0, x, d, ab, nb, cb, ak, nk, ck, Nat.zero_le _, rfl, BX1.out, BR1.out, HO, HR.out, hnil, hnb, HK.out, HW, B1⟩
    case round =>
      obtain ⟨k, y, d1, ab1, nb1, cb1, ak1, nk1, ck1, hkp, rfl, hbx, hbr, HE, hr1, hn1, hm1, hk1, hw1, hB⟩ := hrel
      obtain ⟨q0, q1, q2, q3, q4⟩ := hbx.cells
      have g0 := hbx.frozen 0
      have g1 := hbx.frozen 1
      have g2 := hbx.frozen 2
      have g3 := hbx.frozen 3
      have g4 := hbx.frozen 4
      obtain ⟨z0, z1, z2, z3, z4⟩ := hbr.cells
      have f0 := hbr.frozen 0
      have f1 := hbr.frozen 1
      have f2 := hbr.frozen 2
      have f3 := hbr.frozen 3
      have f4 := hbr.frozen 4
      have BX : Hid (_) := hbx
      have BR : Hid (_) := hbr
      have R1 : Hid (_) := hr1
      have K1 : Hid (Kids d1 w ak1 nk1 y.kids) := hk1
      have hs1 := hbr.lt
      clear hbx hbr hr1 hk1
      by_cases hkn : k < np
      · obtain ⟨bp, offp, rfl, hlp, hcp⟩ := HP.out.get k hkn
        have hpc : wr.cell? ⟨bp, offp + k, none⟩ = some (.int .i64 (ps.getD k 0)) := (hB.cell (p := ⟨bp, offp + k, none⟩) hlp).trans hcp
        obtain ⟨p, hpe⟩ : ∃ p, p = ps.getD k 0 := ⟨_, rfl⟩
        rw [← hpe] at hpc
        have HPE : Hid (p = ps.getD k 0) := hpe
        have hkl : Hid (k < ps.length) := by show _ < _; rw [HPL.out]; exact hkn
        have hkni : (k : Int) < (np : Int) := by omega
        clear hpe hcp
        cases d1 with
        | zero => exact K1.out.elim
        | succ d1 =>
        have KL : Hid (y.kids.length = nk1) := K1.out.1
        have hnk1 := K1.out.2.1
        by_cases hneg : p < 0
        · have HN : Hid (walkL x ps = none) := by show _ = _; rw [HE.out]; exact walkP_none y ps k hkl.out (by rw [← HPE.out, stepL, if_neg (by omega)])
          go_wp2
          try simp only [Exit.inBlock, Exit.then]
          refine bodyPost_ret (results_item2 rfl _ (w.heap.size + 1) rfl _ _ _ _ _ _ (box_set BR.out zeroIt none 0 0 none 0 0).1.heap) rfl ?_
          exact wk_fail HN hB BR.out rfl
        · by_cases hge : p ≥ (nk1 : Int)
          · have HN : Hid (walkL x ps = none) := by show _ = _; rw [HE.out]; exact walkP_none y ps k hkl.out (by rw [← HPE.out, stepL, KL.out, if_neg (by omega)])
            go_wp2
            try simp only [Exit.inBlock, Exit.then]
            refine bodyPost_ret (results_item2 rfl _ (w.heap.size + 1) rfl _ _ _ _ _ _ (box_set BR.out zeroIt none 0 0 none 0 0).1.heap) rfl ?_
            exact wk_fail HN hB BR.out rfl
          · obtain ⟨j, rfl⟩ : ∃ j : Nat, p = (j : Int) := ⟨p.toNat, by omega⟩
            have hj : j < nk1 := by omega
            have hji : (j : Int) < (nk1 : Int) := by omega
            obtain ⟨b3, off3, rfl, hl3, ab3, nb3, cb3, ak3, nk3, ck3, c0, c1, c2, c3, c4, hr3, hn3, hm3, hk3⟩ := K1.out.2.2 j hj
            have hwk : nb3 + wtS d1 (y.kids.getD j default).kids ≤ 1048576 := by
              have i1 := wtP_next d1 y.kids j (by rw [KL.out]; exact hj)
              have i2 := wtP_le d1 y.kids (j + 1)
              have i3 := hw1.out
              rw [wtS_succ, KL.out] at i3
              rw [KL.out] at i2
              rw [hr3.len] at i1
              omega
            have HN : Hid (walkL x ps = walkP (y.kids.getD j default) (ps.drop (k + 1))) := by show _ = _; rw [HE.out]; exact walkP_some y _ ps k hkl.out (by rw [← HPE.out, stepL, KL.out, if_pos (by omega), Int.toNat_natCast])
            obtain ⟨z, hz⟩ : ∃ z, z = y.kids.getD j default := ⟨_, rfl⟩
            rw [← hz] at c0 c1 c2 hr3 hk3 hwk HN
            have cc : ∀ i, wr.cell? ⟨b3, i, none⟩ = w.cell? ⟨b3, i, none⟩ := fun i => hB.cell (p := ⟨b3, i, none⟩) hl3
            rw [← cc] at c0 c1 c2 c3 c4
            clear cc hz
            obtain ⟨sb, st, ss⟩ := box_set BX.out z ab3 nb3 cb3 ak3 nk3 ck3
            have sr := BR.out.touch (p := w.heap.size) (q := w.heap.size + 1) (.inr (Nat.le_refl _)) st
            have sB := hB.trans (st.below (Nat.le_refl _) hB.size)
            have FIN : Hid (_ ∧ _ ∧ _) := ⟨sb, sr, sB⟩
            have R3 : Hid (_) := hr3
            have K3 : Hid (_) := hk3
            have W3 : Hid (wtS d1 z.kids ≤ 1048576) := by show _ ≤ _; omega
            have hnb3 : nb3 ≤ 1048576 := by omega
            clear sb st ss sr sB hr3 hk3 hwk
            go_wp2
            go_roundw
            case rel => exact ⟨k + 1, z, d1, ab3, nb3, cb3, ak3, nk3, ck3, by omega, by go_num, FIN.out.1, FIN.out.2.1, HN, R3.out, hn3, hnb3, K3.out, W3, FIN.out.2.2⟩
            case measure => simp [intOf]; omega
      · obtain rfl : np = k := by omega
        have HN : Hid (walkL x ps = some y) := by show _ = _; rw [HE.out]; exact walkP_end y ps _ (by rw [HPL.out]; exact Nat.le_refl _)
        clear f0 f1 f2 f3 f4 z0 z1 z2 z3 z4 g0 g1 g2 g3 g4
        go_wp2_with fail
        refine (cloneI_all d1 y ab1 nb1 cb1 ak1 nk1 ck1 _ (R1.out.kept hB) hn1 hm1 (K1.out.kept hB) hw1.out).mono ?_
        rintro e w3 ⟨ab5, cb5, ak5, ck5, M, rfl, m1, m2, ob5, ok5, hb5⟩
        have br5 := BR.out.kept hb5
        obtain ⟨z0, z1, z2, z3, z4⟩ := br5.cells
        have f0 := br5.frozen 0
        have f1 := br5.frozen 1
        have f2 := br5.frozen 2
        have f3 := br5.frozen 3
        have f4 := br5.frozen 4
        have B5 : Below w.heap.size w w3 := hB.trans (hb5.mono hB.size)
        have BR5 : Hid (_) := br5
        have OB5 : Hid (_) := ob5
        have OK5 : Hid (_) := ok5
        clear br5 ob5 ok5 hb5
        unfold itv
        go_wp2
        try simp only [Exit.inBlock, Exit.then]
        refine bodyPost_ret (results_item2 rfl _ (w.heap.size + 1) rfl _ _ _ _ _ _ (box_set BR5.out y ab5 nb1 cb5 ak5 nk1 ck5).1.heap) rfl ?_
        exact wk_done HN hm1 hw1 B5 (by omega) m2 wr.heap.size (by omega) OB5.out OK5.out BR5.out rfl

end Go.Proofs.YtjkkokjojaknkaaDoor
