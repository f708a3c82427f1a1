import Derived.Test.YtjkkokjojaknkaaDoorFL
import Derived.Test.YtjkkokjojaknkaaDoorFK
namespace Go.Proofs.YtjkkokjojaknkaaDoor
open Go.RowKit

set_option maxRecDepth 10000 in
set_option maxHeartbeats 1000000 in
theorem markItem_any (d lo M hi : Nat) (x : It) (ab : Option Addr) (nb cb : Nat) (ak : Option Addr) (nk ck : Nat) (k : Nat) (w : World) (hb : OwnB lo M w ab nb cb x.body) (hk : OwnKids d M hi w ak nk x.kids) (h1 : lo ≤ M) (h2 : M ≤ hi) (hh : hi ≤ w.heap.size) (hw : k + nb + 3 * wtS d x.kids ≤ 100000000) :
    Calls Tryd.prog 27 #[itv x ab nb cb ak nk ck, .int .i64 k] w fun e w' => e = .returned (.int .i64 ((mkS d x.kids (k + nb)).2 : Nat)) ∧ OwnB lo M w' ab nb cb (marks k nb) ∧ OwnKids d M hi w' ak nk (mkS d x.kids (k + nb)).1 ∧ Touch lo hi w w' := by
  have hbl : Below w.heap.size w (w.alloc (.cells #[.int .i64 x.cls, .int .i64 x.tag, .bool x.cons, .slice ab nb cb, .slice ak nk ck] 26)) := (Below.refl _ _).alloc (Nat.le_refl _) _
  have OB : Hid (_) := hb.kept hbl
  have OK : Hid (_) := hk.kept hbl
  have hbx := boxT_new 26 w x ab nb cb ak nk ck
  have T0 : Hid (Touch lo hi w _) := Touch.of_below hbl
  have hsz : (w.alloc (.cells #[.int .i64 x.cls, .int .i64 x.tag, .bool x.cons, .slice ab nb cb, .slice ak nk ck] 26)).heap.size = w.heap.size + 1 := by simp
  clear hb hk hbl
  unfold itv
  go_enter Tryd.func27, Tryd.ntmps27
  go_wp2_with fail
  refine (markByteS_any lo ab nb cb k x.body _ OB.out.own (by omega) (by omega)).mono ?_
  rintro e w1 ⟨rfl, ho1, hg1⟩
  have t1 : Touch lo M _ w1 := OB.out.wrote hg1
  have hx1 : BoxT 26 w.heap.size w1 x ab nb cb ak nk ck := ⟨(t1.block w.heap.size (by omega) (by omega)).trans hbx.heap⟩
  have c4 := hx1.cells.2.2.2.2
  have ok1 := ownKids_moves d _ _ lo M _ _ _ _ _ OK.out (.inr (Nat.le_refl _)) t1
  have OB1 : Hid (OwnB lo M w1 ab nb cb (marks k nb)) := ⟨ho1, OB.out.lt⟩
  have OK1 : Hid (_) := ok1
  have T1 : Hid (Touch lo hi w w1) := T0.out.trans (t1.mono (Nat.le_refl _) h2)
  clear ho1 hg1 t1 hx1 ok1 hbx OB OK T0
  go_wp2_with fail
  refine (markS_all d M hi ak nk ck x.kids (k + nb) _ w1 (by omega) OK1.out hw).mono ?_
  rintro e w2 ⟨rfl, ok2, t2⟩
  have ob2 := OB1.out.touch (.inl (Nat.le_refl _)) t2
  have hq := mkS_le d x.kids (k + nb)
  obtain ⟨q, hqe⟩ : ∃ q, q = (mkS d x.kids (k + nb)).2 := ⟨_, rfl⟩
  rw [← hqe] at hq ⊢
  have FIN : Hid (_ ∧ _ ∧ _ ∧ _) := ⟨hqe, ob2, ok2, T1.out.trans (t2.mono h1 (Nat.le_refl _))⟩
  clear hqe ob2 ok2 t2 OB1 OK1 T1
  go_wp2
  go_ret
  exact ⟨by rw [← FIN.out.1]; rfl, FIN.out.2.1, FIN.out.2.2.1, FIN.out.2.2.2⟩

theorem markItem_int (d lo M hi : Nat) (x : It) (ab : Option Addr) (nb cb : Nat) (ak : Option Addr) (nk ck : Nat) (k : Nat) (K : Int) (hK : K = (k : Int)) (w : World) (hb : OwnB lo M w ab nb cb x.body) (hk : OwnKids d M hi w ak nk x.kids) (h1 : lo ≤ M) (h2 : M ≤ hi) (hh : hi ≤ w.heap.size) (hw : k + nb + 3 * wtS d x.kids ≤ 100000000) :
    Calls Tryd.prog 27 #[itv x ab nb cb ak nk ck, .int .i64 K] w fun e w' => e = .returned (.int .i64 ((mkS d x.kids (k + nb)).2 : Nat)) ∧ OwnB lo M w' ab nb cb (marks k nb) ∧ OwnKids d M hi w' ak nk (mkS d x.kids (k + nb)).1 ∧ Touch lo hi w w' := by
  subst hK
  exact markItem_any d lo M hi x ab nb cb ak nk ck k w hb hk h1 h2 hh hw

theorem It.cls_mk (c t : Int) (co : Bool) (b : List Int) (ks : List It) : (It.mk c t co b ks).cls = c := rfl
theorem It.tag_mk (c t : Int) (co : Bool) (b : List Int) (ks : List It) : (It.mk c t co b ks).tag = t := rfl
theorem It.cons_mk (c t : Int) (co : Bool) (b : List Int) (ks : List It) : (It.mk c t co b ks).cons = co := rfl
theorem It.body_mk (c t : Int) (co : Bool) (b : List Int) (ks : List It) : (It.mk c t co b ks).body = b := rfl
theorem It.kids_mk (c t : Int) (co : Bool) (b : List Int) (ks : List It) : (It.mk c t co b ks).kids = ks := rfl

def HeldS (d : Nat) : Prop := ∀ (a : Option Addr) (n cap : Nat) (xs : List It) (k : Nat) (K : Int) (w : World), K = (k : Int) → Kids d w a n (mkS d xs k).1 → k + 3 * wtS d xs ≤ 100000000 →
    Calls Tryd.prog 48 #[.slice a n cap, .int .i64 K] w fun e w' => e = .returned (.int .i64 ((mkS d xs k).2 : Nat)) ∧ Below w.heap.size w w'

set_option maxRecDepth 10000 in
set_option maxHeartbeats 2000000 in
theorem heldS_next (d : Nat) (ih : HeldS d) : HeldS (d + 1) := by
  intro a n cap xs k K w hKk hk hwt
  subst hKk
  have hlen : xs.length = n := by have := hk.1; simp [mkS, mkK] at this; exact this
  have HLN : Hid (xs.length = n) := hlen
  have HW : Hid (k + 3 * (n + wtP d xs n) ≤ 100000000) := by show _ ≤ _; rw [wtS_succ, hlen] at hwt; exact hwt
  have hn9 : n ≤ 100000000 := by have := HW.out; omega
  have HK : Hid (Kids (d + 1) w a n (mkS (d + 1) xs k).1) := hk
  clear hk hwt hlen
  go_enter Tryd.func48, Tryd.ntmps48
  go_wp2
  go_loopw [1, 5] (fun kk i wr => ∃ j q : Nat, j ≤ n ∧ i = .int .i64 j ∧ kk = .int .i64 q ∧ Hid (q = kkAt (mkS d) xs k j) ∧ Below w.heap.size w wr) (fun _ i _ => n - (intOf i).toNat)
  case atStart => exact ⟨0, k, Nat.zero_le _, rfl, rfl, rfl, Below.refl _ _⟩
  case round =>
    obtain ⟨j, q, hj, rfl, rfl, HQ, hbr⟩ := hrel
    have hkl := kkAt_le d xs k j (by rw [HLN.out]; omega)
    rw [← HQ.out] at hkl
    by_cases hjn : j < n
    · obtain ⟨b, off, rfl, hlb, ab1, nb1, cb1, ak1, nk1, ck1, c0, c1, c2, c3, c4, hr1, hn1, hm1, hk1⟩ := HK.out.2.2 j hjn
      have hnx := wtP_next d xs j (by rw [HLN.out]; exact hjn)
      have hle := wtP_le d xs (j + 1)
      rw [HLN.out] at hle
      obtain ⟨y, hy⟩ : ∃ y, y = xs.getD j default := ⟨_, rfl⟩
      have hg : ((mkS (d + 1) xs k).1).getD j default = .mk (q : Int) ((q : Int) + 1) (((q : Int) + 1 + 1) % 3 == 0) (marks (q + 3) y.body.length) (mkS d y.kids (q + 3 + y.body.length)).1 := by
        show ((List.range xs.length).map fun j => (mkItem (mkS d) (xs.getD j default) (kkAt (mkS d) xs k j)).1).getD j default = _
        have hj' : j < xs.length := by rw [HLN.out]; exact hjn
        rw [hy, HQ.out]
        simp [hj', mkItem]
      rw [hg] at c0 c1 c2 hr1 hk1
      rw [It.cls_mk] at c0
      rw [It.tag_mk] at c1
      rw [It.cons_mk] at c2
      rw [It.body_mk] at hr1
      rw [It.kids_mk] at hk1
      have hbl : y.body.length = nb1 := by have := hr1.len; rw [marks_len] at this; exact this
      rw [← hy, hbl] at hnx
      rw [hbl] at hr1 hk1
      have hqk : q + 3 + nb1 + 3 * wtS d y.kids ≤ 100000000 := by have := HW.out; omega
      have hkj : (mkS d y.kids (q + 3 + nb1)).2 = kkAt (mkS d) xs k (j + 1) := by
        show _ = (mkItem (mkS d) (xs.getD j default) (kkAt (mkS d) xs k j)).2
        rw [← hy, ← HQ.out, mkItem, hbl]
      have cc : ∀ i, wr.cell? ⟨b, i, none⟩ = w.cell? ⟨b, i, none⟩ := fun i => hbr.cell (p := ⟨b, i, none⟩) hlb
      rw [← cc] at c0 c1 c2 c3 c4
      have HKJ : Hid (_ = _) := hkj
      have R1 : Hid (_) := hr1.kept hbr
      have K1 : Hid (_) := hk1.kept hbr
      have hji : (j : Int) < (n : Int) := by omega
      have t0 : ((q : Int) != (q : Int)) = false := by simp
      have t1 : ((q : Int) + 1 != (q : Int) + 1) = false := by simp
      have hs := hbr.size
      clear cc hy hg hnx hle hkj hr1 hk1
      go_wp2_with fail
      have htn : ((q : Int) + 1 + 1 + 1).toNat = q + 3 := by omega
      refine (heldByteS_int ab1 nb1 cb1 ((q : Int) + 1 + 1 + 1) wr (by rw [htn]; exact R1.out) (by omega) (by omega) (by omega)).mono ?_
      rintro e w1 ⟨rfl, rfl⟩
      have g0 : ¬ (q : Int) + 1 + 1 + 1 + (nb1 : Int) < 0 := by omega
      go_wp2_with fail
      refine (ih ak1 nk1 ck1 y.kids (q + 3 + nb1) _ _ (by omega) K1.out hqk).mono ?_
      rintro e w2 ⟨rfl, hb2⟩
      have hb2' : Below w.heap.size w w2 := hbr.trans (hb2.mono hs)
      have hq4 := mkS_le d y.kids (q + 3 + nb1)
      obtain ⟨q2, hq2⟩ : ∃ q2, q2 = (mkS d y.kids (q + 3 + nb1)).2 := ⟨_, rfl⟩
      rw [← hq2] at hq4 ⊢
      have HQ2 : Hid (q2 = kkAt (mkS d) xs k (j + 1)) := hq2.trans HKJ.out
      have g1 : ¬ (q2 : Int) < 0 := by omega
      clear hq2 htn
      go_wp2
      go_roundw
      case rel => exact ⟨j + 1, q2, by omega, by go_num, rfl, HQ2, hb2'⟩
      case measure => simp [intOf]; omega
    · obtain rfl : n = j := by omega
      have hq9 : q ≤ 100000000 := by have := HW.out; omega
      have hE : Hid ((mkS (d + 1) xs k).2 = q) := by show kkAt (mkS d) xs k xs.length = q; rw [HLN.out, ← HQ.out]
      clear hkl
      go_wp2
      go_ret
      exact ⟨by rw [hE.out]; rfl, hbr⟩

theorem heldS_all (d : Nat) : HeldS d := by
  induction d with
  | zero => intro a n cap xs k K w _ h; exact h.elim
  | succ d ih => exact heldS_next d ih

end Go.Proofs.YtjkkokjojaknkaaDoor

namespace Go.Proofs.YtjkkokjojaknkaaDoor
open Go.RowKit

def zeroIt : It := .mk 0 0 false [] []
/-- One step down. -/
def stepL (x : It) (p : Int) : Option It := if 0 ≤ p ∧ p < x.kids.length then some (x.kids.getD p.toNat default) else none
def walkP : It → List Int → Option It
  | x, [] => some x
  | x, p :: ps => match stepL x p with
    | none => none
    | some y => walkP y ps
def walkL (x : It) (ps : List Int) : Option It := if (enc 12 x).isSome then walkP x ps else none

theorem drop_get64 (xs : List Int) (k : Nat) (h : k < xs.length) : xs.drop k = xs.getD k 0 :: xs.drop (k + 1) := by
  rw [List.drop_eq_getElem_cons h]
  simp [h]
theorem walkP_none (x : It) (ps : List Int) (k : Nat) (h : k < ps.length) (hs : stepL x (ps.getD k 0) = none) : walkP x (ps.drop k) = none := by
  rw [drop_get64 ps k h, walkP, hs]
theorem walkP_some (x y : It) (ps : List Int) (k : Nat) (h : k < ps.length) (hs : stepL x (ps.getD k 0) = some y) : walkP x (ps.drop k) = walkP y (ps.drop (k + 1)) := by
  rw [drop_get64 ps k h, walkP, hs]
theorem walkP_end (x : It) (ps : List Int) (k : Nat) (h : ps.length ≤ k) : walkP x (ps.drop k) = some x := by
  rw [List.drop_eq_nil_of_le h, walkP]

theorem results_item2 {fn : Func} {t u : Tmp} (h : fn.results = #[.cell t 26, .tmp u]) (tmps : Array Value) (g : Nat) (ht : tmps.getD t undef = .pointer (some ⟨g, 0, none⟩)) (w : World) (c0 c1 c2 c3 c4 : Value)
    (hb : w.heap[g]? = some (.cells #[c0, c1, c2, c3, c4] 26 (0, 0))) : (results fn tmps).run Tryd.prog w = .ok (.tuple #[.agg #[c0, c1, c2, c3, c4], tmps.getD u undef]) w := by
  have d0 : w.cell? ⟨g, 0, none⟩ = some c0 := (cell_of_row _ g 0 _ 26 (0, 0) hb).trans rfl
  have d1 : w.cell? ⟨g, 1, none⟩ = some c1 := (cell_of_row _ g 1 _ 26 (0, 0) hb).trans rfl
  have d2 : w.cell? ⟨g, 2, none⟩ = some c2 := (cell_of_row _ g 2 _ 26 (0, 0) hb).trans rfl
  have d3 : w.cell? ⟨g, 3, none⟩ = some c3 := (cell_of_row _ g 3 _ 26 (0, 0) hb).trans rfl
  have d4 : w.cell? ⟨g, 4, none⟩ = some c4 := (cell_of_row _ g 4 _ 26 (0, 0) hb).trans rfl
  clear hb
  have ht' : tmps[t]?.getD undef = .pointer (some ⟨g, 0, none⟩) := by rw [← ht]; simp
  simp [results, h, go_sem, ht', d0, d1, d2, d3, d4]

/-- What Walk answers: an item of our own, or the zero one. -/
def WkPost (o : Option It) (w : World) (e : Ending) (w' : World) : Prop :=
  ∃ y d ab nb cb ak nk ck M s, e = .returned (.tuple #[itv y ab nb cb ak nk ck, .bool s]) ∧ Hid (y = o.getD zeroIt) ∧ Hid (s = o.isSome) ∧ nb ≤ 1048576 ∧ Hid (wtS d y.kids ≤ 1048576) ∧ w.heap.size ≤ M ∧ M ≤ w'.heap.size ∧ OwnB w.heap.size M w' ab nb cb y.body ∧ OwnKids d M w'.heap.size w' ak nk y.kids ∧ Below w.heap.size w w'

/-- The five cells of a variable are stored. -/
theorem box_set {t g : Nat} {W : World} {x : It} {ab : Option Addr} {nb cb : Nat} {ak : Option Addr} {nk ck : Nat} (h : BoxT t g W x ab nb cb ak nk ck) (y : It) (ab' : Option Addr) (nb' cb' : Nat) (ak' : Option Addr) (nk' ck' : Nat) :
    BoxT t g (((((W.setCell ⟨g, 0, none⟩ (.int .i64 y.cls)).setCell ⟨g, 1, none⟩ (.int .i64 y.tag)).setCell ⟨g, 2, none⟩ (.bool y.cons)).setCell ⟨g, 3, none⟩ (.slice ab' nb' cb')).setCell ⟨g, 4, none⟩ (.slice ak' nk' ck')) y ab' nb' cb' ak' nk' ck' ∧
    Touch g (g + 1) W (((((W.setCell ⟨g, 0, none⟩ (.int .i64 y.cls)).setCell ⟨g, 1, none⟩ (.int .i64 y.tag)).setCell ⟨g, 2, none⟩ (.bool y.cons)).setCell ⟨g, 3, none⟩ (.slice ab' nb' cb')).setCell ⟨g, 4, none⟩ (.slice ak' nk' ck')) ∧
    (((((W.setCell ⟨g, 0, none⟩ (.int .i64 y.cls)).setCell ⟨g, 1, none⟩ (.int .i64 y.tag)).setCell ⟨g, 2, none⟩ (.bool y.cons)).setCell ⟨g, 3, none⟩ (.slice ab' nb' cb')).setCell ⟨g, 4, none⟩ (.slice ak' nk' ck')).heap.size = W.heap.size := by
  have q1 := heap_setCell_same _ g 0 _ t (.int .i64 y.cls) h.heap
  have q2 := heap_setCell_same _ g 1 _ t (.int .i64 y.tag) q1
  have q3 := heap_setCell_same _ g 2 _ t (.bool y.cons) q2
  have q4 := heap_setCell_same _ g 3 _ t (.slice ab' nb' cb') q3
  have q5 := heap_setCell_same _ g 4 _ t (.slice ak' nk' ck') q4
  refine ⟨⟨q5⟩, ?_, by simp⟩
  exact ((((touch_set _ _ _ _ (Nat.le_refl _) (Nat.lt_succ_self _)).trans (touch_set _ _ _ _ (Nat.le_refl _) (Nat.lt_succ_self _))).trans (touch_set _ _ _ _ (Nat.le_refl _) (Nat.lt_succ_self _))).trans (touch_set _ _ _ _ (Nat.le_refl _) (Nat.lt_succ_self _))).trans (touch_set _ _ _ _ (Nat.le_refl _) (Nat.lt_succ_self _))
theorem BoxT.frozen {t g : Nat} {W : World} {x : It} {ab : Option Addr} {nb cb : Nat} {ak : Option Addr} {nk ck : Nat} (h : BoxT t g W x ab nb cb ak nk ck) (j : Nat) : W.frozen? ⟨g, j, none⟩ = false := frozen_of_row W g j _ t h.heap
theorem BoxT.touch {t g p q : Nat} {W W' : World} {x : It} {ab : Option Addr} {nb cb : Nat} {ak : Option Addr} {nk ck : Nat} (h : BoxT t g W x ab nb cb ak nk ck) (hd : g < p ∨ q ≤ g) (ht : Touch p q W W') : BoxT t g W' x ab nb cb ak nk ck := ⟨(ht.block g h.lt hd).trans h.heap⟩

theorem ownKids_nil (d lo hi : Nat) (w : World) (a : Option Addr) : OwnKids (d + 1) lo hi w a 0 [] := ⟨rfl, by decide, .inl rfl⟩

theorem wk_fail {o : Option It} (ho : Hid (o = none)) {w W : World} (hb : Below w.heap.size w W) (br : BoxT 26 (w.heap.size + 1) W zeroIt none 0 0 none 0 0) {e : Ending} (he : e = .returned (.tuple #[itv zeroIt none 0 0 none 0 0, .bool false])) :
    WkPost o w e (((((W.setCell ⟨w.heap.size + 1, 0, none⟩ (.int .i64 0)).setCell ⟨w.heap.size + 1, 1, none⟩ (.int .i64 0)).setCell ⟨w.heap.size + 1, 2, none⟩ (.bool false)).setCell ⟨w.heap.size + 1, 3, none⟩ (.slice none 0 0)).setCell ⟨w.heap.size + 1, 4, none⟩ (.slice none 0 0)) := by
  obtain ⟨_, ht, hs⟩ := box_set br zeroIt none 0 0 none 0 0
  have hsz := hb.size
  refine ⟨zeroIt, 1, none, 0, 0, none, 0, 0, w.heap.size, false, he, (by show _ = _; rw [ho.out]; rfl), (by show _ = _; rw [ho.out]; rfl), by decide, (by show _ ≤ _; decide), Nat.le_refl _, ?_, ⟨own_nil _ _, fun _ h => by cases h⟩, ownKids_nil 0 _ _ _ _, hb.trans (ht.below (by omega) hsz)⟩
  exact Nat.le_trans hsz ht.size

theorem wk_done {o : Option It} {y : It} (ho : Hid (o = some y)) {d : Nat} {w W : World} {ab : Option Addr} {nb cb : Nat} {ak : Option Addr} {nk ck M : Nat} (hnb : nb ≤ 1048576) (hwt : Hid (wtS d y.kids ≤ 1048576)) (hb : Below w.heap.size w W) (h2 : w.heap.size + 2 ≤ M) (hM : M ≤ W.heap.size) (lo : Nat) (hlo : w.heap.size + 2 ≤ lo)
    (ob : OwnB lo M W ab nb cb y.body) (ok : OwnKids d M W.heap.size W ak nk y.kids) (br : BoxT 26 (w.heap.size + 1) W zeroIt none 0 0 none 0 0) {e : Ending} (he : e = .returned (.tuple #[itv y ab nb cb ak nk ck, .bool true])) :
    WkPost o w e (((((W.setCell ⟨w.heap.size + 1, 0, none⟩ (.int .i64 y.cls)).setCell ⟨w.heap.size + 1, 1, none⟩ (.int .i64 y.tag)).setCell ⟨w.heap.size + 1, 2, none⟩ (.bool y.cons)).setCell ⟨w.heap.size + 1, 3, none⟩ (.slice ab nb cb)).setCell ⟨w.heap.size + 1, 4, none⟩ (.slice ak nk ck)) := by
  obtain ⟨_, ht, hs⟩ := box_set br y ab nb cb ak nk ck
  have hsz := hb.size
  refine ⟨y, d, ab, nb, cb, ak, nk, ck, M, true, he, (by show _ = _; rw [ho.out]; rfl), (by show _ = _; rw [ho.out]; rfl), hnb, hwt, by omega, by rw [hs]; exact hM, (ob.touch (.inr (by omega)) ht).mono (by omega) (Nat.le_refl _), ?_, hb.trans (ht.below (by omega) hsz)⟩
  rw [hs]
  exact ownKids_moves d _ _ _ _ _ _ _ _ _ ok (.inr (by omega)) ht

set_option maxRecDepth 10000 in
set_option maxHeartbeats 4000000 in
theorem implWalk_any (d : Nat) (x : It) (ab : Option Addr) (nb cb : Nat) (ak : Option Addr) (nk ck : Nat) (ap : Option Addr) (np cp : Nat) (ps : List Int) (w : World) (hr : Row w ab nb x.body) (hnil : ab = none → cb = 0) (hnb : nb ≤ 1048576) (hk : Kids d w ak nk x.kids) (hwt : wtS d x.kids ≤ 1048576) (hp : Row64 w ap np ps) (hnp : np ≤ 1048576) :
    Calls Tryd.prog 19 #[itv x ab nb cb ak nk ck, .slice ap np cp] w fun e w' => WkPost (walkL x ps) w e w' := by
  have HR : Hid (Row w ab nb x.body) := hr
  have HK : Hid (Kids d w ak nk x.kids) := hk
  have HP : Hid (Row64 w ap np ps) := hp
  have HPL : Hid (ps.length = np) := hp.len
  have HW : Hid (wtS d x.kids ≤ 1048576) := hwt
  clear hr hk hp hwt
  obtain ⟨b0, b1⟩ := two_blocks w (.cells #[.int .i64 x.cls, .int .i64 x.tag, .bool x.cons, .slice ab nb cb, .slice ak nk ck] 26) (.cells #[.int .i64 0, .int .i64 0, .bool false, .slice none 0 0, .slice none 0 0] 26)
  have hB0 : Below w.heap.size w ((w.alloc (.cells #[.int .i64 x.cls, .int .i64 x.tag, .bool x.cons, .slice ab nb cb, .slice ak nk ck] 26)).alloc (.cells #[.int .i64 0, .int .i64 0, .bool false, .slice none 0 0, .slice none 0 0] 26)) := ((Below.refl _ _).alloc (Nat.le_refl _) _).alloc (by simp) _
  have BX0 : Hid (BoxT 26 w.heap.size _ x ab nb cb ak nk ck) := ⟨b0⟩
  have BR0 : Hid (BoxT 26 (w.heap.size + 1) _ zeroIt none 0 0 none 0 0) := ⟨b1⟩
  clear b0 b1
  unfold itv
  go_enter Tryd.func19, Tryd.ntmps19
  go_wp2_with fail
  refine (implItemOk_any d x ab nb cb ak nk ck _ (HR.out.kept hB0) hnil (by omega) (HK.out.kept hB0)).mono ?_
  rintro e w1 ⟨rfl, hb1⟩
  have B1 : Below w.heap.size w w1 := hB0.trans (hb1.mono hB0.size)
  have bx1 := BX0.out.kept hb1
  have br1 := BR0.out.kept hb1
  obtain ⟨z0, z1, z2, z3, z4⟩ := br1.cells
  have f0 := br1.frozen 0
  have f1 := br1.frozen 1
  have f2 := br1.frozen 2
  have f3 := br1.frozen 3
  have f4 := br1.frozen 4
  have hs1 := br1.lt
  have BX1 : Hid (_) := bx1
  have BR1 : Hid (_) := br1
  obtain ⟨s, hs⟩ : ∃ s, s = (enc 12 x).isSome := ⟨_, rfl⟩
  have HS : Hid (s = (enc 12 x).isSome) := hs
  rw [← hs]
  clear hs bx1 br1 hb1 hB0 BX0 BR0
  cases s with
  | false =>
    have HO : Hid (walkL x ps = none) := by show _ = _; rw [walkL, ← HS.out]; rfl
    go_wp2
    try simp only [Exit.inBlock, Exit.then]
    refine bodyPost_ret (results_item2 rfl _ (w.heap.size + 1) rfl _ _ _ _ _ _ (box_set BR1.out zeroIt none 0 0 none 0 0).1.heap) rfl ?_
    exact wk_fail HO B1 BR1.out rfl
  | true =>
    have HO : Hid (walkL x ps = walkP x (ps.drop 0)) := by show _ = _; rw [walkL, ← HS.out, List.drop_zero]; rfl
    clear z0 z1 z2 z3 z4 f0 f1 f2 f3 f4
    go_wp2
    go_loopw [14] (fun i wr => ∃ (k : Nat) (y : It) (d1 : Nat) (ab1 : Option Addr) (nb1 cb1 : Nat) (ak1 : Option Addr) (nk1 ck1 : Nat), k ≤ np ∧ i = .int .i64 k ∧ BoxT 26 w.heap.size wr y ab1 nb1 cb1 ak1 nk1 ck1 ∧ BoxT 26 (w.heap.size + 1) wr zeroIt none 0 0 none 0 0 ∧ Hid (walkL x ps = walkP y (ps.drop k)) ∧ Row w ab1 nb1 y.body ∧ (ab1 = none → cb1 = 0) ∧ nb1 ≤ 1048576 ∧ Kids d1 w ak1 nk1 y.kids ∧ Hid (wtS d1 y.kids ≤ 1048576) ∧ Below w.heap.size w wr) (fun i _ => np - (intOf i).toNat)
    case atStart => exact ⟨0, x, d, ab, nb, cb, ak, nk, ck, Nat.zero_le _, rfl, BX1.out, BR1.out, HO, HR.out, hnil, hnb, HK.out, HW, B1⟩
    case round =>
      obtain ⟨k, y, d1, ab1, nb1, cb1, ak1, nk1, ck1, hkp, rfl, hbx, hbr, HE, hr1, hn1, hm1, hk1, hw1, hB⟩ := hrel
      obtain ⟨q0, q1, q2, q3, q4⟩ := hbx.cells
      have g0 := hbx.frozen 0
      have g1 := hbx.frozen 1
      have g2 := hbx.frozen 2
      have g3 := hbx.frozen 3
      have g4 := hbx.frozen 4
      obtain ⟨z0, z1, z2, z3, z4⟩ := hbr.cells
      have f0 := hbr.frozen 0
      have f1 := hbr.frozen 1
      have f2 := hbr.frozen 2
      have f3 := hbr.frozen 3
      have f4 := hbr.frozen 4
      have BX : Hid (_) := hbx
      have BR : Hid (_) := hbr
      have R1 : Hid (_) := hr1
      have K1 : Hid (Kids d1 w ak1 nk1 y.kids) := hk1
      have hs1 := hbr.lt
      clear hbx hbr hr1 hk1
      by_cases hkn : k < np
      · obtain ⟨bp, offp, rfl, hlp, hcp⟩ := HP.out.get k hkn
        have hpc : wr.cell? ⟨bp, offp + k, none⟩ = some (.int .i64 (ps.getD k 0)) := (hB.cell (p := ⟨bp, offp + k, none⟩) hlp).trans hcp
        obtain ⟨p, hpe⟩ : ∃ p, p = ps.getD k 0 := ⟨_, rfl⟩
        rw [← hpe] at hpc
        have HPE : Hid (p = ps.getD k 0) := hpe
        have hkl : Hid (k < ps.length) := by show _ < _; rw [HPL.out]; exact hkn
        have hkni : (k : Int) < (np : Int) := by omega
        clear hpe hcp
        cases d1 with
        | zero => exact K1.out.elim
        | succ d1 =>
        have KL : Hid (y.kids.length = nk1) := K1.out.1
        have hnk1 := K1.out.2.1
        by_cases hneg : p < 0
        · have HN : Hid (walkL x ps = none) := by show _ = _; rw [HE.out]; exact walkP_none y ps k hkl.out (by rw [← HPE.out, stepL, if_neg (by omega)])
          go_wp2
          try simp only [Exit.inBlock, Exit.then]
          refine bodyPost_ret (results_item2 rfl _ (w.heap.size + 1) rfl _ _ _ _ _ _ (box_set BR.out zeroIt none 0 0 none 0 0).1.heap) rfl ?_
          exact wk_fail HN hB BR.out rfl
        · by_cases hge : p ≥ (nk1 : Int)
          · have HN : Hid (walkL x ps = none) := by show _ = _; rw [HE.out]; exact walkP_none y ps k hkl.out (by rw [← HPE.out, stepL, KL.out, if_neg (by omega)])
            go_wp2
            try simp only [Exit.inBlock, Exit.then]
            refine bodyPost_ret (results_item2 rfl _ (w.heap.size + 1) rfl _ _ _ _ _ _ (box_set BR.out zeroIt none 0 0 none 0 0).1.heap) rfl ?_
            exact wk_fail HN hB BR.out rfl
          · obtain ⟨j, rfl⟩ : ∃ j : Nat, p = (j : Int) := ⟨p.toNat, by omega⟩
            have hj : j < nk1 := by omega
            have hji : (j : Int) < (nk1 : Int) := by omega
            obtain ⟨b3, off3, rfl, hl3, ab3, nb3, cb3, ak3, nk3, ck3, c0, c1, c2, c3, c4, hr3, hn3, hm3, hk3⟩ := K1.out.2.2 j hj
            have hwk : nb3 + wtS d1 (y.kids.getD j default).kids ≤ 1048576 := by
              have i1 := wtP_next d1 y.kids j (by rw [KL.out]; exact hj)
              have i2 := wtP_le d1 y.kids (j + 1)
              have i3 := hw1.out
              rw [wtS_succ, KL.out] at i3
              rw [KL.out] at i2
              rw [hr3.len] at i1
              omega
            have HN : Hid (walkL x ps = walkP (y.kids.getD j default) (ps.drop (k + 1))) := by show _ = _; rw [HE.out]; exact walkP_some y _ ps k hkl.out (by rw [← HPE.out, stepL, KL.out, if_pos (by omega), Int.toNat_natCast])
            obtain ⟨z, hz⟩ : ∃ z, z = y.kids.getD j default := ⟨_, rfl⟩
            rw [← hz] at c0 c1 c2 hr3 hk3 hwk HN
            have cc : ∀ i, wr.cell? ⟨b3, i, none⟩ = w.cell? ⟨b3, i, none⟩ := fun i => hB.cell (p := ⟨b3, i, none⟩) hl3
            rw [← cc] at c0 c1 c2 c3 c4
            clear cc hz
            obtain ⟨sb, st, ss⟩ := box_set BX.out z ab3 nb3 cb3 ak3 nk3 ck3
            have sr := BR.out.touch (p := w.heap.size) (q := w.heap.size + 1) (.inr (Nat.le_refl _)) st
            have sB := hB.trans (st.below (Nat.le_refl _) hB.size)
            have FIN : Hid (_ ∧ _ ∧ _) := ⟨sb, sr, sB⟩
            have R3 : Hid (_) := hr3
            have K3 : Hid (_) := hk3
            have W3 : Hid (wtS d1 z.kids ≤ 1048576) := by show _ ≤ _; omega
            have hnb3 : nb3 ≤ 1048576 := by omega
            clear sb st ss sr sB hr3 hk3 hwk
            go_wp2
            go_roundw
            case rel => exact ⟨k + 1, z, d1, ab3, nb3, cb3, ak3, nk3, ck3, by omega, by go_num, FIN.out.1, FIN.out.2.1, HN, R3.out, hn3, hnb3, K3.out, W3, FIN.out.2.2⟩
            case measure => simp [intOf]; omega
      · obtain rfl : np = k := by omega
        have HN : Hid (walkL x ps = some y) := by show _ = _; rw [HE.out]; exact walkP_end y ps _ (by rw [HPL.out]; exact Nat.le_refl _)
        clear f0 f1 f2 f3 f4 z0 z1 z2 z3 z4 g0 g1 g2 g3 g4
        go_wp2_with fail
        refine (cloneI_all d1 y ab1 nb1 cb1 ak1 nk1 ck1 _ (R1.out.kept hB) hn1 hm1 (K1.out.kept hB) hw1.out).mono ?_
        rintro e w3 ⟨ab5, cb5, ak5, ck5, M, rfl, m1, m2, ob5, ok5, hb5⟩
        have br5 := BR.out.kept hb5
        obtain ⟨z0, z1, z2, z3, z4⟩ := br5.cells
        have f0 := br5.frozen 0
        have f1 := br5.frozen 1
        have f2 := br5.frozen 2
        have f3 := br5.frozen 3
        have f4 := br5.frozen 4
        have B5 : Below w.heap.size w w3 := hB.trans (hb5.mono hB.size)
        have BR5 : Hid (_) := br5
        have OB5 : Hid (_) := ob5
        have OK5 : Hid (_) := ok5
        clear br5 ob5 ok5 hb5
        unfold itv
        go_wp2
        try simp only [Exit.inBlock, Exit.then]
        refine bodyPost_ret (results_item2 rfl _ (w.heap.size + 1) rfl _ _ _ _ _ _ (box_set BR5.out y ab5 nb1 cb5 ak5 nk1 ck5).1.heap) rfl ?_
        exact wk_done HN hm1 hw1 B5 (by omega) m2 wr.heap.size (by omega) OB5.out OK5.out BR5.out rfl

end Go.Proofs.YtjkkokjojaknkaaDoor
