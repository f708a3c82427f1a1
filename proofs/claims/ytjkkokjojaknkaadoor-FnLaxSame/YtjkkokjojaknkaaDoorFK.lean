import Derived.Test.YtjkkokjojaknkaaDoorG08
import Derived.Deep.AppendLies
namespace Go.Proofs.YtjkkokjojaknkaaDoor
open Go.RowKit

set_option maxRecDepth 10000 in
set_option maxHeartbeats 1000000 in
theorem clone_any (a : Option Addr) (n cap : Nat) (bs : List Int) (w : World) (h : Row w a n bs) (hnil : a = none → cap = 0) (hn : n ≤ 1048576) :
    Calls Tryd.prog 69 #[.slice a n cap] w fun e w' => ∃ a' cap', e = .returned (.slice a' n cap') ∧ Own w.heap.size w' a' n cap' bs ∧ Below w.heap.size w w' := by
  obtain ⟨i0, hi, hz0, hz1, hz2⟩ := info_parts Tryd.info5
  cases a with
  | none =>
    obtain ⟨rfl, rfl⟩ := row_none h
    obtain rfl := hnil rfl
    clear h
    have he : ∀ w : World, (binOp .eql 22 (.slice none 0 0) (.slice none 0 0)).run Tryd.prog w = .ok (.bool true) w := fun _ => rfl
    go_enter Tryd.func69, Tryd.ntmps69
    go_wp2
    go_ret
    exact ⟨none, 0, rfl, own_nil _ _, Below.refl _ _⟩
  | some ad =>
    have hB1 : Below w.heap.size w (w.alloc (.cells #[] 5)) := (Below.refl _ _).alloc (Nat.le_refl _) _
    have HO : Hid (Own w.heap.size (w.alloc (.cells #[] 5)) (some ⟨w.heap.size, 0, none⟩) 0 0 []) := own_zero _ _ _ rfl (Nat.le_refl _)
    have HR : Hid (Row w (some ad) n bs) := h
    clear h
    have he : ∀ w : World, (binOp .eql 22 (.slice (some ad) n cap) (.slice none 0 0)).run Tryd.prog w = .ok (.bool false) w := fun _ => rfl
    go_enter Tryd.func69, Tryd.ntmps69
    go_wp2_with (at_builtin; refine wpList_append_row _ rfl (.tmp 5) (.tmp 6) 22 rfl w.heap.size i0 Tryd.underlying22 hi hz0 hz1 hz2 _ _ _ rfl HO.out.row (some ad) n cap bs rfl (HR.out.kept hB1) hnil (by omega) hB1.size ?_; intro v1 w1 hv1 hg1; obtain ⟨a1, c1, rfl, ho1⟩ := own_appended (xs := []) (ys := bs) hv1 HO.out.byte HR.out.byte; have hb1 : Below w.heap.size w w1 := below_appended hB1 hB1.size HO.out.row hg1)
    go_ret
    have ho1' : Own w.heap.size w1 a1 n c1 bs := by simpa using ho1
    exact ⟨a1, c1, by simp [Array.getD], ho1', hb1⟩

/-- What cloneItem answers. -/
def ClPost (d : Nat) (x : It) (nb nk : Nat) (w : World) (e : Ending) (w' : World) : Prop :=
  ∃ ab cb ak ck M, e = .returned (itv x ab nb cb ak nk ck) ∧ w.heap.size ≤ M ∧ M ≤ w'.heap.size ∧ OwnB w.heap.size M w' ab nb cb x.body ∧ OwnKids d M w'.heap.size w' ak nk x.kids ∧ Below w.heap.size w w'

def CloneI (d : Nat) : Prop := ∀ (x : It) (ab : Option Addr) (nb cb : Nat) (ak : Option Addr) (nk ck : Nat) (w : World), Row w ab nb x.body → (ab = none → cb = 0) → nb ≤ 1048576 → Kids d w ak nk x.kids → wtS d x.kids ≤ 1048576 →
    Calls Tryd.prog 42 #[itv x ab nb cb ak nk ck] w fun e w' => ClPost d x nb nk w e w'

set_option maxRecDepth 10000 in
set_option maxHeartbeats 4000000 in
theorem cloneI_next (d : Nat) (ih : CloneI d) : CloneI (d + 1) := by
  intro x ab nb cb ak nk ck w hr hnil hnb hk hwt
  obtain ⟨i0, hi, hz0, hz1, hz2⟩ := info_parts Tryd.infoItem
  have HR : Hid (Row w ab nb x.body) := hr
  have HK : Hid (Kids (d + 1) w ak nk x.kids) := hk
  have HL : Hid (x.kids.length = nk) := hk.1
  have HW : Hid (nk + wtP d x.kids nk ≤ 1048576) := by show _ ≤ _; rw [wtS_succ, hk.1] at hwt; exact hwt
  have hnk : nk ≤ 1048576 := by have := HW.out; omega
  clear hk hr hwt
  unfold itv
  go_enter Tryd.func42, Tryd.ntmps42
  go_wp2_with fail
  obtain ⟨W0, hW0⟩ : ∃ W0, W0 = ((w.alloc (.cells #[.int .i64 x.cls, .int .i64 x.tag, .bool x.cons, .slice ab nb cb, .slice ak nk ck] 26)).alloc (.cells #[.int .i64 0, .int .i64 0, .bool false, .slice none 0 0, .slice none 0 0] 26)) := ⟨_, rfl⟩
  have hB0 : Below w.heap.size w W0 := by rw [hW0]; exact ((Below.refl _ _).alloc (Nat.le_refl _) _).alloc (by simp) _
  have hS0 : W0.heap.size = w.heap.size + 2 := by rw [hW0]; simp
  obtain ⟨b0, b1⟩ := two_blocks w (.cells #[.int .i64 x.cls, .int .i64 x.tag, .bool x.cons, .slice ab nb cb, .slice ak nk ck] 26) (.cells #[.int .i64 0, .int .i64 0, .bool false, .slice none 0 0, .slice none 0 0] 26)
  rw [← hW0] at b0 b1 ⊢
  clear hW0
  refine (clone_any ab nb cb x.body _ (HR.out.kept hB0) hnil hnb).mono ?_
  rintro e w1 ⟨a1, c1, rfl, ho1, hb1⟩
  have hs1 := hb1.size
  replace b0 := heap_kept hb1 (by omega) b0
  replace b1 := heap_kept hb1 (by omega) b1
  have hB1 : Below w.heap.size w w1 := hB0.trans (hb1.mono (by omega))
  have hB2 : Below w.heap.size w (w1.setCell ⟨w.heap.size, 3, none⟩ (.slice a1 nb c1)) := hB1.setCell (by simp) _
  have c03 : w1.cell? ⟨w.heap.size, 3, none⟩ = some (.slice ab nb cb) := (cell_of_row _ w.heap.size 3 _ 26 (0, 0) b0).trans rfl
  have f03 : w1.frozen? ⟨w.heap.size, 3, none⟩ = false := frozen_of_row w1 w.heap.size 3 _ 26 b0
  have c04 : w1.cell? ⟨w.heap.size, 4, none⟩ = some (.slice ak nk ck) := (cell_of_row _ w.heap.size 4 _ 26 (0, 0) b0).trans rfl
  have hsz : (w1.setCell ⟨w.heap.size, 3, none⟩ (.slice a1 nb c1)).heap.size = w1.heap.size := by simp
  have t1 : Touch w.heap.size (w.heap.size + 2) w1 (w1.setCell ⟨w.heap.size, 3, none⟩ (.slice a1 nb c1)) := touch_set w1 _ 3 _ (by omega) (by omega)
  have e0 : (w1.setCell ⟨w.heap.size, 3, none⟩ (.slice a1 nb c1)).heap[w.heap.size]? = some (.cells #[.int .i64 x.cls, .int .i64 x.tag, .bool x.cons, .slice a1 nb c1, .slice ak nk ck] 26 (0, 0)) := (heap_setCell_same w1 w.heap.size 3 _ 26 (.slice a1 nb c1) b0).trans rfl
  have e1 : (w1.setCell ⟨w.heap.size, 3, none⟩ (.slice a1 nb c1)).heap[w.heap.size + 1]? = some (.cells #[.int .i64 0, .int .i64 0, .bool false, .slice none 0 0, .slice none 0 0] 26 (0, 0)) := (heap_setCell_other w1 ⟨w.heap.size, 3, none⟩ (w.heap.size + 1) (.slice a1 nb c1) (by simp)).trans b1
  have ob1 : OwnB W0.heap.size w1.heap.size (w1.setCell ⟨w.heap.size, 3, none⟩ (.slice a1 nb c1)) a1 nb c1 x.body := ho1.ownB.touch (.inr (by omega)) t1
  have E0 : Hid (_ = _) := e0
  have E1 : Hid (_ = _) := e1
  have OB1 : Hid (_) := ob1
  clear b0 b1 e0 e1 ob1 ho1 t1 hb1
  go_wp2_with (first | (at_make; refine wpList_make_full _ rfl _ _ 24 rfl w1.heap.size 26 i0 _ 5 Tryd.underlying24 hi hz0 hz1 _ _ _ _ nk rfl rfl rfl rfl (by rw [hz2]; omega) (by unfold maxLen; omega) (by simp) ?_; intro w2 hown hgrow; have e20 := (hgrow.block w.heap.size (by simp; omega) (by simp)).trans E0.out; have c24 : w2.cell? ⟨w.heap.size, 4, none⟩ = some (.slice ak nk ck) := (cell_of_row _ w.heap.size 4 _ 26 (0, 0) e20).trans rfl))
  rw [hsz] at hown
  have hgl := (hown.lt _ rfl).2
  have hsg := hgrow.size
  rw [hsz] at hsg
  have e21 := (hgrow.block (w.heap.size + 1) (by rw [hsz]; omega) (by simp)).trans E1.out
  have hB3 : Below w.heap.size w w2 := hB2.grown hgrow (by rw [hsz]; omega) (by simp)
  have ob2 : OwnB W0.heap.size w1.heap.size w2 a1 nb c1 x.body := OB1.out.kept ((Below.refl _ _).grown hgrow (Nat.le_refl _) (by simp))
  have E20 : Hid (_ = _) := e20
  have E21 : Hid (_ = _) := e21
  clear hgrow hi hz0 hz1 hz2 E0 E1 OB1 e20 e21 c24 c03 f03 c04 hB2 hB0 hB1
  go_loopw [17] (fun i wr => ∃ k : Nat, k ≤ nk ∧ i = .int .i64 k ∧ (∃ vs, wr.ownsRow w1.heap.size 26 5 (.slice (some ⟨w1.heap.size, 0, none⟩) nk nk) nk vs) ∧ OwnPre (OwnKids d) w1.heap.size wr.heap.size wr w1.heap.size k x.kids ∧ OwnB W0.heap.size w1.heap.size wr a1 nb c1 x.body ∧ Touch w1.heap.size (w1.heap.size + 1) w2 wr ∧ Below w.heap.size w wr) (fun i _ => nk - (intOf i).toNat)
  case atStart => exact ⟨0, Nat.zero_le _, rfl, ⟨_, hown⟩, ownPre_zero _ _ _ _ _, ob2, Touch.of_below (Below.refl _ _), hB3⟩
  case round =>
    obtain ⟨k, hk, rfl, ⟨vs, hor⟩, hpre, hob, htr, hbr⟩ := hrel
    by_cases hkn : k < nk
    · obtain ⟨b, off, rfl, hlb, ab1, nb1, cb1, ak1, nk1, ck1, c0, c1', c2, c3, c4, hr, hnil1, hnb1, hkk⟩ := HK.out.2.2 k hkn
      have HN : Hid (_ = _) := wtP_next d x.kids k (by have := HL.out; omega)
      have HLE : Hid (_ ≤ _) := wtP_le d x.kids (k + 1)
      obtain ⟨y, hy⟩ : ∃ y, y = x.kids.getD k default := ⟨_, rfl⟩
      rw [← hy] at c0 c1' c2 hr hkk
      have HY : Hid (y = x.kids.getD k default) := hy
      have cc : ∀ j, wr.cell? ⟨b, j, none⟩ = w.cell? ⟨b, j, none⟩ := fun j => hbr.cell (p := ⟨b, j, none⟩) hlb
      rw [← cc] at c0 c1' c2 c3 c4
      have hkni : (k : Int) < (nk : Int) := by omega
      have hwt : nb1 + wtS d y.kids ≤ 1048576 := by
        have h1 := HN.out
        have h2 := HLE.out
        have h3 := HW.out
        rw [HL.out] at h2
        rw [← hy, hr.len] at h1
        omega
      clear cc hy
      have hs := hbr.size
      have hal : Below wr.heap.size wr (wr.alloc (.cells #[.int .i64 y.cls, .int .i64 y.tag, .bool y.cons, .slice ab1 nb1 cb1, .slice ak1 nk1 ck1] 26)) := (Below.refl _ _).alloc (Nat.le_refl _) _
      have hsa : (wr.alloc (.cells #[.int .i64 y.cls, .int .i64 y.tag, .bool y.cons, .slice ab1 nb1 cb1, .slice ak1 nk1 ck1] 26)).heap.size = wr.heap.size + 1 := by simp
      have hrr := (hr.kept hbr).kept hal
      have hkr := (hkk.kept hbr).kept hal
      have hgl2 := (hor.lt _ rfl).2
      have HPRE : Hid (_) := hpre
      have HOR : Hid (_) := hor
      have HOB : Hid (_) := hob
      have HTR : Hid (_) := htr
      clear hpre hor hr hkk hob htr
      go_wp2_with fail
      refine (ih y ab1 nb1 cb1 ak1 nk1 ck1 _ hrr hnil1 (by omega) hkr (by omega)).mono ?_
      rintro e w3 ⟨ab2, cb2, ak2, ck2, M, rfl, m1, m2, ob3, ok3, hb3⟩
      rw [hsa] at m1 ob3
      have hb3' : Below wr.heap.size wr w3 := hal.trans (hb3.mono (by omega))
      have hor2 : w3.ownsRow w1.heap.size 26 5 (.slice (some ⟨w1.heap.size, 0, none⟩) nk nk) nk vs := ownsRow_below HOR.out hb3'
      have hs3 := hb3'.size
      have fr : ∀ j, w3.frozen? ⟨w1.heap.size, j, none⟩ = false := fun j => hor2.frozenAt j
      have hvl : vs.length = nk * 5 := hor2.1
      have cx : ∀ j, j < nk * 5 → ∃ z, w3.cell? ⟨w1.heap.size, j, none⟩ = some z := fun j hj => ⟨_, (hor2.cellAt j hj).trans (List.getElem?_eq_getElem (by omega))⟩
      obtain ⟨z0, x0⟩ := cx (k * 5) (by omega)
      obtain ⟨z1, x1⟩ := cx (k * 5 + 1) (by omega)
      obtain ⟨z2, x2⟩ := cx (k * 5 + 2) (by omega)
      obtain ⟨z3, x3⟩ := cx (k * 5 + 3) (by omega)
      obtain ⟨z4, x4⟩ := cx (k * 5 + 4) (by omega)
      have f0 := fr (k * 5)
      have f1 := fr (k * 5 + 1)
      have f2 := fr (k * 5 + 2)
      have f3 := fr (k * 5 + 3)
      have f4 := fr (k * 5 + 4)
      clear fr cx
      unfold itv
      have hS := set5_is hor2 k hkn (.int .i64 y.cls) (.int .i64 y.tag) (.bool y.cons) (.slice ab2 nb1 cb2) (.slice ak2 nk1 ck2)
      have HP2 : OwnPre (OwnKids d) w1.heap.size wr.heap.size w3 w1.heap.size k x.kids := OwnPre.move (ownKids_moves d) HPRE.out (fun j hj => hb3'.cell (p := ⟨w1.heap.size, j, none⟩) (by simp; omega)) (.inr ⟨rfl, rfl⟩) (Touch.of_below hb3')
      have HP3 : OwnPre (OwnKids d) w1.heap.size wr.heap.size (set5 w3 w1.heap.size k (.int .i64 y.cls) (.int .i64 y.tag) (.bool y.cons) (.slice ab2 nb1 cb2) (.slice ak2 nk1 ck2)) w1.heap.size k x.kids := HP2.move (ownKids_moves d) (fun j hj => hS.old j (by omega) (.inl hj)) (.inr ⟨rfl, rfl⟩) hS.touch
      have HP4 := HP3.more (s := wr.heap.size + 1) (hi' := w3.heap.size) (M := M) (by omega) (by omega) (by omega) m1 m2 (by rw [← HY.out]; exact hS.c0) (by rw [← HY.out]; exact hS.c1) (by rw [← HY.out]; exact hS.c2) hS.c3 hS.c4 (by rw [← HY.out]; exact ob3.touch (.inr (by omega)) hS.touch) (by rw [← HY.out]; exact ownKids_moves d _ _ _ _ _ _ _ _ _ ok3 (.inr (by omega)) hS.touch)
      rw [← hS.size] at HP4
      have HT4 : Touch w1.heap.size (w1.heap.size + 1) w2 (set5 w3 w1.heap.size k (.int .i64 y.cls) (.int .i64 y.tag) (.bool y.cons) (.slice ab2 nb1 cb2) (.slice ak2 nk1 ck2)) := (HTR.out.trans (Touch.of_below hb3')).trans hS.touch
      have HB4 : Below w.heap.size w (set5 w3 w1.heap.size k (.int .i64 y.cls) (.int .i64 y.tag) (.bool y.cons) (.slice ab2 nb1 cb2) (.slice ak2 nk1 ck2)) := (hbr.trans (hb3'.mono hs)).trans (hS.touch.below (by omega) (by omega))
      have HOB4 := (HOB.out.kept hb3').touch (p := w1.heap.size) (q := w1.heap.size + 1) (.inl (Nat.le_refl _)) hS.touch
      have HP5 : Hid (_ ∧ _ ∧ _ ∧ _ ∧ _) := ⟨hS.own, HP4, HOB4, HT4, HB4⟩
      clear hS HP2 HP3 HP4 HB4 HOB4 HT4
      go_wp2
      go_roundw
      case rel => exact ⟨k + 1, by omega, by go_num, HP5.out.1, HP5.out.2.1, HP5.out.2.2.1, HP5.out.2.2.2.1, HP5.out.2.2.2.2⟩
      case measure => simp [intOf]; omega
    · obtain rfl : nk = k := by omega
      have e0 : wr.heap[w.heap.size]? = _ := (htr.block w.heap.size (by omega) (by omega)).trans E20.out
      have e1 : wr.heap[w.heap.size + 1]? = _ := (htr.block (w.heap.size + 1) (by omega) (by omega)).trans E21.out
      have cr0 : wr.cell? ⟨w.heap.size, 0, none⟩ = some (.int .i64 x.cls) := (cell_of_row _ w.heap.size 0 _ 26 (0, 0) e0).trans rfl
      have cr1 : wr.cell? ⟨w.heap.size, 1, none⟩ = some (.int .i64 x.tag) := (cell_of_row _ w.heap.size 1 _ 26 (0, 0) e0).trans rfl
      have cr2 : wr.cell? ⟨w.heap.size, 2, none⟩ = some (.bool x.cons) := (cell_of_row _ w.heap.size 2 _ 26 (0, 0) e0).trans rfl
      have cr3 : wr.cell? ⟨w.heap.size, 3, none⟩ = some (.slice a1 nb c1) := (cell_of_row _ w.heap.size 3 _ 26 (0, 0) e0).trans rfl
      have cr4 : wr.cell? ⟨w.heap.size, 4, none⟩ = some (.slice ak nk ck) := (cell_of_row _ w.heap.size 4 _ 26 (0, 0) e0).trans rfl
      have fr4 : wr.frozen? ⟨w.heap.size, 4, none⟩ = false := frozen_of_row wr w.heap.size 4 _ 26 e0
      have cs0 : wr.cell? ⟨w.heap.size + 1, 0, none⟩ = some (.int .i64 0) := (cell_of_row _ (w.heap.size + 1) 0 _ 26 (0, 0) e1).trans rfl
      have cs1 : wr.cell? ⟨w.heap.size + 1, 1, none⟩ = some (.int .i64 0) := (cell_of_row _ (w.heap.size + 1) 1 _ 26 (0, 0) e1).trans rfl
      have cs2 : wr.cell? ⟨w.heap.size + 1, 2, none⟩ = some (.bool false) := (cell_of_row _ (w.heap.size + 1) 2 _ 26 (0, 0) e1).trans rfl
      have cs3 : wr.cell? ⟨w.heap.size + 1, 3, none⟩ = some (.slice none 0 0) := (cell_of_row _ (w.heap.size + 1) 3 _ 26 (0, 0) e1).trans rfl
      have cs4 : wr.cell? ⟨w.heap.size + 1, 4, none⟩ = some (.slice none 0 0) := (cell_of_row _ (w.heap.size + 1) 4 _ 26 (0, 0) e1).trans rfl
      have fs0 : wr.frozen? ⟨w.heap.size + 1, 0, none⟩ = false := frozen_of_row wr (w.heap.size + 1) 0 _ 26 e1
      have fs1 : wr.frozen? ⟨w.heap.size + 1, 1, none⟩ = false := frozen_of_row wr (w.heap.size + 1) 1 _ 26 e1
      have fs2 : wr.frozen? ⟨w.heap.size + 1, 2, none⟩ = false := frozen_of_row wr (w.heap.size + 1) 2 _ 26 e1
      have fs3 : wr.frozen? ⟨w.heap.size + 1, 3, none⟩ = false := frozen_of_row wr (w.heap.size + 1) 3 _ 26 e1
      have fs4 : wr.frozen? ⟨w.heap.size + 1, 4, none⟩ = false := frozen_of_row wr (w.heap.size + 1) 4 _ 26 e1
      have EE1 : Hid (_ = _) := e1
      have hwl := (hor.lt _ rfl).2
      have OK : Hid (OwnKids (d + 1) w1.heap.size wr.heap.size wr (some ⟨w1.heap.size, 0, none⟩) nk x.kids) := by
        refine ⟨HL.out, by omega, ?_⟩
        rcases Nat.eq_zero_or_pos nk with h0 | h0
        · exact .inl h0
        · exact .inr ⟨w1.heap.size, nk, vs, rfl, Nat.le_refl _, hwl, hor, hpre⟩
      have OB : Hid (_) := hob
      have HBR : Hid (_) := hbr
      clear e0 e1 hor hpre hob htr hbr
      go_wp2
      have q0 := heap_setCell_other wr ⟨w.heap.size, 4, none⟩ (w.heap.size + 1) (.slice (some ⟨w1.heap.size, 0, none⟩) nk nk) (by simp)
      have q1 := heap_setCell_same _ (w.heap.size + 1) 0 _ 26 (.int .i64 x.cls) (q0.trans EE1.out)
      have q2 := heap_setCell_same _ (w.heap.size + 1) 1 _ 26 (.int .i64 x.tag) q1
      have q3 := heap_setCell_same _ (w.heap.size + 1) 2 _ 26 (.bool x.cons) q2
      have q4 := heap_setCell_same _ (w.heap.size + 1) 3 _ 26 (.slice a1 nb c1) q3
      have q5 := heap_setCell_same _ (w.heap.size + 1) 4 _ 26 (.slice (some ⟨w1.heap.size, 0, none⟩) nk nk) q4
      have tt : Touch w.heap.size (w.heap.size + 2) wr ((((((wr.setCell ⟨w.heap.size, 4, none⟩ (.slice (some ⟨w1.heap.size, 0, none⟩) nk nk)).setCell ⟨w.heap.size + 1, 0, none⟩ (.int .i64 x.cls)).setCell ⟨w.heap.size + 1, 1, none⟩ (.int .i64 x.tag)).setCell ⟨w.heap.size + 1, 2, none⟩ (.bool x.cons)).setCell ⟨w.heap.size + 1, 3, none⟩ (.slice a1 nb c1)).setCell ⟨w.heap.size + 1, 4, none⟩ (.slice (some ⟨w1.heap.size, 0, none⟩) nk nk)) :=
        (((((touch_set _ _ _ _ (by omega) (by omega)).trans (touch_set _ _ _ _ (by omega) (by omega))).trans (touch_set _ _ _ _ (by omega) (by omega))).trans (touch_set _ _ _ _ (by omega) (by omega))).trans (touch_set _ _ _ _ (by omega) (by omega))).trans (touch_set _ _ _ _ (by omega) (by omega))
      have hsz3 : ((((((wr.setCell ⟨w.heap.size, 4, none⟩ (.slice (some ⟨w1.heap.size, 0, none⟩) nk nk)).setCell ⟨w.heap.size + 1, 0, none⟩ (.int .i64 x.cls)).setCell ⟨w.heap.size + 1, 1, none⟩ (.int .i64 x.tag)).setCell ⟨w.heap.size + 1, 2, none⟩ (.bool x.cons)).setCell ⟨w.heap.size + 1, 3, none⟩ (.slice a1 nb c1)).setCell ⟨w.heap.size + 1, 4, none⟩ (.slice (some ⟨w1.heap.size, 0, none⟩) nk nk)).heap.size = wr.heap.size := by simp
      try simp only [Exit.inBlock, Exit.then]
      refine bodyPost_ret (results_item rfl _ (w.heap.size + 1) rfl _ _ _ _ _ _ q5) rfl ?_
      refine ⟨a1, c1, some ⟨w1.heap.size, 0, none⟩, nk, w1.heap.size, rfl, by omega, by rw [hsz3]; omega, (OB.out.touch (.inr (by omega)) tt).mono (by omega) (Nat.le_refl _), ?_, HBR.out.trans (tt.below (by omega) (by omega))⟩
      rw [hsz3]
      exact ownKids_moves (d + 1) _ _ _ _ _ _ _ _ _ OK.out (.inr (by omega)) tt

theorem cloneI_all (d : Nat) : CloneI d := by
  induction d with
  | zero => intro x ab nb cb ak nk ck w _ _ _ h; exact h.elim
  | succ d ih => exact cloneI_next d ih

end Go.Proofs.YtjkkokjojaknkaaDoor

namespace Go.Proofs.YtjkkokjojaknkaaDoor
open Go.RowKit

theorem OwnPre.regrow {K : Nat → Nat → World → Option Addr → Nat → List It → Prop} (hK : Moves K) {lo hi : Nat} {w w' : World} {g g' i : Nat} {xs : List It} (h : OwnPre K lo hi w g i xs)
    (hc : ∀ j, j < i * 5 → w'.cell? ⟨g', j, none⟩ = w.cell? ⟨g, j, none⟩) (hg : g' = g ∨ hi ≤ g') (ht : Touch g (g + 1) w w') : OwnPre K lo hi w' g' i xs := by
  obtain ⟨L, H, h1, h2, h3⟩ := h
  refine ⟨L, H, fun k hk => ?_, h2, fun k hk => ?_⟩
  · have := h1 k hk
    rcases hg with rfl | hg
    · exact this
    · omega
  · obtain ⟨ab, nb, cb, ak, nk, ck, M, c0, c1, c2, c3, c4, m1, m2, ob, ok⟩ := h3 k hk
    have hb := h1 k hk
    exact ⟨ab, nb, cb, ak, nk, ck, M, (hc _ (by omega)).trans c0, (hc _ (by omega)).trans c1, (hc _ (by omega)).trans c2, (hc _ (by omega)).trans c3, (hc _ (by omega)).trans c4, m1, m2,
      ob.touch (by omega) ht, hK _ _ _ _ _ _ _ _ _ ok (by omega) ht⟩
theorem OwnPre.wide {K : Nat → Nat → World → Option Addr → Nat → List It → Prop} {lo hi hi' : Nat} {w : World} {g i : Nat} {xs : List It} (h : OwnPre K lo hi w g i xs) (hh : hi ≤ hi') : OwnPre K lo hi' w g i xs := by
  obtain ⟨L, H, h1, h2, h3⟩ := h
  exact ⟨L, H, fun k hk => by have := h1 k hk; omega, h2, h3⟩
theorem OwnPre.more' {K : Nat → Nat → World → Option Addr → Nat → List It → Prop} {lo hi s hi' M : Nat} {w : World} {g i : Nat} {xs : List It} (h : OwnPre K lo hi w g i xs) (hs : hi ≤ s) (hg : g < s ∨ hi' ≤ g) (hlo : lo ≤ s) (m1 : s ≤ M) (m2 : M ≤ hi')
    {ab : Option Addr} {nb cb : Nat} {ak : Option Addr} {nk ck : Nat} (c0 : w.cell? ⟨g, i * 5, none⟩ = some (.int .i64 (xs.getD i default).cls)) (c1 : w.cell? ⟨g, i * 5 + 1, none⟩ = some (.int .i64 (xs.getD i default).tag)) (c2 : w.cell? ⟨g, i * 5 + 2, none⟩ = some (.bool (xs.getD i default).cons))
    (c3 : w.cell? ⟨g, i * 5 + 3, none⟩ = some (.slice ab nb cb)) (c4 : w.cell? ⟨g, i * 5 + 4, none⟩ = some (.slice ak nk ck)) (ob : OwnB s M w ab nb cb (xs.getD i default).body) (ok : K M hi' w ak nk (xs.getD i default).kids) : OwnPre K lo hi' w g (i + 1) xs := by
  obtain ⟨L, H, h1, h2, h3⟩ := h
  refine ⟨fun k => if k = i then s else L k, fun k => if k = i then hi' else H k, fun k hk => ?_, fun j k hjk hk => ?_, fun k hk => ?_⟩
  · by_cases hki : k = i
    · subst hki
      simp only [if_true]
      omega
    · have := h1 k (by omega)
      simp only [if_neg hki]
      omega
  · have hj := h1 j (by omega)
    simp only [if_neg (show j ≠ i by omega)]
    by_cases hki : k = i
    · simp only [if_pos hki]; omega
    · simp only [if_neg hki]; exact h2 j k hjk (by omega)
  · by_cases hki : k = i
    · subst hki
      simp only [if_true]
      exact ⟨ab, nb, cb, ak, nk, ck, M, c0, c1, c2, c3, c4, m1, m2, ob, ok⟩
    · simp only [if_neg hki]
      exact h3 k (by omega)

theorem cells_new (w : World) (cs : Array Value) (t : TypeId) : ∀ j u, cs.toList[j]? = some u → (w.alloc (.cells cs t)).cell? ((⟨w.heap.size, 0, none⟩ : Addr).add j) = some u := by
  intro j u hj
  rw [Addr.add_lit, Nat.zero_add, cell_of_row _ w.heap.size j _ t (0, 0) (heap_alloc_new w _)]
  simpa using hj

end Go.Proofs.YtjkkokjojaknkaaDoor
