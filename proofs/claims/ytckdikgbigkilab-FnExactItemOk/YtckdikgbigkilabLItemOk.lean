import Derived.Test.YtckdikgbigkilabWItem13
import Derived.Deep.RegionWith
namespace Go.Proofs.Ytckdikgbigkilab
open Go.RowKit

set_option maxRecDepth 10000 in
set_option maxHeartbeats 4000000 in
theorem lawItemOk_walk (d : Nat) (x : It) (ab : Option Addr) (nb cb : Nat) (ak : Option Addr) (nk ck : Nat) (w : World) (hrow : Row w ab nb x.body) (hnb : nb ≤ 9223372036854775807) (hk : Kids d w ak nk x.kids) :
    Calls Try.prog 4 #[itv x ab nb cb ak nk ck] w fun e w' => e = .returned (.bool true) ∧ Below w.heap.size w w' := by
  have HR : Hid (Row w ab nb x.body) := hrow
  have HK : Hid (Kids d w ak nk x.kids) := hk
  clear hrow hk
  have hbl : Below w.heap.size w (w.alloc (.cells #[.int .i64 x.cls, .int .i64 x.tag, .bool x.cons, .slice ab nb cb, .slice ak nk ck] 29)) := (Below.refl _ _).alloc (Nat.le_refl _) _
  have hbx := boxT_new 29 w x ab nb cb ak nk ck
  unfold itv
  go_enter Try.func4, Try.ntmps4
  go_wp2_with fail
  refine (szItem_any d (szS_all d) x ab nb cb ak nk ck 1048576 _ hnb (HK.out.kept hbl) (by decide) (by decide)).mono ?_
  rintro e w1 ⟨rfl, hb1⟩
  have B1 : Below w.heap.size w w1 := hbl.trans (hb1.mono hbl.size)
  replace hbx := hbx.kept hb1
  clear hb1 hbl
  by_cases hlt : ((nb + wtS d x.kids : Nat) : Int) ≤ 1048576
  · have e1 : szR (nb + wtS d x.kids) 1048576 = 1048576 - ((nb + wtS d x.kids : Nat) : Int) := by rw [szR, if_pos hlt]
    obtain ⟨v, hv⟩ : ∃ v, v = 1048576 - ((nb + wtS d x.kids : Nat) : Int) := ⟨_, rfl⟩
    have hv0 : ¬ v < 0 := by omega
    rw [e1, ← hv]
    have hb20 : nb ≤ 1048576 := by omega
    have HW : Hid (wtS d x.kids ≤ 1048576) := by show _ ≤ _; omega
    clear e1 hv hlt hnb
    obtain ⟨q0, q1, q2, q3, q4⟩ := hbx.cells
    have HB : Hid (_) := hbx
    clear hbx
    go_wp2_with fail
    refine (toItem_any d (toS_all d) x ab nb cb ak nk ck _ (HR.out.kept B1) (HK.out.kept B1) hb20 HW.out).mono ?_
    rintro e w2 ⟨ab2, ak2, M2, rfl, _, _, ob2, ok2, hb2⟩
    have B2 : Below w.heap.size w w2 := B1.trans (hb2.mono B1.size)
    have HB2 : Hid (_) := HB.out.kept hb2
    clear q0 q1 q2 q3 q4 HB
    unfold itv
    go_wp2_with fail
    refine (specItemOk_any d x ab2 nb nb ak2 nk nk _ ob2.own.toRow hb20 ok2.kids HW.out).mono ?_
    rintro e w3 ⟨rfl, hb3⟩
    have B3 : Below w.heap.size w w3 := B2.trans (hb3.mono B2.size)
    have HB3 : Hid (_) := HB2.out.kept hb3
    obtain ⟨q0, q1, q2, q3, q4⟩ := HB3.out.cells
    obtain ⟨s, hs⟩ : ∃ s, s = (enc 12 x).isSome := ⟨_, rfl⟩
    have HS : Hid (s = (enc 12 x).isSome) := hs
    rw [← hs]
    clear hs HB2 ob2 ok2 hb2 hb3
    go_wp2_with fail
    refine (toItem_any d (toS_all d) x ab nb cb ak nk ck _ (HR.out.kept B3) (HK.out.kept B3) hb20 HW.out).mono ?_
    rintro e w4 ⟨ab4, ak4, M4, rfl, _, _, ob4, ok4, hb4⟩
    have B4 : Below w.heap.size w w4 := B3.trans (hb4.mono B3.size)
    have HB4 : Hid (_) := HB3.out.kept hb4
    have hal : Below w4.heap.size w4 (w4.alloc (.cells #[.int .i64 x.cls, .int .i64 x.tag, .bool x.cons, .slice ab4 nb nb, .slice ak4 nk nk] 34)) := (Below.refl _ _).alloc (Nat.le_refl _) _
    have B5 : Below w.heap.size w (w4.alloc (.cells #[.int .i64 x.cls, .int .i64 x.tag, .bool x.cons, .slice ab4 nb nb, .slice ak4 nk nk] 34)) := B4.alloc B4.size _
    have HX5 : Hid (_) := boxT_new 34 w4 x ab4 nb nb ak4 nk nk
    have OB5 : Hid (_) := ob4.kept hal
    have OK5 : Hid (_) := ok4.kept hal
    have HB5 : Hid (_) := HB4.out.kept hal
    clear q0 q1 q2 q3 q4 HB3 HB4 ob4 ok4 hb4 hal
    unfold itv
    go_wp2_with fail
    refine (implItemOk_any d x ab4 nb nb ak4 nk nk _ OB5.out.own.toRow OB5.out.own.nil (by omega) OK5.out.kids).mono ?_
    rintro e w6 ⟨rfl, hb6⟩
    have B6 : Below w.heap.size w w6 := B5.trans (hb6.mono B5.size)
    rw [← HS.out]
    have t1 : (s != s) = false := by simp
    have hx6 := HX5.out.kept hb6
    have hb6x := HB5.out.kept hb6
    obtain ⟨p0, p1, p2, p3, p4⟩ := hx6.cells
    obtain ⟨q0, q1, q2, q3, q4⟩ := hb6x.cells
    have OB6 : Hid (_) := OB5.out.kept hb6
    have OK6 : Hid (_) := OK5.out.kept hb6
    have HX6 : Hid (_) := hx6
    clear hx6 hb6x HX5 OB5 OK5 HB5 hb6
    go_wp2_with fail
    have hsz6 := B6.size
    have Bd : Below w.heap.size w w6.drew := B6.drew
    have hdd : Below w6.heap.size w6 w6.drew := (Below.refl _ _).drew
    have TI : Hid (_) := toItem_any d (toS_all d) x ab nb cb ak nk ck w6.drew (HR.out.kept Bd) (HK.out.kept Bd) hb20 HW.out
    have EQ : ∀ (ab7 ak7 : Option Addr) (w7 : World), Below w6.drew.heap.size w6.drew w7 → Row w7 ab7 nb x.body → Kids d w7 ak7 nk x.kids → Hid (Calls Try.prog 17 #[itv x ab4 nb nb ak4 nk nk, itv x ab7 nb nb ak7 nk nk] w7 fun e w' => e = .returned (.bool true) ∧ Below w7.heap.size w7 w') := fun ab7 ak7 w7 h7 r7 k7 =>
      eqItem_same d (eqS_all d) x ab4 nb nb ak4 nk nk ab7 nb ak7 nk w7 (((OB6.out.kept hdd).kept h7).own.toRow) (((OK6.out.kept hdd).kept h7).kids) r7 k7 (by unfold maxLen; omega)
    have HXD : ∀ (w7 : World), Below w6.drew.heap.size w6.drew w7 → BoxT 34 w4.heap.size w7 x ab4 nb nb ak4 nk nk := fun w7 h7 => (HX6.out.kept hdd).kept h7
    go_region_with (first
      | (go_at_call 15; refine Calls.mono TI.out ?_; rintro e w7 ⟨ab7, ak7, M7, rfl, _, _, ob7, ok7, hb7⟩; unfold itv; have hx7 := HXD w7 hb7; obtain ⟨y0, y1, y2, y3, y4⟩ := hx7.cells)
      | (go_at_call 17; refine Calls.mono (EQ ab7 ak7 w7 hb7 ob7.own.toRow ok7.kids).out ?_; rintro e w8 ⟨rfl, hb8⟩))
    all_goals
      have B8 : Below w.heap.size w w8 := (Bd.trans (hb7.mono (by simpa using hsz6))).trans (hb8.mono (Nat.le_trans hsz6 hb7.size))
      go_wp2
      go_ret
      exact ⟨rfl, B8⟩
  · have e1 : szR (nb + wtS d x.kids) 1048576 = -1 := by rw [szR, if_neg hlt]
    rw [e1]
    clear e1
    go_wp2
    go_ret
    exact ⟨rfl, B1⟩

end Go.Proofs.Ytckdikgbigkilab
