import Derived.Test.YtbfjkmlmnhphoaaDoorCO16
namespace Go.Proofs.YtbfjkmlmnhphoaaDoor
open Go.RowKit

/-- A variable that holds a list. -/
structure BoxC (t b : Nat) (W : World) (a1 : Option Addr) (n1 c1 : Nat) (a2 : Option Addr) (n2 c2 : Nat) (a3 : Option Addr) (n3 c3 : Nat) (x : CP) : Prop where
  heap : W.heap[b]? = some (.cells #[.slice a1 n1 c1, .int .i64 x.num, .int .i64 x.base, .int .i64 x.tm, .int .i64 x.next, .int .i64 x.scope, .bool x.ind, .slice a2 n2 c2, .slice a3 n3 c3] t (0, 0))
theorem BoxC.cells {t b : Nat} {W : World} {a1 : Option Addr} {n1 c1 : Nat} {a2 : Option Addr} {n2 c2 : Nat} {a3 : Option Addr} {n3 c3 : Nat} {x : CP} (h : BoxC t b W a1 n1 c1 a2 n2 c2 a3 n3 c3 x) :
    W.cell? ⟨b, 0, none⟩ = some (.slice a1 n1 c1) ∧ W.cell? ⟨b, 1, none⟩ = some (.int .i64 x.num) ∧ W.cell? ⟨b, 2, none⟩ = some (.int .i64 x.base) ∧ W.cell? ⟨b, 3, none⟩ = some (.int .i64 x.tm) ∧ W.cell? ⟨b, 4, none⟩ = some (.int .i64 x.next) ∧ W.cell? ⟨b, 5, none⟩ = some (.int .i64 x.scope) ∧ W.cell? ⟨b, 6, none⟩ = some (.bool x.ind) ∧ W.cell? ⟨b, 7, none⟩ = some (.slice a2 n2 c2) ∧ W.cell? ⟨b, 8, none⟩ = some (.slice a3 n3 c3) :=
  ⟨(cell_of_row _ _ 0 _ t (0, 0) h.heap).trans rfl, (cell_of_row _ _ 1 _ t (0, 0) h.heap).trans rfl, (cell_of_row _ _ 2 _ t (0, 0) h.heap).trans rfl, (cell_of_row _ _ 3 _ t (0, 0) h.heap).trans rfl, (cell_of_row _ _ 4 _ t (0, 0) h.heap).trans rfl, (cell_of_row _ _ 5 _ t (0, 0) h.heap).trans rfl, (cell_of_row _ _ 6 _ t (0, 0) h.heap).trans rfl, (cell_of_row _ _ 7 _ t (0, 0) h.heap).trans rfl, (cell_of_row _ _ 8 _ t (0, 0) h.heap).trans rfl⟩
theorem BoxC.kept {t b : Nat} {W W' : World} {a1 : Option Addr} {n1 c1 : Nat} {a2 : Option Addr} {n2 c2 : Nat} {a3 : Option Addr} {n3 c3 : Nat} {x : CP} (h : BoxC t b W a1 n1 c1 a2 n2 c2 a3 n3 c3 x) (hb : Below W.heap.size W W') : BoxC t b W' a1 n1 c1 a2 n2 c2 a3 n3 c3 x := ⟨(hb.block _ (Array.getElem?_eq_some_iff.1 h.heap).1).trans h.heap⟩
theorem boxC_new (t : Nat) (w : World) (a1 : Option Addr) (n1 c1 : Nat) (a2 : Option Addr) (n2 c2 : Nat) (a3 : Option Addr) (n3 c3 : Nat) (x : CP) : BoxC t w.heap.size (w.alloc (.cells #[.slice a1 n1 c1, .int .i64 x.num, .int .i64 x.base, .int .i64 x.tm, .int .i64 x.next, .int .i64 x.scope, .bool x.ind, .slice a2 n2 c2, .slice a3 n3 c3] t)) a1 n1 c1 a2 n2 c2 a3 n3 c3 x := ⟨heap_alloc_new w _⟩

set_option maxRecDepth 10000 in
set_option maxHeartbeats 4000000 in
theorem lawCrlOk_walk (a1 : Option Addr) (n1 c1 : Nat) (a2 : Option Addr) (n2 c2 : Nat) (a3 : Option Addr) (n3 c3 : Nat) (x : CP) (w : World) (htab : Lib.TabIs Tryd.prog w "internal/strconv.uint64pow10" .u64 Lib.pow10Tab) (hsc : -9223372036854775808 ≤ x.scope ∧ x.scope ≤ 9223372036854775807) (h : Crs w a1 n1 a2 n2 a3 n3 x) :
    Calls Tryd.prog 3 #[crv a1 n1 c1 a2 n2 c2 a3 n3 c3 x] w fun e w' => e = .returned (.bool true) ∧ Below w.heap.size w w' := by
  have HK : Hid (Crs w a1 n1 a2 n2 a3 n3 x) := h
  have HM : Hid (∀ W, Below w.heap.size w W → Lib.TabIs Tryd.prog W "internal/strconv.uint64pow10" .u64 Lib.pow10Tab) := fun W hW => Lib.tabBelow_of_tabIs htab W hW
  have HSC : Hid (-9223372036854775808 ≤ x.scope ∧ x.scope ≤ 9223372036854775807) := hsc
  clear h htab hsc
  have hbl : Below w.heap.size w (w.alloc (.cells #[.slice a1 n1 c1, .int .i64 x.num, .int .i64 x.base, .int .i64 x.tm, .int .i64 x.next, .int .i64 x.scope, .bool x.ind, .slice a2 n2 c2, .slice a3 n3 c3] 28)) := (Below.refl _ _).alloc (Nat.le_refl _) _
  have hbx := boxC_new 28 w a1 n1 c1 a2 n2 c2 a3 n3 c3 x
  have SZ := szCrl_any a1 n1 c1 a2 n2 c2 a3 n3 c3 x 1048576 _ (HK.out.kept hbl) (by decide) (by decide)
  have TO := toCrl_any a1 n1 c1 a2 n2 c2 a3 n3 c3 x
  unfold crv at SZ ⊢
  go_enter Tryd.func3, Tryd.ntmps3
  go_wp2_with fail
  refine SZ.mono ?_
  rintro e w1 ⟨r, rfl, hr, hb1⟩
  have B1 : Below w.heap.size w w1 := hbl.trans (hb1.mono hbl.size)
  have HB1 : Hid (_) := hbx.kept hb1
  clear hb1 hbl hbx SZ
  by_cases hneg : r < 0
  · clear hr
    go_wp2
    go_ret
    exact ⟨rfl, B1⟩
  · have hr0 : 0 ≤ r ∧ r ≤ 1048576 := by omega
    have HZ : Hid (CpOk n1 n2 n3 x) := by rcases hr with h | h; exact absurd h hneg; exact h.2.2
    clear hr
    obtain ⟨q0, q1, q2, q3, q4, q5, q6, q7, q8⟩ := HB1.out.cells
    have T1 := TO w1 (HK.out.kept B1) HZ.out
    unfold crv at T1
    go_wp2_with fail
    refine T1.mono ?_
    rintro e w2 ⟨u1, u2, u3, rfl, hs2, hb2⟩
    have B2 : Below w.heap.size w w2 := B1.trans (hb2.mono B1.size)
    have HB2 : Hid (_) := HB1.out.kept hb2
    have S2 := specCrlOk_any u1 n1 n1 u2 n2 n2 u3 n3 n3 x w2 hs2 HZ.out
    unfold crv at S2
    clear q0 q1 q2 q3 q4 q5 q6 q7 q8 HB1 hs2 hb2 T1
    go_wp2_with fail
    refine S2.mono ?_
    rintro e w3 ⟨b1, rfl, hv1, hb3⟩
    have B3 : Below w.heap.size w w3 := B2.trans (hb3.mono B2.size)
    have HB3 : Hid (_) := HB2.out.kept hb3
    obtain ⟨q0, q1, q2, q3, q4, q5, q6, q7, q8⟩ := HB3.out.cells
    clear HB2 hb3 S2
    have T3 := TO w3 (HK.out.kept B3) HZ.out
    unfold crv at T3
    go_wp2_with fail
    refine T3.mono ?_
    rintro e w4 ⟨p1, p2, p3, rfl, hs4, hb4⟩
    have B4 : Below w.heap.size w w4 := B3.trans (hb4.mono B3.size)
    have HB4 : Hid (_) := HB3.out.kept hb4
    have hal : Below w4.heap.size w4 (w4.alloc (.cells #[.slice p1 n1 n1, .int .i64 x.num, .int .i64 x.base, .int .i64 x.tm, .int .i64 x.next, .int .i64 x.scope, .bool x.ind, .slice p2 n2 n2, .slice p3 n3 n3] 36)) := (Below.refl _ _).alloc (Nat.le_refl _) _
    have B5 : Below w.heap.size w (w4.alloc (.cells #[.slice p1 n1 n1, .int .i64 x.num, .int .i64 x.base, .int .i64 x.tm, .int .i64 x.next, .int .i64 x.scope, .bool x.ind, .slice p2 n2 n2, .slice p3 n3 n3] 36)) := B4.alloc B4.size _
    have HX5 : Hid (_) := boxC_new 36 w4 p1 n1 n1 p2 n2 n2 p3 n3 n3 x
    have HS5 : Hid (_) := hs4.kept hal
    have HB5 : Hid (_) := HB4.out.kept hal
    have I5 := implCrlOk_any p1 n1 n1 p2 n2 n2 p3 n3 n3 x _ (HM.out _ B5) HS5.out HZ.out HSC.out
    unfold crv at I5
    clear q0 q1 q2 q3 q4 q5 q6 q7 q8 HB3 HB4 hs4 hb4 hal T3
    go_wp2_with fail
    refine I5.mono ?_
    rintro e w6 ⟨b2, rfl, hv2, hb6⟩
    have B6 : Below w.heap.size w w6 := B5.trans (hb6.mono B5.size)
    obtain rfl : b2 = b1 := says_one hv2 hv1
    have t1 : (b2 != b2) = false := by simp
    have HX6 : Hid (_) := HX5.out.kept hb6
    obtain ⟨z0, z1, z2, z3, z4, z5, z6, z7, z8⟩ := HX6.out.cells
    obtain ⟨q0, q1, q2, q3, q4, q5, q6, q7, q8⟩ := (HB5.out.kept hb6).cells
    have HS6 : Hid (_) := HS5.out.kept hb6
    clear HX5 HS5 HB5 hb6 hv1 hv2 I5
    go_wp2_with fail
    have hsz6 := B6.size
    have Bd : Below w.heap.size w w6.drew := B6.drew
    have hdd : Below w6.heap.size w6 w6.drew := (Below.refl _ _).drew
    have TI0 := TO w6.drew (HK.out.kept Bd) HZ.out
    unfold crv at TI0
    have TI : Hid (_) := TI0
    clear TI0 TO
    have EQ : ∀ (s1 s2 s3 : Option Addr) (w7 : World), Below w6.drew.heap.size w6.drew w7 → Crs w7 s1 n1 s2 n2 s3 n3 x → Hid (Calls Tryd.prog 11 #[.agg #[.slice p1 n1 n1, .int .i64 x.num, .int .i64 x.base, .int .i64 x.tm, .int .i64 x.next, .int .i64 x.scope, .bool x.ind, .slice p2 n2 n2, .slice p3 n3 n3], .agg #[.slice s1 n1 n1, .int .i64 x.num, .int .i64 x.base, .int .i64 x.tm, .int .i64 x.next, .int .i64 x.scope, .bool x.ind, .slice s2 n2 n2, .slice s3 n3 n3]] w7 fun e w' => e = .returned (.bool true) ∧ Below w7.heap.size w7 w') := fun s1 s2 s3 w7 h7 r7 =>
      eqCrl_same p1 n1 n1 p2 n2 n2 p3 n3 n3 s1 n1 s2 n2 s3 n3 x w7 ((HS6.out.kept hdd).kept h7) r7 HZ.out.2.2.2.2
    have HXD : ∀ (w7 : World), Below w6.drew.heap.size w6.drew w7 → w7.cell? ⟨w4.heap.size, 0, none⟩ = some (.slice p1 n1 n1) ∧ w7.cell? ⟨w4.heap.size, 1, none⟩ = some (.int .i64 x.num) ∧ w7.cell? ⟨w4.heap.size, 2, none⟩ = some (.int .i64 x.base) ∧ w7.cell? ⟨w4.heap.size, 3, none⟩ = some (.int .i64 x.tm) ∧ w7.cell? ⟨w4.heap.size, 4, none⟩ = some (.int .i64 x.next) ∧ w7.cell? ⟨w4.heap.size, 5, none⟩ = some (.int .i64 x.scope) ∧ w7.cell? ⟨w4.heap.size, 6, none⟩ = some (.bool x.ind) ∧ w7.cell? ⟨w4.heap.size, 7, none⟩ = some (.slice p2 n2 n2) ∧ w7.cell? ⟨w4.heap.size, 8, none⟩ = some (.slice p3 n3 n3) := fun w7 h7 => ((HX6.out.kept hdd).kept h7).cells
    go_region_with (first
      | (go_at_call 9; refine Calls.mono TI.out ?_; rintro e w7 ⟨s1, s2, s3, rfl, ok7, hb7⟩; obtain ⟨y0, y1, y2, y3, y4, y5, y6, y7, y8⟩ := HXD w7 hb7)
      | (go_at_call 11; refine Calls.mono (EQ s1 s2 s3 w7 hb7 ok7).out ?_; rintro e w8 ⟨rfl, hb8⟩))
    all_goals
      have B8 : Below w.heap.size w w8 := (Bd.trans (hb7.mono (by simpa using hsz6))).trans (hb8.mono (Nat.le_trans hsz6 hb7.size))
      go_wp2
      go_ret
      exact ⟨rfl, B8⟩

end Go.Proofs.YtbfjkmlmnhphoaaDoor
