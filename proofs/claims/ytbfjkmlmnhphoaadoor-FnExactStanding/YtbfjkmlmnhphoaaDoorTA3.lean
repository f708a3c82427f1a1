import Derived.Test.YtbfjkmlmnhphoaaDoorST0
import Derived.Test.YtbfjkmlmnhphoaaDoorCO16
set_option linter.unusedVariables false
namespace Go.Proofs.YtbfjkmlmnhphoaaDoor
open Go.RowKit

set_option maxRecDepth 10000 in
set_option maxHeartbeats 1000000 in
theorem speaks_any (a1 : Option Addr) (n1 c1 : Nat) (a2 : Option Addr) (n2 c2 : Nat) (a3 : Option Addr) (n3 c3 : Nat) (x : CP) (ai : Option Addr) (ni ci : Nat) (is : List PT) (now : Int) (w : World) (htab : Lib.TabIs Tryd.prog w "internal/strconv.uint64pow10" .u64 Lib.pow10Tab) (h : Crs w a1 n1 a2 n2 a3 n3 x) (hz : CpOk n1 n2 n3 x) (hsc : -9223372036854775808 ≤ x.scope ∧ x.scope ≤ 9223372036854775807) (hi : Pts w ai ni is) (hzi : ∀ k, k < ni → (is.getD k default).val.size ≤ 1048576) :
    Calls Tryd.prog 60 #[crv a1 n1 c1 a2 n2 c2 a3 n3 c3 x, nmv ai ni ci, .int .i64 now] w (Says (spkP x is now) w) := by
  have HK : Hid (Crs w a1 n1 a2 n2 a3 n3 x) := h
  have HZ : Hid (CpOk n1 n2 n3 x) := hz
  have HI : Hid (Pts w ai ni is) := hi
  have HZI : Hid (∀ k, k < ni → (is.getD k default).val.size ≤ 1048576) := hzi
  have hCO : ∀ W, Below w.heap.size w W → Calls Tryd.prog 10 #[crv a1 n1 c1 a2 n2 c2 a3 n3 c3 x] W (Says (crlP x) W) := fun W hW => implCrlOk_any a1 n1 c1 a2 n2 c2 a3 n3 c3 x W (Lib.tabBelow_of_tabIs htab W hW) (h.kept hW) hz hsc
  have HCO : Hid (∀ W, Below w.heap.size w W → Calls Tryd.prog 10 #[.agg #[.slice a1 n1 c1, .int .i64 x.num, .int .i64 x.base, .int .i64 x.tm, .int .i64 x.next, .int .i64 x.scope, .bool x.ind, .slice a2 n2 c2, .slice a3 n3 c3]] W (Says (crlP x) W)) := hCO
  have hFU : ∀ W, Calls Tryd.prog 46 #[crv a1 n1 c1 a2 n2 c2 a3 n3 c3 x] W fun e w' => e = .returned (.bool (x.base == -1)) ∧ Below W.heap.size W w' := fun W => isFull_any a1 n1 c1 a2 n2 c2 a3 n3 c3 x W
  have HFU : Hid (∀ W, Calls Tryd.prog 46 #[.agg #[.slice a1 n1 c1, .int .i64 x.num, .int .i64 x.base, .int .i64 x.tm, .int .i64 x.next, .int .i64 x.scope, .bool x.ind, .slice a2 n2 c2, .slice a3 n3 c3]] W fun e w' => e = .returned (.bool (x.base == -1)) ∧ Below W.heap.size W w') := hFU
  clear h hz htab hi hzi hCO hFU hsc
  unfold crv nmv
  obtain ⟨w0, hw0⟩ : ∃ w0, w0 = (w.alloc (.cells #[.slice a1 n1 c1, .int .i64 x.num, .int .i64 x.base, .int .i64 x.tm, .int .i64 x.next, .int .i64 x.scope, .bool x.ind, .slice a2 n2 c2, .slice a3 n3 c3] 36)).alloc (.cells #[.slice ai ni ci] 33) := ⟨_, rfl⟩
  have B0 : Hid (Below w.heap.size w w0) := by show Below w.heap.size w w0; rw [hw0]; exact two_below _ _ _
  have b0 := two_blocks w (.cells #[.slice a1 n1 c1, .int .i64 x.num, .int .i64 x.base, .int .i64 x.tm, .int .i64 x.next, .int .i64 x.scope, .bool x.ind, .slice a2 n2 c2, .slice a3 n3 c3] 36) (.cells #[.slice ai ni ci] 33)
  rw [← hw0] at b0
  obtain ⟨hh0, hn0⟩ := b0
  have Y0 : Hid (w0.heap[w.heap.size]? = some (.cells #[.slice a1 n1 c1, .int .i64 x.num, .int .i64 x.base, .int .i64 x.tm, .int .i64 x.next, .int .i64 x.scope, .bool x.ind, .slice a2 n2 c2, .slice a3 n3 c3] 36)) := hh0
  have N0 : Hid (w0.heap[w.heap.size + 1]? = some (.cells #[.slice ai ni ci] 33)) := hn0
  have l0 : w.heap.size + 1 < w0.heap.size := (Array.getElem?_eq_some_iff.1 hn0).1
  have p0 : w0.cell? ⟨w.heap.size, 0, none⟩ = some (.slice a1 n1 c1) := (cell_of_row _ _ 0 _ 36 (0, 0) hh0).trans rfl
  have p1 : w0.cell? ⟨w.heap.size, 1, none⟩ = some (.int .i64 x.num) := (cell_of_row _ _ 1 _ 36 (0, 0) hh0).trans rfl
  have p2 : w0.cell? ⟨w.heap.size, 2, none⟩ = some (.int .i64 x.base) := (cell_of_row _ _ 2 _ 36 (0, 0) hh0).trans rfl
  have p3 : w0.cell? ⟨w.heap.size, 3, none⟩ = some (.int .i64 x.tm) := (cell_of_row _ _ 3 _ 36 (0, 0) hh0).trans rfl
  have p4 : w0.cell? ⟨w.heap.size, 4, none⟩ = some (.int .i64 x.next) := (cell_of_row _ _ 4 _ 36 (0, 0) hh0).trans rfl
  have p5 : w0.cell? ⟨w.heap.size, 5, none⟩ = some (.int .i64 x.scope) := (cell_of_row _ _ 5 _ 36 (0, 0) hh0).trans rfl
  have p6 : w0.cell? ⟨w.heap.size, 6, none⟩ = some (.bool x.ind) := (cell_of_row _ _ 6 _ 36 (0, 0) hh0).trans rfl
  have p7 : w0.cell? ⟨w.heap.size, 7, none⟩ = some (.slice a2 n2 c2) := (cell_of_row _ _ 7 _ 36 (0, 0) hh0).trans rfl
  have p8 : w0.cell? ⟨w.heap.size, 8, none⟩ = some (.slice a3 n3 c3) := (cell_of_row _ _ 8 _ 36 (0, 0) hh0).trans rfl
  clear hh0 hn0
  go_enter Tryd.func60, Tryd.ntmps60
  go_upto_region 1 with fail
  rw [← hw0]
  clear hw0
  go_wp2_with fail
  refine (HCO.out _ B0.out).mono ?_
  rintro e w1 ⟨v1, rfl, hv1, hb1⟩
  have B1 : Hid (Below w.heap.size w w1) := B0.out.trans (hb1.mono B0.out.size)
  have Y1 : Hid (w1.heap[w.heap.size]? = some (.cells #[.slice a1 n1 c1, .int .i64 x.num, .int .i64 x.base, .int .i64 x.tm, .int .i64 x.next, .int .i64 x.scope, .bool x.ind, .slice a2 n2 c2, .slice a3 n3 c3] 36)) := (hb1.block _ (by omega)).trans Y0.out
  have N1 : Hid (w1.heap[w.heap.size + 1]? = some (.cells #[.slice ai ni ci] 33)) := (hb1.block _ l0).trans N0.out
  have l1 : w.heap.size + 1 < w1.heap.size := (Array.getElem?_eq_some_iff.1 N1.out).1
  have HV1 : Hid _ := hv1
  clear p0 p1 p2 p3 p4 p5 p6 p7 p8 hb1 hv1 B0 Y0 N0 l0
  rcases v1 with _ | _
  · have HN : Hid (¬ spkP x is now) := fun q => by have := HV1.out.2 q.1; simp at this
    go_wp2
    go_ret
    exact says_f HN.out B1.out
  have HCA : Hid (crlP x) := HV1.out.1 rfl
  clear HV1
  have p0 : w1.cell? ⟨w.heap.size, 0, none⟩ = some (.slice a1 n1 c1) := (cell_of_row _ _ 0 _ 36 (0, 0) Y1.out).trans rfl
  have p1 : w1.cell? ⟨w.heap.size, 1, none⟩ = some (.int .i64 x.num) := (cell_of_row _ _ 1 _ 36 (0, 0) Y1.out).trans rfl
  have p2 : w1.cell? ⟨w.heap.size, 2, none⟩ = some (.int .i64 x.base) := (cell_of_row _ _ 2 _ 36 (0, 0) Y1.out).trans rfl
  have p3 : w1.cell? ⟨w.heap.size, 3, none⟩ = some (.int .i64 x.tm) := (cell_of_row _ _ 3 _ 36 (0, 0) Y1.out).trans rfl
  have p4 : w1.cell? ⟨w.heap.size, 4, none⟩ = some (.int .i64 x.next) := (cell_of_row _ _ 4 _ 36 (0, 0) Y1.out).trans rfl
  have p5 : w1.cell? ⟨w.heap.size, 5, none⟩ = some (.int .i64 x.scope) := (cell_of_row _ _ 5 _ 36 (0, 0) Y1.out).trans rfl
  have p6 : w1.cell? ⟨w.heap.size, 6, none⟩ = some (.bool x.ind) := (cell_of_row _ _ 6 _ 36 (0, 0) Y1.out).trans rfl
  have p7 : w1.cell? ⟨w.heap.size, 7, none⟩ = some (.slice a2 n2 c2) := (cell_of_row _ _ 7 _ 36 (0, 0) Y1.out).trans rfl
  have p8 : w1.cell? ⟨w.heap.size, 8, none⟩ = some (.slice a3 n3 c3) := (cell_of_row _ _ 8 _ 36 (0, 0) Y1.out).trans rfl
  go_wp2_with fail
  refine (HFU.out _).mono ?_
  rintro e w2 ⟨rfl, hb2⟩
  have B2 : Hid (Below w.heap.size w w2) := B1.out.trans (hb2.mono B1.out.size)
  have Y2 : Hid (w2.heap[w.heap.size]? = some (.cells #[.slice a1 n1 c1, .int .i64 x.num, .int .i64 x.base, .int .i64 x.tm, .int .i64 x.next, .int .i64 x.scope, .bool x.ind, .slice a2 n2 c2, .slice a3 n3 c3] 36)) := (hb2.block _ (by omega)).trans Y1.out
  have N2 : Hid (w2.heap[w.heap.size + 1]? = some (.cells #[.slice ai ni ci] 33)) := (hb2.block _ l1).trans N1.out
  have l2 : w.heap.size + 1 < w2.heap.size := (Array.getElem?_eq_some_iff.1 N2.out).1
  clear p0 p1 p2 p3 p4 p5 p6 p7 p8 hb2 B1 Y1 N1 l1
  have HBS : Hid (-1 ≤ x.base) := HCA.out.1.2.2.1.1
  by_cases hbs : x.base = -1
  case neg =>
    have hbe : (x.base == -1) = false := by simp [hbs]
    have HN : Hid (¬ spkP x is now) := fun q => hbs (by have := q.2.1; have := HBS.out; omega)
    rw [hbe]
    clear hbs hbe
    go_wp2
    go_ret
    exact says_f HN.out B2.out
  have hbe : (x.base == -1) = true := by simp [hbs]
  have HBE : Hid (x.base < 0) := by show x.base < 0; omega
  rw [hbe]
  clear hbs hbe
  have p3 : w2.cell? ⟨w.heap.size, 3, none⟩ = some (.int .i64 x.tm) := (cell_of_row _ _ 3 _ 36 (0, 0) Y2.out).trans rfl
  have p4 : w2.cell? ⟨w.heap.size, 4, none⟩ = some (.int .i64 x.next) := (cell_of_row _ _ 4 _ 36 (0, 0) Y2.out).trans rfl
  have hwr : IntKind.i64.wrap (x.next - 1) = x.next - 1 := wrap_i64 _ (by have := HCA.out.1.2.2.2.2.1.1; omega) (by have := HCA.out.1.2.2.2.2.1.2; omega)
  go_wp2_with fail
  by_cases q3 : x.tm ≤ now ∧ now ≤ x.next - 1
  case neg =>
    refine (inBounds_any now x.tm (x.next - 1) _).mono ?_
    rintro e w9 ⟨rfl, hw9⟩
    subst hw9
    rw [decide_eq_false q3]
    have HN : Hid (¬ spkP x is now) := fun q => q3 ⟨q.2.2.1, by have := q.2.2.2.1; omega⟩
    clear q3
    go_wp2
    go_ret
    exact says_f HN.out B2.out
  refine (inBounds_any now x.tm (x.next - 1) _).mono ?_
  rintro e w9 ⟨rfl, hw9⟩
  subst hw9
  rw [decide_eq_true q3]
  have Hq3 : Hid (x.tm ≤ now ∧ now < x.next) := ⟨q3.1, by omega⟩
  clear q3 p3 p4 hwr
  have p0 : w2.cell? ⟨w.heap.size, 0, none⟩ = some (.slice a1 n1 c1) := (cell_of_row _ _ 0 _ 36 (0, 0) Y2.out).trans rfl
  have p6 : w2.cell? ⟨w.heap.size, 6, none⟩ = some (.bool x.ind) := (cell_of_row _ _ 6 _ 36 (0, 0) Y2.out).trans rfl
  have q0 : w2.cell? ⟨w.heap.size + 1, 0, none⟩ = some (.slice ai ni ci) := (cell_of_row _ _ 0 _ 33 (0, 0) N2.out).trans rfl
  rcases hind : x.ind with _ | _
  · rw [hind] at p6
    have HX : Hid (x.ind = false) := hind
    clear hind
    go_wp2_with fail
    refine (implSameName_any a1 n1 c1 x.parts ai ni ci is _ (HK.out.kept B2.out).nm (HI.out.kept B2.out) HZ.out.2.1 HZI.out).mono ?_
    rintro e w3 ⟨v3, rfl, hv3, hb3⟩
    have B3 : Hid (Below w.heap.size w w3) := B2.out.trans (hb3.mono B2.out.size)
    have HV : Hid (v3 = true ↔ spkP x is now) := ⟨fun e => ⟨HCA.out, HBE.out, Hq3.out.1, Hq3.out.2, .inr (hv3.out.1 e)⟩, fun q => hv3.out.2 (q.2.2.2.2.resolve_left (by rw [HX.out]; decide))⟩
    clear p0 p6 q0 hv3 hb3
    go_wp2
    go_ret
    exact ⟨v3, rfl, HV, B3.out⟩
  · rw [hind] at p6
    have HY : Hid (spkP x is now) := ⟨HCA.out, HBE.out, Hq3.out.1, Hq3.out.2, .inl hind⟩
    clear hind
    go_wp2
    go_ret
    exact says_t HY.out B2.out

set_option maxRecDepth 10000 in
set_option maxHeartbeats 1000000 in
theorem means_any (a1 : Option Addr) (n1 c1 : Nat) (a2 : Option Addr) (n2 c2 : Nat) (a3 : Option Addr) (n3 c3 : Nat) (x : CP) (an : Option Addr) (nn cn : Nat) (y : GP) (ai : Option Addr) (ni ci : Nat) (is : List PT) (ser : Int) (w : World) (h : Pts w an nn y.parts) (hz : ∀ k, k < nn → (y.parts.getD k default).val.size ≤ 1048576) (hi : Pts w ai ni is) (hzi : ∀ k, k < ni → (is.getD k default).val.size ≤ 1048576) :
    Calls Tryd.prog 61 #[crv a1 n1 c1 a2 n2 c2 a3 n3 c3 x, gov an nn cn y, nmv ai ni ci, .int .i64 ser] w (Says (mnsP x y is ser) w) := by
  have HK : Hid (Pts w an nn y.parts) := h
  have HZ : Hid (∀ k, k < nn → (y.parts.getD k default).val.size ≤ 1048576) := hz
  have HI : Hid (Pts w ai ni is) := hi
  have HZI : Hid (∀ k, k < ni → (is.getD k default).val.size ≤ 1048576) := hzi
  clear h hz hi hzi
  unfold crv nmv gov
  obtain ⟨w0, hw0⟩ : ∃ w0, w0 = ((w.alloc (.cells #[.slice a1 n1 c1, .int .i64 x.num, .int .i64 x.base, .int .i64 x.tm, .int .i64 x.next, .int .i64 x.scope, .bool x.ind, .slice a2 n2 c2, .slice a3 n3 c3] 36)).alloc (.cells #[.slice an nn cn, .int .i64 y.ser, .int .i64 y.tm, .int .i64 y.rs] 63)).alloc (.cells #[.slice ai ni ci] 33) := ⟨_, rfl⟩
  have B0 : Hid (Below w.heap.size w w0) := by show Below w.heap.size w w0; rw [hw0]; exact (two_below _ _ _).alloc (by simp; omega) _
  have b0 := two_blocks w (.cells #[.slice a1 n1 c1, .int .i64 x.num, .int .i64 x.base, .int .i64 x.tm, .int .i64 x.next, .int .i64 x.scope, .bool x.ind, .slice a2 n2 c2, .slice a3 n3 c3] 36) (.cells #[.slice an nn cn, .int .i64 y.ser, .int .i64 y.tm, .int .i64 y.rs] 63)
  have b1 := two_blocks (w.alloc (.cells #[.slice a1 n1 c1, .int .i64 x.num, .int .i64 x.base, .int .i64 x.tm, .int .i64 x.next, .int .i64 x.scope, .bool x.ind, .slice a2 n2 c2, .slice a3 n3 c3] 36)) (.cells #[.slice an nn cn, .int .i64 y.ser, .int .i64 y.tm, .int .i64 y.rs] 63) (.cells #[.slice ai ni ci] 33)
  have b2 : w0.heap[w.heap.size]? = some (.cells #[.slice a1 n1 c1, .int .i64 x.num, .int .i64 x.base, .int .i64 x.tm, .int .i64 x.next, .int .i64 x.scope, .bool x.ind, .slice a2 n2 c2, .slice a3 n3 c3] 36) := by rw [hw0]; exact (((Below.refl _ _).alloc (Nat.le_refl _) _).block _ (Array.getElem?_eq_some_iff.1 b0.1).1).trans b0.1
  rw [← hw0] at b1
  have hz1 : (w.alloc (.cells #[.slice a1 n1 c1, .int .i64 x.num, .int .i64 x.base, .int .i64 x.tm, .int .i64 x.next, .int .i64 x.scope, .bool x.ind, .slice a2 n2 c2, .slice a3 n3 c3] 36)).heap.size = w.heap.size + 1 := by simp
  rw [hz1] at b1
  have p6 : w0.cell? ⟨w.heap.size, 6, none⟩ = some (.bool x.ind) := (cell_of_row _ _ 6 _ 36 (0, 0) b2).trans rfl
  have p1 : w0.cell? ⟨w.heap.size + 1, 1, none⟩ = some (.int .i64 y.ser) := (cell_of_row _ _ 1 _ 63 (0, 0) b1.1).trans rfl
  have p0 : w0.cell? ⟨w.heap.size + 1, 0, none⟩ = some (.slice an nn cn) := (cell_of_row _ _ 0 _ 63 (0, 0) b1.1).trans rfl
  have q0 : w0.cell? ⟨w.heap.size + 1 + 1, 0, none⟩ = some (.slice ai ni ci) := (cell_of_row _ _ 0 _ 33 (0, 0) b1.2).trans rfl
  clear b0 b1 b2 hz1
  by_cases hs : y.ser = ser
  case neg =>
    have hne : (y.ser == ser) = false := by simp [hs]
    have HN : Hid (¬ mnsP x y is ser) := fun q => hs q.1
    clear hs
    go_enter Tryd.func61, Tryd.ntmps61
    go_upto_region 1 with fail
    rw [← hw0]
    clear hw0
    go_wp2
    go_ret
    exact says_f HN.out B0.out
  have hne : (y.ser == ser) = true := by simp [hs]
  have HS : Hid (y.ser = ser) := hs
  clear hs
  rcases hind : x.ind with _ | _
  · rw [hind] at p6 hw0
    have HY : Hid (mnsP x y is ser) := ⟨HS.out, .inl hind⟩
    clear hind
    go_enter Tryd.func61, Tryd.ntmps61
    go_upto_region 1 with fail
    rw [← hw0]
    clear hw0
    go_wp2
    go_ret
    exact says_t HY.out B0.out
  · rw [hind] at p6 hw0
    have HX : Hid (x.ind = true) := hind
    clear hind
    go_enter Tryd.func61, Tryd.ntmps61
    go_upto_region 1 with fail
    rw [← hw0]
    clear hw0
    go_wp2_with fail
    refine (implSameName_any an nn cn y.parts ai ni ci is _ (HK.out.kept B0.out) (HI.out.kept B0.out) HZ.out HZI.out).mono ?_
    rintro e w3 ⟨v3, rfl, hv3, hb3⟩
    have B3 : Hid (Below w.heap.size w w3) := B0.out.trans (hb3.mono B0.out.size)
    have HV : Hid (v3 = true ↔ mnsP x y is ser) := ⟨fun e => ⟨HS.out, .inr (hv3.out.1 e)⟩, fun q => hv3.out.2 (q.2.resolve_left (by rw [HX.out]; decide))⟩
    clear p0 p6 p1 q0 hv3 hb3
    go_wp2
    go_ret
    exact ⟨v3, rfl, HV, B3.out⟩

end Go.Proofs.YtbfjkmlmnhphoaaDoor
