import Derived.Test.YtbfjkmlmnhphoaaDoorGCO15CC9
set_option linter.unusedVariables false
namespace Go.Proofs.YtbfjkmlmnhphoaaDoor
open Go.RowKit

set_option maxRecDepth 10000 in
set_option maxHeartbeats 1000000 in
theorem implCrlOk_any (a1 : Option Addr) (n1 c1 : Nat) (a2 : Option Addr) (n2 c2 : Nat) (a3 : Option Addr) (n3 c3 : Nat) (x : CP) (w : World) (htab : Lib.TabIs Tryd.prog w "internal/strconv.uint64pow10" .u64 Lib.pow10Tab) (h : Crs w a1 n1 a2 n2 a3 n3 x) (hz : CpOk n1 n2 n3 x) (hsc : -9223372036854775808 ≤ x.scope ∧ x.scope ≤ 9223372036854775807) :
    Calls Tryd.prog 10 #[crv a1 n1 c1 a2 n2 c2 a3 n3 c3 x] w (Says (crlP x) w) := by
  have HK : Hid (Crs w a1 n1 a2 n2 a3 n3 x) := h
  have HZ : Hid (CpOk n1 n2 n3 x) := hz
  have HLE : Hid (x.ents.length = n2) := h.en.len
  have HLS : Hid (x.sig.length = n3) := h.sg.len
  have hEO : ∀ W, Below w.heap.size w W → -1 ≤ x.base → 2 ≤ x.scope → x.scope ≤ 126 → timeP x.tm → Calls Tryd.prog 39 #[crv a1 n1 c1 a2 n2 c2 a3 n3 c3 x] W (Says (n2 ≤ 60 ∧ (∀ k, k < n2 → entP x (x.ents.getD k default)) ∧ Maps.size (Sn x.ents n2) = n2) W) := fun W hW z1 z2 z3 z4 => entriesOk_any a1 n1 c1 a2 n2 c2 a3 n3 c3 x W (Lib.tabBelow_of_tabIs htab W hW) (h.en.kept hW) hz.2.2.2.1 z1 z2 z3 z4
  have HEO : Hid (∀ W, Below w.heap.size w W → -1 ≤ x.base → 2 ≤ x.scope → x.scope ≤ 126 → timeP x.tm → Calls Tryd.prog 39 #[.agg #[.slice a1 n1 c1, .int .i64 x.num, .int .i64 x.base, .int .i64 x.tm, .int .i64 x.next, .int .i64 x.scope, .bool x.ind, .slice a2 n2 c2, .slice a3 n3 c3]] W (Says (n2 ≤ 60 ∧ (∀ k, k < n2 → entP x (x.ents.getD k default)) ∧ Maps.size (Sn x.ents n2) = n2) W)) := hEO
  clear h hz htab hEO
  unfold crv
  obtain ⟨w0, hw0⟩ : ∃ w0, w0 = w.alloc (.cells #[.slice a1 n1 c1, .int .i64 x.num, .int .i64 x.base, .int .i64 x.tm, .int .i64 x.next, .int .i64 x.scope, .bool x.ind, .slice a2 n2 c2, .slice a3 n3 c3] 36) := ⟨_, rfl⟩
  have B0 : Hid (Below w.heap.size w w0) := by show Below w.heap.size w w0; rw [hw0]; exact (Below.refl _ _).alloc (Nat.le_refl _) _
  have hh0 : w0.heap[w.heap.size]? = some (.cells #[.slice a1 n1 c1, .int .i64 x.num, .int .i64 x.base, .int .i64 x.tm, .int .i64 x.next, .int .i64 x.scope, .bool x.ind, .slice a2 n2 c2, .slice a3 n3 c3] 36) := by rw [hw0]; exact heap_alloc_new w _
  have Y0 : Hid (w0.heap[w.heap.size]? = some (.cells #[.slice a1 n1 c1, .int .i64 x.num, .int .i64 x.base, .int .i64 x.tm, .int .i64 x.next, .int .i64 x.scope, .bool x.ind, .slice a2 n2 c2, .slice a3 n3 c3] 36)) := hh0
  have l0 : w.heap.size < w0.heap.size := (Array.getElem?_eq_some_iff.1 hh0).1
  have p0 : w0.cell? ⟨w.heap.size, 0, none⟩ = some (.slice a1 n1 c1) := (cell_of_row _ _ 0 _ 36 (0, 0) hh0).trans rfl
  clear hh0
  go_enter Tryd.func10, Tryd.ntmps10
  go_upto_region 1 with fail
  rw [← hw0]
  clear hw0
  go_wp2_with fail
  refine (someName_any a1 n1 c1 x.parts _ (HK.out.kept B0.out).nm HZ.out.2.1).mono ?_
  rintro e w1 ⟨v1, rfl, hv1, hb1⟩
  have B1 : Hid (Below w.heap.size w w1) := B0.out.trans (hb1.mono B0.out.size)
  have y0 : w1.heap[w.heap.size]? = some (.cells #[.slice a1 n1 c1, .int .i64 x.num, .int .i64 x.base, .int .i64 x.tm, .int .i64 x.next, .int .i64 x.scope, .bool x.ind, .slice a2 n2 c2, .slice a3 n3 c3] 36) := (hb1.block _ l0).trans Y0.out
  clear p0
  have p0 : w1.cell? ⟨w.heap.size, 0, none⟩ = some (.slice a1 n1 c1) := (cell_of_row _ _ 0 _ 36 (0, 0) y0).trans rfl
  have p1 : w1.cell? ⟨w.heap.size, 1, none⟩ = some (.int .i64 x.num) := (cell_of_row _ _ 1 _ 36 (0, 0) y0).trans rfl
  have p2 : w1.cell? ⟨w.heap.size, 2, none⟩ = some (.int .i64 x.base) := (cell_of_row _ _ 2 _ 36 (0, 0) y0).trans rfl
  have p3 : w1.cell? ⟨w.heap.size, 3, none⟩ = some (.int .i64 x.tm) := (cell_of_row _ _ 3 _ 36 (0, 0) y0).trans rfl
  have p4 : w1.cell? ⟨w.heap.size, 4, none⟩ = some (.int .i64 x.next) := (cell_of_row _ _ 4 _ 36 (0, 0) y0).trans rfl
  have p5 : w1.cell? ⟨w.heap.size, 5, none⟩ = some (.int .i64 x.scope) := (cell_of_row _ _ 5 _ 36 (0, 0) y0).trans rfl
  have p6 : w1.cell? ⟨w.heap.size, 6, none⟩ = some (.bool x.ind) := (cell_of_row _ _ 6 _ 36 (0, 0) y0).trans rfl
  have p7 : w1.cell? ⟨w.heap.size, 7, none⟩ = some (.slice a2 n2 c2) := (cell_of_row _ _ 7 _ 36 (0, 0) y0).trans rfl
  have p8 : w1.cell? ⟨w.heap.size, 8, none⟩ = some (.slice a3 n3 c3) := (cell_of_row _ _ 8 _ 36 (0, 0) y0).trans rfl
  clear hb1 y0 B0 Y0 l0
  have HV1 : Hid _ := hv1
  clear hv1
  rcases v1 with _ | _
  · have HN : Hid (¬ crlP x) := fun q => by have := HV1.out.2 q.1.1; simp at this
    go_wp2
    go_ret
    exact says_f HN.out B1.out
  have HCA : Hid (calledP x.parts) := HV1.out.1 rfl
  clear HV1
  go_wp2_with fail
  by_cases q2 : 0 ≤ x.num ∧ x.num ≤ 1099511627776
  case neg =>
    refine (inBounds_any x.num 0 1099511627776 _).mono ?_
    rintro e w9 ⟨rfl, hw9⟩
    subst hw9
    rw [decide_eq_false q2]
    have HN : Hid (¬ crlP x) := fun q => q2 q.1.2.1
    clear q2
    go_wp2
    go_ret
    exact says_f HN.out B1.out
  refine (inBounds_any x.num 0 1099511627776 _).mono ?_
  rintro e w9 ⟨rfl, hw9⟩
  subst hw9
  rw [decide_eq_true q2]
  have Hq2 : Hid (0 ≤ x.num ∧ x.num ≤ 1099511627776) := q2
  clear q2
  have hwr : IntKind.i64.wrap (x.num - 1) = x.num - 1 := wrap_i64 _ (by have := Hq2.out.1; omega) (by have := Hq2.out.2; omega)
  go_wp2_with fail
  by_cases q3 : -1 ≤ x.base ∧ x.base ≤ x.num - 1
  case neg =>
    refine (inBounds_any x.base (-1) (x.num - 1) _).mono ?_
    rintro e w9 ⟨rfl, hw9⟩
    subst hw9
    rw [decide_eq_false q3]
    have HN : Hid (¬ crlP x) := fun q => q3 q.1.2.2.1
    clear q3
    go_wp2
    go_ret
    exact says_f HN.out B1.out
  refine (inBounds_any x.base (-1) (x.num - 1) _).mono ?_
  rintro e w9 ⟨rfl, hw9⟩
  subst hw9
  rw [decide_eq_true q3]
  have Hq3 : Hid (-1 ≤ x.base ∧ x.base ≤ x.num - 1) := q3
  clear q3
  go_wp2_with fail
  by_cases q4 : (0 ≤ x.tm ∧ x.tm ≤ 253402300799) ∧ (0 ≤ x.next ∧ x.next ≤ 253402300799) ∧ x.tm ≤ x.next
  case neg =>
    refine (spanOk_any x.tm x.next _).mono ?_
    rintro e w9 ⟨rfl, hw9⟩
    subst hw9
    rw [decide_eq_false q4]
    have HN : Hid (¬ crlP x) := fun q => q4 ⟨q.1.2.2.2.1, q.1.2.2.2.2.1, q.1.2.2.2.2.2.1⟩
    clear q4
    go_wp2
    go_ret
    exact says_f HN.out B1.out
  refine (spanOk_any x.tm x.next _).mono ?_
  rintro e w9 ⟨rfl, hw9⟩
  subst hw9
  rw [decide_eq_true q4]
  have Hq4 : Hid ((0 ≤ x.tm ∧ x.tm ≤ 253402300799) ∧ (0 ≤ x.next ∧ x.next ≤ 253402300799) ∧ x.tm ≤ x.next) := q4
  clear q4
  go_wp2_with fail
  by_cases q5 : 2 ≤ x.scope ∧ x.scope ≤ 126 ∧ x.scope % 2 = 0
  case neg =>
    refine (scopeOk_any x.scope _ hsc.1 hsc.2).mono ?_
    rintro e w9 ⟨rfl, hw9⟩
    subst hw9
    rw [decide_eq_false q5]
    have HN : Hid (¬ crlP x) := fun q => q5 q.1.2.2.2.2.2.2.1
    clear q5
    go_wp2
    go_ret
    exact says_f HN.out B1.out
  refine (scopeOk_any x.scope _ hsc.1 hsc.2).mono ?_
  rintro e w9 ⟨rfl, hw9⟩
  subst hw9
  rw [decide_eq_true q5]
  have Hq5 : Hid (2 ≤ x.scope ∧ x.scope ≤ 126 ∧ x.scope % 2 = 0) := q5
  clear q5
  by_cases c6 : (n3 : Int) ≤ 500
  case neg =>
    have HN : Hid (¬ crlP x) := fun q => by have := q.1.2.2.2.2.2.2.2.2; rw [HLS.out] at this; omega
    go_wp2
    go_ret
    exact says_f HN.out B1.out
  go_wp2_with fail
  refine (HEO.out _ B1.out Hq3.out.1 Hq5.out.1 Hq5.out.2.1 Hq4.out.1).mono ?_
  rintro e w2 ⟨v2, rfl, hv2, hb2⟩
  have HV2 : Hid _ := hv2
  have HC6 : Hid ((n3 : Int) ≤ 500) := c6
  have B2 : Hid (Below w.heap.size w w2) := B1.out.trans (hb2.mono B1.out.size)
  clear p0 p1 p2 p3 p4 p5 p6 p7 p8 hv2 hb2 c6
  have HIF : Hid (v2 = true ↔ crlP x) := by
    show _ ↔ _
    constructor
    · intro q
      have r := HV2.out.1 q
      refine ⟨⟨HCA.out, Hq2.out, Hq3.out, Hq4.out.1, Hq4.out.2.1, Hq4.out.2.2, Hq5.out, by rw [HLE.out]; exact r.1, by rw [HLS.out]; have := HC6.out; omega⟩, by rw [HLE.out]; exact r.2.1, fun i k hi hk => ?_⟩
      exact (Sn_size x x.ents n2 HLE.out r.2.1).1 r.2.2 i k (by rw [← HLE.out]; exact hi) hk
    · intro q
      refine HV2.out.2 ⟨by rw [← HLE.out]; exact q.1.2.2.2.2.2.2.2.1, by rw [← HLE.out]; exact q.2.1, ?_⟩
      exact (Sn_size x x.ents n2 HLE.out (by rw [← HLE.out]; exact q.2.1)).2 (fun i k hi hk => q.2.2 i k (by rw [HLE.out]; exact hi) hk)
  go_wp2
  go_ret
  exact ⟨v2, rfl, HIF.out, B2.out⟩

end Go.Proofs.YtbfjkmlmnhphoaaDoor
