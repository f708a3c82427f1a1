import Derived.Test.YtbfjkmlmnhphoaaDoorCO6
import Derived.Test.YtbfjkmlmnhphoaaDoorGCO11CC8
set_option linter.unusedVariables false
namespace Go.Proofs.YtbfjkmlmnhphoaaDoor
open Go.RowKit

set_option maxRecDepth 10000 in
set_option maxHeartbeats 4000000 in
theorem entryOk_any (a1 : Option Addr) (n1 c1 : Nat) (a2 : Option Addr) (n2 c2 : Nat) (a3 : Option Addr) (n3 c3 : Nat) (x : CP) (an : Option Addr) (nn cn : Nat) (y : GP) (w : World) (h : Pts w an nn y.parts) (hz : ∀ k, k < nn → (y.parts.getD k default).val.size ≤ 1048576) (hb : -1 ≤ x.base) (hs0 : 2 ≤ x.scope) (hs1 : x.scope ≤ 126) (ht : timeP x.tm) :
    Calls Tryd.prog 71 #[crv a1 n1 c1 a2 n2 c2 a3 n3 c3 x, gov an nn cn y] w (Says (entP x y) w) := by
  have HRO : Hid (∀ W, Calls Tryd.prog 90 #[crv a1 n1 c1 a2 n2 c2 a3 n3 c3 x, .int .i64 y.rs] W (Says (reaP x y.rs) W)) := fun W => reasonOk_any a1 n1 c1 a2 n2 c2 a3 n3 c3 x y.rs W hb hs0 hs1
  have HNI : Hid (∀ W, Below w.heap.size w W → Calls Tryd.prog 91 #[crv a1 n1 c1 a2 n2 c2 a3 n3 c3 x, gov an nn cn y] W (Says ((x.ind = true → calledP y.parts) ∧ (x.ind = false → y.parts = [])) W)) := fun W hW => namesIssuer_any a1 n1 c1 a2 n2 c2 a3 n3 c3 x an nn cn y W (h.kept hW) hz
  have HT : Hid (timeP x.tm) := ht
  clear h hz hb hs0 hs1 ht
  unfold crv gov at HNI ⊢
  unfold crv at HRO
  obtain ⟨W0, hW0⟩ : ∃ W0, W0 = (w.alloc (.cells #[.slice a1 n1 c1, .int .i64 x.num, .int .i64 x.base, .int .i64 x.tm, .int .i64 x.next, .int .i64 x.scope, .bool x.ind, .slice a2 n2 c2, .slice a3 n3 c3] 36)).alloc (.cells #[.slice an nn cn, .int .i64 y.ser, .int .i64 y.tm, .int .i64 y.rs] 63) := ⟨_, rfl⟩
  have hB0 : Below w.heap.size w W0 := by rw [hW0]; exact two_below _ _ _
  have b0 := two_blocks w (.cells #[.slice a1 n1 c1, .int .i64 x.num, .int .i64 x.base, .int .i64 x.tm, .int .i64 x.next, .int .i64 x.scope, .bool x.ind, .slice a2 n2 c2, .slice a3 n3 c3] 36) (.cells #[.slice an nn cn, .int .i64 y.ser, .int .i64 y.tm, .int .i64 y.rs] 63)
  rw [← hW0] at b0
  have HY : Hid (W0.heap[w.heap.size]? = some (.cells #[.slice a1 n1 c1, .int .i64 x.num, .int .i64 x.base, .int .i64 x.tm, .int .i64 x.next, .int .i64 x.scope, .bool x.ind, .slice a2 n2 c2, .slice a3 n3 c3] 36) ∧ W0.heap[w.heap.size + 1]? = some (.cells #[.slice an nn cn, .int .i64 y.ser, .int .i64 y.tm, .int .i64 y.rs] 63)) := b0
  have p0 : W0.cell? ⟨w.heap.size, 0, none⟩ = some (.slice a1 n1 c1) := (cell_of_row _ _ 0 _ 36 (0, 0) HY.out.1).trans rfl
  have p1 : W0.cell? ⟨w.heap.size, 1, none⟩ = some (.int .i64 x.num) := (cell_of_row _ _ 1 _ 36 (0, 0) HY.out.1).trans rfl
  have p2 : W0.cell? ⟨w.heap.size, 2, none⟩ = some (.int .i64 x.base) := (cell_of_row _ _ 2 _ 36 (0, 0) HY.out.1).trans rfl
  have p3 : W0.cell? ⟨w.heap.size, 3, none⟩ = some (.int .i64 x.tm) := (cell_of_row _ _ 3 _ 36 (0, 0) HY.out.1).trans rfl
  have p4 : W0.cell? ⟨w.heap.size, 4, none⟩ = some (.int .i64 x.next) := (cell_of_row _ _ 4 _ 36 (0, 0) HY.out.1).trans rfl
  have p5 : W0.cell? ⟨w.heap.size, 5, none⟩ = some (.int .i64 x.scope) := (cell_of_row _ _ 5 _ 36 (0, 0) HY.out.1).trans rfl
  have p6 : W0.cell? ⟨w.heap.size, 6, none⟩ = some (.bool x.ind) := (cell_of_row _ _ 6 _ 36 (0, 0) HY.out.1).trans rfl
  have p7 : W0.cell? ⟨w.heap.size, 7, none⟩ = some (.slice a2 n2 c2) := (cell_of_row _ _ 7 _ 36 (0, 0) HY.out.1).trans rfl
  have p8 : W0.cell? ⟨w.heap.size, 8, none⟩ = some (.slice a3 n3 c3) := (cell_of_row _ _ 8 _ 36 (0, 0) HY.out.1).trans rfl
  have e0 : W0.cell? ⟨w.heap.size + 1, 0, none⟩ = some (.slice an nn cn) := (cell_of_row _ _ 0 _ 63 (0, 0) HY.out.2).trans rfl
  have e1 : W0.cell? ⟨w.heap.size + 1, 1, none⟩ = some (.int .i64 y.ser) := (cell_of_row _ _ 1 _ 63 (0, 0) HY.out.2).trans rfl
  have e2 : W0.cell? ⟨w.heap.size + 1, 2, none⟩ = some (.int .i64 y.tm) := (cell_of_row _ _ 2 _ 63 (0, 0) HY.out.2).trans rfl
  have e3 : W0.cell? ⟨w.heap.size + 1, 3, none⟩ = some (.int .i64 y.rs) := (cell_of_row _ _ 3 _ 63 (0, 0) HY.out.2).trans rfl
  have HW : Hid (_ = _) := hW0
  clear hW0 b0
  go_enter Tryd.func71, Tryd.ntmps71
  go_upto_region 1 with fail
  rw [← HW.out]
  clear HW
  go_wp2_with fail
  by_cases q1 : 1 ≤ y.ser ∧ y.ser ≤ 4611686018427387904
  case neg =>
    refine (inBounds_any y.ser 1 4611686018427387904 _).mono ?_
    rintro e w9 ⟨rfl, hw9⟩
    subst hw9
    rw [decide_eq_false q1]
    have HN : Hid (¬ entP x y) := fun q => q1 q.1
    clear q1
    go_wp2
    go_ret
    exact says_f HN.out hB0
  refine (inBounds_any y.ser 1 4611686018427387904 _).mono ?_
  rintro e w9 ⟨rfl, hw9⟩
  subst hw9
  rw [decide_eq_true q1]
  have Hq1 : Hid (1 ≤ y.ser ∧ y.ser ≤ 4611686018427387904) := q1
  clear q1
  go_wp2_with fail
  by_cases q2 : 0 ≤ y.tm ∧ y.tm ≤ x.tm
  case neg =>
    refine (inBounds_any y.tm 0 x.tm _).mono ?_
    rintro e w9 ⟨rfl, hw9⟩
    subst hw9
    rw [decide_eq_false q2]
    have HN : Hid (¬ entP x y) := fun q => q2 ⟨q.2.1.1, q.2.2.1⟩
    clear q2
    go_wp2
    go_ret
    exact says_f HN.out hB0
  refine (inBounds_any y.tm 0 x.tm _).mono ?_
  rintro e w9 ⟨rfl, hw9⟩
  subst hw9
  rw [decide_eq_true q2]
  have Hq2 : Hid (0 ≤ y.tm ∧ y.tm ≤ x.tm) := q2
  clear q2
  go_wp2_with fail
  refine (HRO.out _).mono ?_
  rintro e w1 ⟨v1, rfl, hv1, hb1⟩
  have hB1 : Below w.heap.size w w1 := hB0.trans (hb1.mono hB0.size)
  have y1 : w1.heap[w.heap.size]? = some (.cells #[.slice a1 n1 c1, .int .i64 x.num, .int .i64 x.base, .int .i64 x.tm, .int .i64 x.next, .int .i64 x.scope, .bool x.ind, .slice a2 n2 c2, .slice a3 n3 c3] 36) := (hb1.block _ (Array.getElem?_eq_some_iff.1 HY.out.1).1).trans HY.out.1
  have y2 : w1.heap[w.heap.size + 1]? = some (.cells #[.slice an nn cn, .int .i64 y.ser, .int .i64 y.tm, .int .i64 y.rs] 63) := (hb1.block _ (Array.getElem?_eq_some_iff.1 HY.out.2).1).trans HY.out.2
  clear p0 p1 p2 p3 p4 p5 p6 p7 p8 e0 e1 e2 e3
  have p0 : w1.cell? ⟨w.heap.size, 0, none⟩ = some (.slice a1 n1 c1) := (cell_of_row _ _ 0 _ 36 (0, 0) y1).trans rfl
  have p1 : w1.cell? ⟨w.heap.size, 1, none⟩ = some (.int .i64 x.num) := (cell_of_row _ _ 1 _ 36 (0, 0) y1).trans rfl
  have p2 : w1.cell? ⟨w.heap.size, 2, none⟩ = some (.int .i64 x.base) := (cell_of_row _ _ 2 _ 36 (0, 0) y1).trans rfl
  have p3 : w1.cell? ⟨w.heap.size, 3, none⟩ = some (.int .i64 x.tm) := (cell_of_row _ _ 3 _ 36 (0, 0) y1).trans rfl
  have p4 : w1.cell? ⟨w.heap.size, 4, none⟩ = some (.int .i64 x.next) := (cell_of_row _ _ 4 _ 36 (0, 0) y1).trans rfl
  have p5 : w1.cell? ⟨w.heap.size, 5, none⟩ = some (.int .i64 x.scope) := (cell_of_row _ _ 5 _ 36 (0, 0) y1).trans rfl
  have p6 : w1.cell? ⟨w.heap.size, 6, none⟩ = some (.bool x.ind) := (cell_of_row _ _ 6 _ 36 (0, 0) y1).trans rfl
  have p7 : w1.cell? ⟨w.heap.size, 7, none⟩ = some (.slice a2 n2 c2) := (cell_of_row _ _ 7 _ 36 (0, 0) y1).trans rfl
  have p8 : w1.cell? ⟨w.heap.size, 8, none⟩ = some (.slice a3 n3 c3) := (cell_of_row _ _ 8 _ 36 (0, 0) y1).trans rfl
  have e0 : w1.cell? ⟨w.heap.size + 1, 0, none⟩ = some (.slice an nn cn) := (cell_of_row _ _ 0 _ 63 (0, 0) y2).trans rfl
  have e1 : w1.cell? ⟨w.heap.size + 1, 1, none⟩ = some (.int .i64 y.ser) := (cell_of_row _ _ 1 _ 63 (0, 0) y2).trans rfl
  have e2 : w1.cell? ⟨w.heap.size + 1, 2, none⟩ = some (.int .i64 y.tm) := (cell_of_row _ _ 2 _ 63 (0, 0) y2).trans rfl
  have e3 : w1.cell? ⟨w.heap.size + 1, 3, none⟩ = some (.int .i64 y.rs) := (cell_of_row _ _ 3 _ 63 (0, 0) y2).trans rfl
  have HV1 : Hid _ := hv1
  clear hv1 hb1 y1 y2
  rcases v1 with _ | _
  · have HN : Hid (¬ entP x y) := fun q => by have := HV1.out.2 q.2.2.2.2.2; simp at this
    go_wp2
    go_ret
    exact says_f HN.out hB1
  go_wp2_with fail
  refine (HNI.out _ hB1).mono ?_
  rintro e w2 ⟨v2, rfl, hv2, hb2⟩
  have HV2 : Hid _ := hv2
  have hB2 : Below w.heap.size w w2 := hB1.trans (hb2.mono hB1.size)
  clear p0 p1 p2 p3 p4 p5 p6 p7 p8 e0 e1 e2 e3 hv2 hb2
  go_wp2
  go_ret
  exact ⟨v2, rfl, ⟨fun q => ⟨Hq1.out, ⟨Hq2.out.1, Int.le_trans Hq2.out.2 HT.out.2⟩, Hq2.out.2, (HV2.out.1 q).1, (HV2.out.1 q).2, HV1.out.1 (by simp)⟩, fun q => HV2.out.2 ⟨q.2.2.2.1, q.2.2.2.2.1⟩⟩, hB2⟩

end Go.Proofs.YtbfjkmlmnhphoaaDoor

set_option linter.unusedVariables false
namespace Go.Proofs.YtbfjkmlmnhphoaaDoor
open Go.RowKit

set_option maxRecDepth 10000 in
set_option maxHeartbeats 4000000 in
theorem everyGone_any (rv : Value) (p : GP → Prop) (a : Option Addr) (n c : Nat) (xs : List GP) (w : World) (h : Gns w a n xs) (hz : ∀ k, k < n → GpOk (xs.getD k default))
    (hc : ∀ (W : World) (an : Option Addr) (nn cn : Nat) (y : GP), Pts W an nn y.parts → (∀ k, k < nn → (y.parts.getD k default).val.size ≤ 1048576) → Calls Tryd.prog 71 #[rv, gov an nn cn y] W (Says (p y) W)) :
    Calls Tryd.prog 70 #[.slice a n c, .func (Fn.func 71) #[rv] #[]] w (Says (∀ k, k < n → p (xs.getD k default)) w) := by
  have HK : Hid (Gns w a n xs) := h
  have HZ : Hid (∀ k, k < n → GpOk (xs.getD k default)) := hz
  have HC : Hid (_) := hc
  have hn := h.max
  clear h hz hc
  unfold gov at HC
  go_enter Tryd.func70, Tryd.ntmps70
  go_wp2
  go_loopw [9] (fun i wr => ∃ k : Nat, k ≤ n ∧ i = .int .i64 k ∧ Hid (∀ j, j < k → p (xs.getD j default)) ∧ Below w.heap.size w wr) (fun i _ => n - (intOf i).toNat)
  case atStart => exact ⟨0, Nat.zero_le _, rfl, fun k hk => absurd hk (Nat.not_lt_zero _), Below.refl _ _⟩
  case round =>
    obtain ⟨k, hk, rfl, HE, hbr⟩ := hrel
    have hws := hbr.size
    by_cases hlt : k < n
    · obtain ⟨b, off, an, nn, cn, rfl, hlb, hcc, hp⟩ := HK.out.get k hlt
      have HGZ : Hid (GpOk (xs.getD k default)) := HZ.out k hlt
      obtain ⟨y, hy⟩ : ∃ y, y = xs.getD k default := ⟨_, rfl⟩
      rw [← hy] at hcc hp HGZ
      have HY : Hid (y = xs.getD k default) := hy
      have HNN : Hid (y.parts.length = nn) := hp.len
      obtain ⟨c0, c1, c2, c3⟩ := hcc.of (w' := wr) (fun i => hbr.cell (p := ⟨b, i, none⟩) hlb)
      have hbz : Below wr.heap.size wr (wr.alloc (.cells #[.slice an nn cn, .int .i64 y.ser, .int .i64 y.tm, .int .i64 y.rs] 63)) := (Below.refl _ _).alloc (Nat.le_refl _) _
      have HPW : Hid (Pts (wr.alloc (.cells #[.slice an nn cn, .int .i64 y.ser, .int .i64 y.tm, .int .i64 y.rs] 63)) an nn y.parts) := hp.kept (hbr.trans (hbz.mono hws))
      clear hcc hy hp
      have hkni : (k : Int) < (n : Int) := by omega
      go_wp2_with fail
      refine (HC.out _ an nn cn y HPW.out (fun j hj => HGZ.out.2 j (by rw [HNN.out]; exact hj))).mono ?_
      rintro e w2 ⟨bb, rfl, hbi, hb2⟩
      have B2 : Below w.heap.size w w2 := hbr.trans ((hbz.trans (hb2.mono hbz.size)).mono hws)
      clear c0 c1 c2 c3
      have HV : Hid _ := hbi
      clear hbi
      cases bb with
      | true =>
        have HA : Hid (∀ j, j < k + 1 → p (xs.getD j default)) := fun j hj => by
          by_cases e : j < k
          · exact HE.out j e
          · obtain rfl : j = k := by omega
            rw [← HY.out]; exact HV.out.1 rfl
        go_wp2
        go_roundw
        case rel => exact ⟨k + 1, by omega, by go_num, HA.out, B2⟩
        case measure => simp [intOf]; omega
      | false =>
        have HN : Hid (¬ ∀ j, j < n → p (xs.getD j default)) := fun q => by have := HV.out.2 (by rw [HY.out]; exact q k hlt); cases this
        go_wp2
        go_ret
        exact says_f HN.out B2
    · have hkn' : k = n := by omega
      subst hkn'
      have hni : ¬ ((k : Int) < (k : Int)) := by omega
      go_wp2
      go_ret
      exact says_t HE.out hbr

end Go.Proofs.YtbfjkmlmnhphoaaDoor

set_option linter.unusedVariables false
namespace Go.Proofs.YtbfjkmlmnhphoaaDoor
open Go.RowKit Go.Maps

variable {P : Program} {Q : Exit → Act → World → Prop}
theorem opw_len {o : Oper} {a : Act} {w : World} {K : Act → World → Prop} (x : Nat) (t e : TypeId) (ho : o.op = .call { callee := .builtin .len, args := #[.tmp x], argTypes := #[t] }) (ht : P.underlying t = some (.slice e)) (p : Option Addr) (n c : Nat) (hx : aT a x = .slice p n c) (h : K (a.put o.dst (.int .i64 n)) w) : o.wp P a w K Q := by
  refine opw_value _ ?_ h
  have hx' : a.eval (.tmp x) = .slice p n c := hx
  simp [execOp, ho, resolve, invoke, builtin, hx', Result.andThen]
  simp [go_sem, ht]
theorem opw_leqc {o : Oper} {a : Act} {w : World} {K : Act → World → Prop} (t t2 x : Nat) (q : Int) (ho : o.op = .binOp .leq t (.tmp x) (.const (.int .i64 q)) t2) (p : Int) (hx : aT a x = .int .i64 p) (h : K (a.put o.dst (.bool (decide (p ≤ q)))) w) : o.wp P a w K Q := by
  refine opw_value _ ?_ h
  have hx' : a.eval (.tmp x) = .int .i64 p := hx
  have hc : a.eval (.const (.int .i64 q)) = .int .i64 q := rfl
  unfold execOp
  simp only [ho, hx', hc]
  simp [go_sem]
theorem opw_makeFunc {o : Oper} {a : Act} {w : World} {K : Act → World → Prop} (f x : Nat) (ho : o.op = .makeFunc (Fn.func f) #[.tmp x] #[]) (v : Value) (hx : aT a x = v) (h : K (a.put o.dst (.func (Fn.func f) #[v] #[])) w) : o.wp P a w K Q := by
  refine opw_value _ ?_ h
  have hx' : a.eval (.tmp x) = v := hx
  unfold execOp
  simp [ho, hx', Instr.makeFunc]
theorem opw_maplen {H : Type} {o : Oper} {a : Act} {w : World} {K : Act → World → Prop} (x : Nat) (t k e : TypeId) (ho : o.op = .call { callee := .builtin .len, args := #[.tmp x], argTypes := #[t] }) (ht : P.underlying t = some (.map k e)) (R : Value → Option (DataW H × List MemPlace)) (b n : Nat) (D : DataW H) (hx : aT a x = .map (some b)) (hown : w.ownsMap P k R b n D) (h : K (a.put o.dst (.int .i64 (Maps.size D))) w) : o.wp P a w K Q := by
  have hx' : a.eval (.tmp x) = .map (some b) := hx
  unfold Oper.wp
  simp [execOp, ho, resolve, invoke, builtin, hx', hown.len ht o.type, Result.andThen]
  exact h

end Go.Proofs.YtbfjkmlmnhphoaaDoor
