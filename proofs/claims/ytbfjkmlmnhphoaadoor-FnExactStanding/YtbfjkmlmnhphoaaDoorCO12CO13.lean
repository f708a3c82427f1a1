import Derived.Test.YtbfjkmlmnhphoaaDoorCO7
import Derived.Test.YtbfjkmlmnhphoaaDoorCO11
set_option linter.unusedVariables false
namespace Go.Proofs.YtbfjkmlmnhphoaaDoor
open Go.RowKit

set_option maxRecDepth 10000 in
set_option maxHeartbeats 4000000 in
theorem everyGone_any (rv : Value) (p : GP → Prop) (a : Option Addr) (n c : Nat) (xs : List GP) (w : World) (h : Gns w a n xs) (hz : ∀ k, k < n → GpOk (xs.getD k default))
    (hc : ∀ (W : World) (an : Option Addr) (nn cn : Nat) (y : GP), Pts W an nn y.parts → (∀ k, k < nn → (y.parts.getD k default).val.size ≤ 1048576) → Calls Tryd.prog 71 #[rv, gov an nn cn y] W (Says (p y) W)) :
    Calls Tryd.prog 70 #[.slice a n c, .func (Fn.func 71) #[rv] #[]] w (Says (∀ k, k < n → p (xs.getD k default)) w) := by
  have HK : Hid (Gns w a n xs) := h
  have HZ : Hid (∀ k, k < n → GpOk (xs.getD k default)) := hz
  have HC : Hid (_) := hc
  have hn := h.max
  clear h hz hc
  unfold gov at HC
  go_enter Tryd.func70, Tryd.ntmps70
  go_wp2
  go_loopw [9] (fun i wr => ∃ k : Nat, k ≤ n ∧ i = .int .i64 k ∧ Hid (∀ j, j < k → p (xs.getD j default)) ∧ Below w.heap.size w wr) (fun i _ => n - (intOf i).toNat)
  case atStart => exact ⟨0, Nat.zero_le _, rfl, fun k hk => absurd hk (Nat.not_lt_zero _), Below.refl _ _⟩
  case round =>
    obtain ⟨k, hk, rfl, HE, hbr⟩ := hrel
    have hws := hbr.size
    by_cases hlt : k < n
    · obtain ⟨b, off, an, nn, cn, rfl, hlb, hcc, hp⟩ := HK.out.get k hlt
      have HGZ : Hid (GpOk (xs.getD k default)) := HZ.out k hlt
      obtain ⟨y, hy⟩ : ∃ y, y = xs.getD k default := ⟨_, rfl⟩
      rw [← hy] at hcc hp HGZ
      have HY : Hid (y = xs.getD k default) := hy
      have HNN : Hid (y.parts.length = nn) := hp.len
      obtain ⟨c0, c1, c2, c3⟩ := hcc.of (w' := wr) (fun i => hbr.cell (p := ⟨b, i, none⟩) hlb)
      have hbz : Below wr.heap.size wr (wr.alloc (.cells #[.slice an nn cn, .int .i64 y.ser, .int .i64 y.tm, .int .i64 y.rs] 63)) := (Below.refl _ _).alloc (Nat.le_refl _) _
      have HPW : Hid (Pts (wr.alloc (.cells #[.slice an nn cn, .int .i64 y.ser, .int .i64 y.tm, .int .i64 y.rs] 63)) an nn y.parts) := hp.kept (hbr.trans (hbz.mono hws))
      clear hcc hy hp
      have hkni : (k : Int) < (n : Int) := by omega
      go_wp2_with fail
      refine (HC.out _ an nn cn y HPW.out (fun j hj => HGZ.out.2 j (by rw [HNN.out]; exact hj))).mono ?_
      rintro e w2 ⟨bb, rfl, hbi, hb2⟩
      have B2 : Below w.heap.size w w2 := hbr.trans ((hbz.trans (hb2.mono hbz.size)).mono hws)
      clear c0 c1 c2 c3
      have HV : Hid _ := hbi
      clear hbi
      cases bb with
      | true =>
        have HA : Hid (∀ j, j < k + 1 → p (xs.getD j default)) := fun j hj => by
          by_cases e : j < k
          · exact HE.out j e
          · obtain rfl : j = k := by omega
            rw [← HY.out]; exact HV.out.1 rfl
        go_wp2
        go_roundw
        case rel => exact ⟨k + 1, by omega, by go_num, HA.out, B2⟩
        case measure => simp [intOf]; omega
      | false =>
        have HN : Hid (¬ ∀ j, j < n → p (xs.getD j default)) := fun q => by have := HV.out.2 (by rw [HY.out]; exact q k hlt); cases this
        go_wp2
        go_ret
        exact says_f HN.out B2
    · have hkn' : k = n := by omega
      subst hkn'
      have hni : ¬ ((k : Int) < (k : Int)) := by omega
      go_wp2
      go_ret
      exact says_t HE.out hbr

end Go.Proofs.YtbfjkmlmnhphoaaDoor

set_option linter.unusedVariables false
namespace Go.Proofs.YtbfjkmlmnhphoaaDoor
open Go.RowKit Go.Maps

variable {P : Program} {Q : Exit → Act → World → Prop}
theorem opw_len {o : Oper} {a : Act} {w : World} {K : Act → World → Prop} (x : Nat) (t e : TypeId) (ho : o.op = .call { callee := .builtin .len, args := #[.tmp x], argTypes := #[t] }) (ht : P.underlying t = some (.slice e)) (p : Option Addr) (n c : Nat) (hx : aT a x = .slice p n c) (h : K (a.put o.dst (.int .i64 n)) w) : o.wp P a w K Q := by
  refine opw_value _ ?_ h
  have hx' : a.eval (.tmp x) = .slice p n c := hx
  simp [execOp, ho, resolve, invoke, builtin, hx', Result.andThen]
  simp [go_sem, ht]
theorem opw_leqc {o : Oper} {a : Act} {w : World} {K : Act → World → Prop} (t t2 x : Nat) (q : Int) (ho : o.op = .binOp .leq t (.tmp x) (.const (.int .i64 q)) t2) (p : Int) (hx : aT a x = .int .i64 p) (h : K (a.put o.dst (.bool (decide (p ≤ q)))) w) : o.wp P a w K Q := by
  refine opw_value _ ?_ h
  have hx' : a.eval (.tmp x) = .int .i64 p := hx
  have hc : a.eval (.const (.int .i64 q)) = .int .i64 q := rfl
  unfold execOp
  simp only [ho, hx', hc]
  simp [go_sem]
theorem opw_makeFunc {o : Oper} {a : Act} {w : World} {K : Act → World → Prop} (f x : Nat) (ho : o.op = .makeFunc (Fn.func f) #[.tmp x] #[]) (v : Value) (hx : aT a x = v) (h : K (a.put o.dst (.func (Fn.func f) #[v] #[])) w) : o.wp P a w K Q := by
  refine opw_value _ ?_ h
  have hx' : a.eval (.tmp x) = v := hx
  unfold execOp
  simp [ho, hx', Instr.makeFunc]
theorem opw_maplen {H : Type} {o : Oper} {a : Act} {w : World} {K : Act → World → Prop} (x : Nat) (t k e : TypeId) (ho : o.op = .call { callee := .builtin .len, args := #[.tmp x], argTypes := #[t] }) (ht : P.underlying t = some (.map k e)) (R : Value → Option (DataW H × List MemPlace)) (b n : Nat) (D : DataW H) (hx : aT a x = .map (some b)) (hown : w.ownsMap P k R b n D) (h : K (a.put o.dst (.int .i64 (Maps.size D))) w) : o.wp P a w K Q := by
  have hx' : a.eval (.tmp x) = .map (some b) := hx
  unfold Oper.wp
  simp [execOp, ho, resolve, invoke, builtin, hx', hown.len ht o.type, Result.andThen]
  exact h

end Go.Proofs.YtbfjkmlmnhphoaaDoor
