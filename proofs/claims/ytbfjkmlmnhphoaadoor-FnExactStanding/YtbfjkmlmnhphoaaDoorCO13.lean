import Derived.Test.YtbfjkmlmnhphoaaDoorCO12
set_option linter.unusedVariables false
namespace Go.Proofs.YtbfjkmlmnhphoaaDoor
open Go.RowKit Go.Maps

variable {P : Program} {Q : Exit → Act → World → Prop}
theorem opw_len {o : Oper} {a : Act} {w : World} {K : Act → World → Prop} (x : Nat) (t e : TypeId) (ho : o.op = .call { callee := .builtin .len, args := #[.tmp x], argTypes := #[t] }) (ht : P.underlying t = some (.slice e)) (p : Option Addr) (n c : Nat) (hx : aT a x = .slice p n c) (h : K (a.put o.dst (.int .i64 n)) w) : o.wp P a w K Q := by
  refine opw_value _ ?_ h
  have hx' : a.eval (.tmp x) = .slice p n c := hx
  simp [execOp, ho, resolve, invoke, builtin, hx', Result.andThen]
  simp [go_sem, ht]
theorem opw_leqc {o : Oper} {a : Act} {w : World} {K : Act → World → Prop} (t t2 x : Nat) (q : Int) (ho : o.op = .binOp .leq t (.tmp x) (.const (.int .i64 q)) t2) (p : Int) (hx : aT a x = .int .i64 p) (h : K (a.put o.dst (.bool (decide (p ≤ q)))) w) : o.wp P a w K Q := by
  refine opw_value _ ?_ h
  have hx' : a.eval (.tmp x) = .int .i64 p := hx
  have hc : a.eval (.const (.int .i64 q)) = .int .i64 q := rfl
  unfold execOp
  simp only [ho, hx', hc]
  simp [go_sem]
theorem opw_makeFunc {o : Oper} {a : Act} {w : World} {K : Act → World → Prop} (f x : Nat) (ho : o.op = .makeFunc (Fn.func f) #[.tmp x] #[]) (v : Value) (hx : aT a x = v) (h : K (a.put o.dst (.func (Fn.func f) #[v] #[])) w) : o.wp P a w K Q := by
  refine opw_value _ ?_ h
  have hx' : a.eval (.tmp x) = v := hx
  unfold execOp
  simp [ho, hx', Instr.makeFunc]
theorem opw_maplen {H : Type} {o : Oper} {a : Act} {w : World} {K : Act → World → Prop} (x : Nat) (t k e : TypeId) (ho : o.op = .call { callee := .builtin .len, args := #[.tmp x], argTypes := #[t] }) (ht : P.underlying t = some (.map k e)) (R : Value → Option (DataW H × List MemPlace)) (b n : Nat) (D : DataW H) (hx : aT a x = .map (some b)) (hown : w.ownsMap P k R b n D) (h : K (a.put o.dst (.int .i64 (Maps.size D))) w) : o.wp P a w K Q := by
  have hx' : a.eval (.tmp x) = .map (some b) := hx
  unfold Oper.wp
  simp [execOp, ho, resolve, invoke, builtin, hx', hown.len ht o.type, Result.andThen]
  exact h

end Go.Proofs.YtbfjkmlmnhphoaaDoor
