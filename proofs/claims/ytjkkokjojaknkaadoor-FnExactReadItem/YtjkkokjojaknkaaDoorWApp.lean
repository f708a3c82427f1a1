import Derived.Test.YtjkkokjojaknkaaDoorBase
import Derived.Deep.RegionLaw
import Derived.Laws.AppendOwnNone
import Derived.Laws.CopyOwn
namespace Go.Proofs.YtjkkokjojaknkaaDoor
open Go.RowKit

theorem row_cells {w : World} {ad : Addr} {m : Nat} {ys : List Int} (h : Row w (some ad) m ys) : ∀ j u, (ys.map (Value.int .u8))[j]? = some u → w.cell? (ad.add j) = some u := by
  intro j u hj
  have hjl : j < ys.length := by
    have := (List.getElem?_eq_some_iff.1 hj).1
    simpa using this
  obtain ⟨b, off, ha, _, hc⟩ := h.get j (by rw [← h.len]; exact hjl)
  simp only [Option.some.injEq] at ha
  subst ha
  rw [Addr.add_lit, hc]
  simp [hjl] at hj
  simp [hjl, hj]

theorem row_none {w : World} {m : Nat} {ys : List Int} (h : Row w none m ys) : m = 0 ∧ ys = [] := by
  rcases Nat.eq_zero_or_pos m with h0 | h0
  · exact ⟨h0, List.eq_nil_of_length_eq_zero (by rw [h.len]; exact h0)⟩
  · obtain ⟨b, off, ha, _⟩ := h.get 0 h0
    simp at ha

/-- append(out, ys...): out our own, ys whatever is read, nil too. -/
theorem wpList_append_row {P : Program} (w : World) {ops : Array Oper} {rest : List Oper} {o : Oper} {a : Act} {Q : Exit → Act → World → Prop}
    (hg : o.guard = none) (s x : Operand) (t : TypeId) (hop : o.op = Op.call { callee := Callee.builtin Builtin.append, args := #[s, x], argTypes := #[t, t] })
    (base : Nat) (i : TypeInfo) (h1 : P.underlying t = some (.slice 5)) (h2 : P.info? 5 = some i) (h3 : i.zero = some (.int .u8 0)) (h4 : i.size = 1) (h5 : i.bytes = 1)
    (v : Value) (n : Nat) (xs : List Value) (hs : a.eval s = v) (hown : w.ownsRow base 5 1 v n xs)
    (ao : Option Addr) (m c : Nat) (ys : List Int) (hx : a.eval x = .slice ao m c) (hrow : Row w ao m ys) (hnil : ao = none → c = 0)
    (b1 : n + m ≤ 140737488355328) (b3 : base ≤ w.heap.size)
    (hK : ∀ v' w', w'.ownsRow base 5 1 v' (n + m) (xs ++ ys.map (Value.int .u8)) → w.grownBy w' v.ownBlock → wpList P ops Q rest (a.put o.dst v') w') :
    wpList P ops Q (o :: rest) a w := by
  cases ao with
  | some ad =>
    refine wpList_append_own w hg s x t hop base 5 i (.int .u8 0) 1 1 h1 h2 h3 h4 h5 rfl (by decide) v n xs hs hown ad m c (ys.map (Value.int .u8)) hx (by rw [List.length_map, hrow.len, Nat.mul_one]) (row_cells hrow) (ints_oneCell _ _) (by unfold maxLen; omega) (by omega) b3 ?_
    intro v' w' r1 r2 _
    exact hK v' w' r1 r2
  | none =>
    obtain ⟨rfl, rfl⟩ := row_none hrow
    obtain rfl := hnil rfl
    refine wpList_append_own_none hg s x t hop base 5 i 1 h1 h2 v n xs hs hown hx ?_
    exact hK v w (by simpa using hown) (World.grownBy.refl _ _)

end Go.Proofs.YtjkkokjojaknkaaDoor
