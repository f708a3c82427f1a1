import Derived.Test.YtbfjkmlmnhphoaaDoorCO1
import Derived.Test.YtbfjkmlmnhphoaaDoorAQ2
import Derived.Test.YtbfjkmlmnhphoaaDoorST00
set_option linter.unusedVariables false
namespace Go.Proofs.YtbfjkmlmnhphoaaDoor
open Go.RowKit
open Classical

/-- The list speaks of that issuer at that time. -/
def spkP (x : CP) (is : List PT) (now : Int) : Prop := crlP x ∧ x.base < 0 ∧ x.tm ≤ now ∧ now < x.next ∧ (x.ind = true ∨ sameP x.parts is)
/-- The list's entry means that serial of that issuer. -/
def mnsP (x : CP) (g : GP) (is : List PT) (ser : Int) : Prop := g.ser = ser ∧ (x.ind = false ∨ sameP g.parts is)
/-- What the first k entries of a list tell. -/
noncomputable def toldE (x : CP) (is : List PT) (ser : Int) : Nat → List (Int × Int)
  | 0 => []
  | k + 1 => toldE x is ser k ++ (if mnsP x (x.ents.getD k default) is ser then [((x.ents.getD k default).rs, (x.ents.getD k default).tm)] else [])
/-- What the first k lists tell. -/
noncomputable def toldL (xs : List CP) (is : List PT) (ser now : Int) : Nat → List (Int × Int)
  | 0 => []
  | k + 1 => toldL xs is ser now k ++ (if spkP (xs.getD k default) is now then toldE (xs.getD k default) is ser (xs.getD k default).ents.length else [])
/-- The reasons that the first k lists are for. -/
noncomputable def scpL (xs : List CP) (is : List PT) (now : Int) : Nat → Int
  | 0 => 0
  | k + 1 => if spkP (xs.getD k default) is now then bits BinOp.or IntKind.i64 (scpL xs is now k) (xs.getD k default).scope else scpL xs is now k
/-- A stand, as a value. -/
def stv3 (s : Int × Int × Int) : Value := .agg #[.int .i64 s.1, .int .i64 s.2.1, .int .i64 s.2.2]
/-- What Standing tells. -/
noncomputable def stdV (xs : List CP) (is : List PT) (ser now : Int) : Int × Int × Int :=
  if ¬ (calledP is ∧ xs.length ≤ 20) then (2, 0, 0) else
    match best (toldL xs is ser now xs.length) with
    | some b => (1, b.1, b.2)
    | none => if scpL xs is now xs.length = 126 then (0, 0, 0) else (2, 0, 0)
/-- What is known so far, as three numbers. -/
def bsV : Option (Int × Int) → Int × Int × Int
  | none => (2, 0, 0)
  | some b => (1, b.1, b.2)
theorem toldE_skip {x : CP} {is : List PT} {ser : Int} {k : Nat} (h : ¬ mnsP x (x.ents.getD k default) is ser) : toldE x is ser (k + 1) = toldE x is ser k := by rw [toldE, if_neg h, List.append_nil]
theorem toldE_take {x : CP} {is : List PT} {ser : Int} {k : Nat} (h : mnsP x (x.ents.getD k default) is ser) : toldE x is ser (k + 1) = toldE x is ser k ++ [((x.ents.getD k default).rs, (x.ents.getD k default).tm)] := by rw [toldE, if_pos h]
theorem toldL_skip {xs : List CP} {is : List PT} {ser now : Int} {k : Nat} (h : ¬ spkP (xs.getD k default) is now) : toldL xs is ser now (k + 1) = toldL xs is ser now k := by rw [toldL, if_neg h, List.append_nil]
theorem toldL_take {xs : List CP} {is : List PT} {ser now : Int} {k : Nat} (h : spkP (xs.getD k default) is now) : toldL xs is ser now (k + 1) = toldL xs is ser now k ++ toldE (xs.getD k default) is ser (xs.getD k default).ents.length := by rw [toldL, if_pos h]
theorem scpL_skip {xs : List CP} {is : List PT} {now : Int} {k : Nat} (h : ¬ spkP (xs.getD k default) is now) : scpL xs is now (k + 1) = scpL xs is now k := by rw [scpL, if_neg h]
theorem scpL_take {xs : List CP} {is : List PT} {now : Int} {k : Nat} (h : spkP (xs.getD k default) is now) : scpL xs is now (k + 1) = bits BinOp.or IntKind.i64 (scpL xs is now k) (xs.getD k default).scope := by rw [scpL, if_pos h]
/-- A box that holds a stand. -/
def stC (s : Int × Int × Int) : Obj := .cells #[.int .i64 s.1, .int .i64 s.2.1, .int .i64 s.2.2] 48 (0, 0)
theorem stdV_no {xs : List CP} {is : List PT} {ser now : Int} (h : ¬ (calledP is ∧ xs.length ≤ 20)) : stdV xs is ser now = (2, 0, 0) := by unfold stdV; rw [if_pos h]
theorem stdV_some {xs : List CP} {is : List PT} {ser now : Int} {b : Int × Int} (h : calledP is ∧ xs.length ≤ 20) (e : best (toldL xs is ser now xs.length) = some b) : stdV xs is ser now = (1, b.1, b.2) := by unfold stdV; rw [if_neg (fun q => q h), e]
theorem stdV_none {xs : List CP} {is : List PT} {ser now : Int} (h : calledP is ∧ xs.length ≤ 20) (e : best (toldL xs is ser now xs.length) = none) : stdV xs is ser now = if scpL xs is now xs.length = 126 then (0, 0, 0) else (2, 0, 0) := by unfold stdV; rw [if_neg (fun q => q h), e]

end Go.Proofs.YtbfjkmlmnhphoaaDoor
