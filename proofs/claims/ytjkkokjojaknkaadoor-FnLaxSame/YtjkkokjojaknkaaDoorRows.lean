/-
  NARROWER THAN 'FOR EVERY INPUT', by the rows' own cells (each row's printed sentence says how): FnItemBack: laid · FnLaxSame: laid · FnOneForm: laid · FnExactReadItem: laid · FnExactCanon: laid.
  DERIVED. THE GIVEN ROWS OF THIS SEAT. 5 by the template 'for every input the law returns true; each argument reads behind the call as it read before'; 0 by the template 'total and deterministic' (their statements: YtjkkokjojaknkaaDoorTotals.lean).
  GIVEN WITH THE SEED: the statements are not yours to turn. If you find one false, say at which input.
  Laid BY PROGRAM, IN A SANDBOX (cutbox-rows.mjs): the forced cells as the released guide's own fill.sh prints them over the translation a0a940c34e68be1a… (all of the seat's roots in one cut). By AI agents, Wed Nov 11 2026. No macro, syntax, notation, axiom, sorry.
-/
import Derived.Test.YtjkkokjojaknkaaDoorChecked
import GoSem.Claim
import GoSem.ClaimJoined
import GoSem.ClaimMapViews
import Derived.JoinedTies
import Derived.KernelRfl
namespace Go.Proofs.YtjkkokjojaknkaaDoor
/- THE CELL 'sum', in the pinned program and in every row, IS THE sha256 OF THE DUMP (.gsa) THAT YtjkkokjojaknkaaDoorProg.lean LOADS. Nothing in Lean hashes anything: it is a label: what it is worth is what the hold of that sum in a sandbox is worth. -/
noncomputable def Tryd.pinned : Pinned := { name := "ytjkkokjojaknkaadoor", sum := "a0a940c34e68be1abad6be9cc7b9088f1249d6343711eb52c077d728825b9d7f", checked := Tryd.checked }
namespace Rows
def none {H : Type} : Left H := { results := [], args := [] }

/- WHAT THE LISTED PACKAGE-LEVEL VARIABLES READ AS WHEN THE CALL BEGINS. Each datum BY PROGRAM (the guide's laid-datum.mjs) off the statement by which the dump's own 'gosem.cut.vars' lays the variable. In a bare row this is a premise. The card (YtjkkokjojaknkaaDoorCards.lean) ties it to the program's text. -/
def laid_errors_errorType {H : Type} : DataW H := .iface "internal/reflectlite.rtype" (.agg [.ptr (.lit (.string [101, 114, 114, 111, 114]))])

/-- 'laws.FnItemBack': WHATEVER THE INPUT: true; the input reads as it did. -/
def fnItemBackSpec : ChangeSpec := { name := "fnItemBack", fn := fun _ => fun
  | [d] => { results := [.lit (.bool true)], args := [d] }
  | _ => none }
def fnItemBackRow : OpenClaim := { program := "ytjkkokjojaknkaadoor", sum := "a0a940c34e68be1abad6be9cc7b9088f1249d6343711eb52c077d728825b9d7f", func := "loop.example/g00041/laws.FnItemBack", spec := "fnItemBack", inPlace := ["internal/reflectlite.ValueOf", "(internal/reflectlite.Value).Type", "(internal/reflectlite.Value).IsNil", "internal/reflectlite.TypeOf", "(internal/reflectlite.Value).Elem", "(internal/reflectlite.Value).Set"], unfollowed := true, recurses := true, named := ["errors.errorType"], apart := false, laid := [("errors.errorType", laid_errors_errorType)] }
def FnItemBackSaid : Prop := fnItemBackRow.holds Tryd.pinned (OpenSpec.ofChange fnItemBackSpec)

/-- ITS FALSE NEIGHBOUR: 'it returns false'. Refute it at one input. -/
def fnItemBackWrong : ChangeSpec := { name := "fnItemBack", fn := fun _ => fun
  | [d] => { results := [.lit (.bool false)], args := [d] }
  | _ => none }
def FnItemBackWrongFalsely : Prop := fnItemBackRow.holds Tryd.pinned (OpenSpec.ofChange fnItemBackWrong)

/-- 'laws.FnLaxSame': WHATEVER THE INPUT: true; the input reads as it did. -/
def fnLaxSameSpec : ChangeSpec := { name := "fnLaxSame", fn := fun _ => fun
  | [d] => { results := [.lit (.bool true)], args := [d] }
  | _ => none }
def fnLaxSameRow : OpenClaim := { program := "ytjkkokjojaknkaadoor", sum := "a0a940c34e68be1abad6be9cc7b9088f1249d6343711eb52c077d728825b9d7f", func := "loop.example/g00041/laws.FnLaxSame", spec := "fnLaxSame", inPlace := ["internal/reflectlite.ValueOf", "(internal/reflectlite.Value).Type", "(internal/reflectlite.Value).IsNil", "internal/reflectlite.TypeOf", "(internal/reflectlite.Value).Elem", "(internal/reflectlite.Value).Set"], unfollowed := true, recurses := true, named := ["errors.errorType"], apart := false, laid := [("errors.errorType", laid_errors_errorType)] }
def FnLaxSameSaid : Prop := fnLaxSameRow.holds Tryd.pinned (OpenSpec.ofChange fnLaxSameSpec)

/-- ITS FALSE NEIGHBOUR: 'it returns false'. Refute it at one input. -/
def fnLaxSameWrong : ChangeSpec := { name := "fnLaxSame", fn := fun _ => fun
  | [d] => { results := [.lit (.bool false)], args := [d] }
  | _ => none }
def FnLaxSameWrongFalsely : Prop := fnLaxSameRow.holds Tryd.pinned (OpenSpec.ofChange fnLaxSameWrong)

/-- 'laws.FnOneForm': WHATEVER THE INPUT: true; the input reads as it did. -/
def fnOneFormSpec : ChangeSpec := { name := "fnOneForm", fn := fun _ => fun
  | [d1, d2] => { results := [.lit (.bool true)], args := [d1, d2] }
  | _ => none }
def fnOneFormRow : OpenClaim := { program := "ytjkkokjojaknkaadoor", sum := "a0a940c34e68be1abad6be9cc7b9088f1249d6343711eb52c077d728825b9d7f", func := "loop.example/g00041/laws.FnOneForm", spec := "fnOneForm", inPlace := ["internal/reflectlite.ValueOf", "(internal/reflectlite.Value).Type", "(internal/reflectlite.Value).IsNil", "internal/reflectlite.TypeOf", "(internal/reflectlite.Value).Elem", "(internal/reflectlite.Value).Set"], unfollowed := true, recurses := true, named := ["errors.errorType"], apart := false, laid := [("errors.errorType", laid_errors_errorType)] }
def FnOneFormSaid : Prop := fnOneFormRow.holds Tryd.pinned (OpenSpec.ofChange fnOneFormSpec)

/-- ITS FALSE NEIGHBOUR: 'it returns false'. Refute it at one input. -/
def fnOneFormWrong : ChangeSpec := { name := "fnOneForm", fn := fun _ => fun
  | [d1, d2] => { results := [.lit (.bool false)], args := [d1, d2] }
  | _ => none }
def FnOneFormWrongFalsely : Prop := fnOneFormRow.holds Tryd.pinned (OpenSpec.ofChange fnOneFormWrong)

/-- 'laws.FnExactReadItem': WHATEVER THE INPUT: true; the input reads as it did. -/
def fnExactReadItemSpec : ChangeSpec := { name := "fnExactReadItem", fn := fun _ => fun
  | [d1, d2] => { results := [.lit (.bool true)], args := [d1, d2] }
  | _ => none }
def fnExactReadItemRow : OpenClaim := { program := "ytjkkokjojaknkaadoor", sum := "a0a940c34e68be1abad6be9cc7b9088f1249d6343711eb52c077d728825b9d7f", func := "loop.example/g00041/laws.FnExactReadItem", spec := "fnExactReadItem", inPlace := ["internal/reflectlite.ValueOf", "(internal/reflectlite.Value).Type", "(internal/reflectlite.Value).IsNil", "internal/reflectlite.TypeOf", "(internal/reflectlite.Value).Elem", "(internal/reflectlite.Value).Set"], unfollowed := true, recurses := true, named := ["errors.errorType"], apart := false, laid := [("errors.errorType", laid_errors_errorType)] }
def FnExactReadItemSaid : Prop := fnExactReadItemRow.holds Tryd.pinned (OpenSpec.ofChange fnExactReadItemSpec)

/-- ITS FALSE NEIGHBOUR: 'it returns false'. Refute it at one input. -/
def fnExactReadItemWrong : ChangeSpec := { name := "fnExactReadItem", fn := fun _ => fun
  | [d1, d2] => { results := [.lit (.bool false)], args := [d1, d2] }
  | _ => none }
def FnExactReadItemWrongFalsely : Prop := fnExactReadItemRow.holds Tryd.pinned (OpenSpec.ofChange fnExactReadItemWrong)

/-- 'laws.FnExactCanon': WHATEVER THE INPUT: true; the input reads as it did. -/
def fnExactCanonSpec : ChangeSpec := { name := "fnExactCanon", fn := fun _ => fun
  | [d] => { results := [.lit (.bool true)], args := [d] }
  | _ => none }
def fnExactCanonRow : OpenClaim := { program := "ytjkkokjojaknkaadoor", sum := "a0a940c34e68be1abad6be9cc7b9088f1249d6343711eb52c077d728825b9d7f", func := "loop.example/g00041/laws.FnExactCanon", spec := "fnExactCanon", inPlace := ["internal/reflectlite.ValueOf", "(internal/reflectlite.Value).Type", "(internal/reflectlite.Value).IsNil", "internal/reflectlite.TypeOf", "(internal/reflectlite.Value).Elem", "(internal/reflectlite.Value).Set"], unfollowed := true, recurses := true, named := ["errors.errorType"], apart := false, laid := [("errors.errorType", laid_errors_errorType)] }
def FnExactCanonSaid : Prop := fnExactCanonRow.holds Tryd.pinned (OpenSpec.ofChange fnExactCanonSpec)

/-- ITS FALSE NEIGHBOUR: 'it returns false'. Refute it at one input. -/
def fnExactCanonWrong : ChangeSpec := { name := "fnExactCanon", fn := fun _ => fun
  | [d] => { results := [.lit (.bool false)], args := [d] }
  | _ => none }
def FnExactCanonWrongFalsely : Prop := fnExactCanonRow.holds Tryd.pinned (OpenSpec.ofChange fnExactCanonWrong)

/- THE SECOND FORM. 'bulk': how many values and letters a reading holds, each counted each time it is reached (what is shared counts as often as it is met; a slice's spare places count too). A statement '..UptoSaid' is the law's where the arguments, and the package variables that the reading takes, are together of bulk at most 1048576: NARROWER than '..Said'. Prove '..Said' where nothing that the law and all that it calls make is longer than what came in: it says more and counts as full. Else prove '..UptoSaid'. A law counts once. -/
mutual
def uptoBulk {H : Type} : DataW H → Nat
  | .lit (.string bytes) => bytes.length + 1
  | .lit _ => 1
  | .nil => 1
  | .ptr d => uptoBulk d + 1
  | .slice elems spare => uptoBulkAll elems + uptoBulkAll spare + 1
  | .agg parts => uptoBulkAll parts + 1
  | .iface _ d => uptoBulk d + 1
  | .map entries => uptoBulkEntries entries + 1
  | .held _ => 1
def uptoBulkAll {H : Type} : List (DataW H) → Nat
  | [] => 0
  | d :: r => uptoBulk d + uptoBulkAll r
def uptoBulkEntries {H : Type} : List (Lit × DataW H) → Nat
  | [] => 0
  | x :: r => uptoBulkEntry x + uptoBulkEntries r
def uptoBulkEntry {H : Type} : Lit × DataW H → Nat
  | (.string bytes, d) => bytes.length + uptoBulk d + 1
  | (_, d) => uptoBulk d + 1
 end
def uptoSmall : (H : Type) → List (DataW H) → Bool := fun _ ds => decide (uptoBulkAll ds ≤ 1048576)
def OpenSpec.upto (s : _root_.Go.ChangeSpec) : _root_.Go.OpenSpec := { _root_.Go.OpenSpec.ofChange s with cond := some uptoSmall }

/-- 'laws.FnItemBack', WHERE WHAT IT READS IS OF BULK AT MOST 1048576: true; the input reads as it did. -/
def fnItemBackUptoRow : OpenClaim := { program := "ytjkkokjojaknkaadoor", sum := "a0a940c34e68be1abad6be9cc7b9088f1249d6343711eb52c077d728825b9d7f", func := "loop.example/g00041/laws.FnItemBack", spec := "fnItemBack", inPlace := ["internal/reflectlite.ValueOf", "(internal/reflectlite.Value).Type", "(internal/reflectlite.Value).IsNil", "internal/reflectlite.TypeOf", "(internal/reflectlite.Value).Elem", "(internal/reflectlite.Value).Set"], unfollowed := true, recurses := true, named := ["errors.errorType"], apart := false, laid := [("errors.errorType", laid_errors_errorType)], narrowed := true }
def FnItemBackUptoSaid : Prop := fnItemBackUptoRow.holds Tryd.pinned (OpenSpec.upto fnItemBackSpec)

/-- 'laws.FnLaxSame', WHERE WHAT IT READS IS OF BULK AT MOST 1048576: true; the input reads as it did. -/
def fnLaxSameUptoRow : OpenClaim := { program := "ytjkkokjojaknkaadoor", sum := "a0a940c34e68be1abad6be9cc7b9088f1249d6343711eb52c077d728825b9d7f", func := "loop.example/g00041/laws.FnLaxSame", spec := "fnLaxSame", inPlace := ["internal/reflectlite.ValueOf", "(internal/reflectlite.Value).Type", "(internal/reflectlite.Value).IsNil", "internal/reflectlite.TypeOf", "(internal/reflectlite.Value).Elem", "(internal/reflectlite.Value).Set"], unfollowed := true, recurses := true, named := ["errors.errorType"], apart := false, laid := [("errors.errorType", laid_errors_errorType)], narrowed := true }
def FnLaxSameUptoSaid : Prop := fnLaxSameUptoRow.holds Tryd.pinned (OpenSpec.upto fnLaxSameSpec)

/-- 'laws.FnOneForm', WHERE WHAT IT READS IS OF BULK AT MOST 1048576: true; the input reads as it did. -/
def fnOneFormUptoRow : OpenClaim := { program := "ytjkkokjojaknkaadoor", sum := "a0a940c34e68be1abad6be9cc7b9088f1249d6343711eb52c077d728825b9d7f", func := "loop.example/g00041/laws.FnOneForm", spec := "fnOneForm", inPlace := ["internal/reflectlite.ValueOf", "(internal/reflectlite.Value).Type", "(internal/reflectlite.Value).IsNil", "internal/reflectlite.TypeOf", "(internal/reflectlite.Value).Elem", "(internal/reflectlite.Value).Set"], unfollowed := true, recurses := true, named := ["errors.errorType"], apart := false, laid := [("errors.errorType", laid_errors_errorType)], narrowed := true }
def FnOneFormUptoSaid : Prop := fnOneFormUptoRow.holds Tryd.pinned (OpenSpec.upto fnOneFormSpec)

/-- 'laws.FnExactReadItem', WHERE WHAT IT READS IS OF BULK AT MOST 1048576: true; the input reads as it did. -/
def fnExactReadItemUptoRow : OpenClaim := { program := "ytjkkokjojaknkaadoor", sum := "a0a940c34e68be1abad6be9cc7b9088f1249d6343711eb52c077d728825b9d7f", func := "loop.example/g00041/laws.FnExactReadItem", spec := "fnExactReadItem", inPlace := ["internal/reflectlite.ValueOf", "(internal/reflectlite.Value).Type", "(internal/reflectlite.Value).IsNil", "internal/reflectlite.TypeOf", "(internal/reflectlite.Value).Elem", "(internal/reflectlite.Value).Set"], unfollowed := true, recurses := true, named := ["errors.errorType"], apart := false, laid := [("errors.errorType", laid_errors_errorType)], narrowed := true }
def FnExactReadItemUptoSaid : Prop := fnExactReadItemUptoRow.holds Tryd.pinned (OpenSpec.upto fnExactReadItemSpec)

/-- 'laws.FnExactCanon', WHERE WHAT IT READS IS OF BULK AT MOST 1048576: true; the input reads as it did. -/
def fnExactCanonUptoRow : OpenClaim := { program := "ytjkkokjojaknkaadoor", sum := "a0a940c34e68be1abad6be9cc7b9088f1249d6343711eb52c077d728825b9d7f", func := "loop.example/g00041/laws.FnExactCanon", spec := "fnExactCanon", inPlace := ["internal/reflectlite.ValueOf", "(internal/reflectlite.Value).Type", "(internal/reflectlite.Value).IsNil", "internal/reflectlite.TypeOf", "(internal/reflectlite.Value).Elem", "(internal/reflectlite.Value).Set"], unfollowed := true, recurses := true, named := ["errors.errorType"], apart := false, laid := [("errors.errorType", laid_errors_errorType)], narrowed := true }
def FnExactCanonUptoSaid : Prop := fnExactCanonUptoRow.holds Tryd.pinned (OpenSpec.upto fnExactCanonSpec)

end Rows
end Go.Proofs.YtjkkokjojaknkaaDoor
