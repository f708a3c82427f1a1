/-
  No cell of these rows narrows 'for every input' (looked for: loops, veiled, ifaces, maps, wideKeys, modest, calm, conditions, laid).
  DERIVED. THE GIVEN ROWS OF THIS SEAT. 3 by the template 'for every input the law returns true; each argument reads behind the call as it read before'; 0 by the template 'total and deterministic' (their statements: YtfplaebocdpcbaaTotals.lean).
  GIVEN WITH THE SEED: the statements are not yours to turn. If you find one false, say at which input.
  Laid BY PROGRAM, IN A SANDBOX (cutbox-rows.mjs): the forced cells as the released guide's own fill.sh prints them over the translation 4f9078d6f0045410… (all of the seat's roots in one cut). By AI agents, Wed Nov 11 2026. No macro, syntax, notation, axiom, sorry.
-/
import Derived.Test.YtfplaebocdpcbaaChecked
import GoSem.Claim
import GoSem.ClaimJoined
import GoSem.ClaimMapViews
import Derived.JoinedTies
import Derived.KernelRfl
namespace Go.Proofs.Ytfplaebocdpcbaa
/- THE CELL 'sum', in the pinned program and in every row, IS THE sha256 OF THE DUMP (.gsa) THAT YtfplaebocdpcbaaProg.lean LOADS. Nothing in Lean hashes anything: it is a label: what it is worth is what the hold of that sum in a sandbox is worth. -/
noncomputable def Try.pinned : Pinned := { name := "ytfplaebocdpcbaa", sum := "4f9078d6f00454100fcbd103d27c8a8de723d44837473490179b349223f6993e", checked := Try.checked }
namespace Rows
def none {H : Type} : Left H := { results := [], args := [] }

/-- 'laws.FnExactLambda': WHATEVER THE INPUT: true; the input reads as it did. -/
def fnExactLambdaSpec : ChangeSpec := { name := "fnExactLambda", fn := fun _ => fun
  | [d1, d2] => { results := [.lit (.bool true)], args := [d1, d2] }
  | _ => none }
def fnExactLambdaRow : OpenClaim := { program := "ytfplaebocdpcbaa", sum := "4f9078d6f00454100fcbd103d27c8a8de723d44837473490179b349223f6993e", func := "loop.example/g00041/laws.FnExactLambda", spec := "fnExactLambda", apart := false }
def FnExactLambdaSaid : Prop := fnExactLambdaRow.holds Try.pinned (OpenSpec.ofChange fnExactLambdaSpec)

/-- ITS FALSE NEIGHBOUR: 'it returns false'. Refute it at one input. -/
def fnExactLambdaWrong : ChangeSpec := { name := "fnExactLambda", fn := fun _ => fun
  | [d1, d2] => { results := [.lit (.bool false)], args := [d1, d2] }
  | _ => none }
def FnExactLambdaWrongFalsely : Prop := fnExactLambdaRow.holds Try.pinned (OpenSpec.ofChange fnExactLambdaWrong)

/-- 'laws.FnExactRestore': WHATEVER THE INPUT: true; the input reads as it did. -/
def fnExactRestoreSpec : ChangeSpec := { name := "fnExactRestore", fn := fun _ => fun
  | [d] => { results := [.lit (.bool true)], args := [d] }
  | _ => none }
def fnExactRestoreRow : OpenClaim := { program := "ytfplaebocdpcbaa", sum := "4f9078d6f00454100fcbd103d27c8a8de723d44837473490179b349223f6993e", func := "loop.example/g00041/laws.FnExactRestore", spec := "fnExactRestore", unfollowed := true, recurses := true, apart := false }
def FnExactRestoreSaid : Prop := fnExactRestoreRow.holds Try.pinned (OpenSpec.ofChange fnExactRestoreSpec)

/-- ITS FALSE NEIGHBOUR: 'it returns false'. Refute it at one input. -/
def fnExactRestoreWrong : ChangeSpec := { name := "fnExactRestore", fn := fun _ => fun
  | [d] => { results := [.lit (.bool false)], args := [d] }
  | _ => none }
def FnExactRestoreWrongFalsely : Prop := fnExactRestoreRow.holds Try.pinned (OpenSpec.ofChange fnExactRestoreWrong)

/-- 'laws.FnExactSignPart': WHATEVER THE INPUT: true; the input reads as it did. -/
def fnExactSignPartSpec : ChangeSpec := { name := "fnExactSignPart", fn := fun _ => fun
  | [d1, d2, d3, d4] => { results := [.lit (.bool true)], args := [d1, d2, d3, d4] }
  | _ => none }
def fnExactSignPartRow : OpenClaim := { program := "ytfplaebocdpcbaa", sum := "4f9078d6f00454100fcbd103d27c8a8de723d44837473490179b349223f6993e", func := "loop.example/g00041/laws.FnExactSignPart", spec := "fnExactSignPart", apart := false }
def FnExactSignPartSaid : Prop := fnExactSignPartRow.holds Try.pinned (OpenSpec.ofChange fnExactSignPartSpec)

/-- ITS FALSE NEIGHBOUR: 'it returns false'. Refute it at one input. -/
def fnExactSignPartWrong : ChangeSpec := { name := "fnExactSignPart", fn := fun _ => fun
  | [d1, d2, d3, d4] => { results := [.lit (.bool false)], args := [d1, d2, d3, d4] }
  | _ => none }
def FnExactSignPartWrongFalsely : Prop := fnExactSignPartRow.holds Try.pinned (OpenSpec.ofChange fnExactSignPartWrong)

/- THE SECOND FORM. 'bulk': how many values and letters a reading holds, each counted each time it is reached (what is shared counts as often as it is met; a slice's spare places count too). A statement '..UptoSaid' is the law's where the arguments, and the package variables that the reading takes, are together of bulk at most 1048576: NARROWER than '..Said'. Prove '..Said' where nothing that the law and all that it calls make is longer than what came in: it says more and counts as full. Else prove '..UptoSaid'. A law counts once. -/
mutual
def uptoBulk {H : Type} : DataW H → Nat
  | .lit (.string bytes) => bytes.length + 1
  | .lit _ => 1
  | .nil => 1
  | .ptr d => uptoBulk d + 1
  | .slice elems spare => uptoBulkAll elems + uptoBulkAll spare + 1
  | .agg parts => uptoBulkAll parts + 1
  | .iface _ d => uptoBulk d + 1
  | .map entries => uptoBulkEntries entries + 1
  | .held _ => 1
def uptoBulkAll {H : Type} : List (DataW H) → Nat
  | [] => 0
  | d :: r => uptoBulk d + uptoBulkAll r
def uptoBulkEntries {H : Type} : List (Lit × DataW H) → Nat
  | [] => 0
  | x :: r => uptoBulkEntry x + uptoBulkEntries r
def uptoBulkEntry {H : Type} : Lit × DataW H → Nat
  | (.string bytes, d) => bytes.length + uptoBulk d + 1
  | (_, d) => uptoBulk d + 1
 end
def uptoSmall : (H : Type) → List (DataW H) → Bool := fun _ ds => decide (uptoBulkAll ds ≤ 1048576)
def OpenSpec.upto (s : _root_.Go.ChangeSpec) : _root_.Go.OpenSpec := { _root_.Go.OpenSpec.ofChange s with cond := some uptoSmall }

/-- 'laws.FnExactLambda', WHERE WHAT IT READS IS OF BULK AT MOST 1048576: true; the input reads as it did. -/
def fnExactLambdaUptoRow : OpenClaim := { program := "ytfplaebocdpcbaa", sum := "4f9078d6f00454100fcbd103d27c8a8de723d44837473490179b349223f6993e", func := "loop.example/g00041/laws.FnExactLambda", spec := "fnExactLambda", apart := false, narrowed := true }
def FnExactLambdaUptoSaid : Prop := fnExactLambdaUptoRow.holds Try.pinned (OpenSpec.upto fnExactLambdaSpec)

/-- 'laws.FnExactRestore', WHERE WHAT IT READS IS OF BULK AT MOST 1048576: true; the input reads as it did. -/
def fnExactRestoreUptoRow : OpenClaim := { program := "ytfplaebocdpcbaa", sum := "4f9078d6f00454100fcbd103d27c8a8de723d44837473490179b349223f6993e", func := "loop.example/g00041/laws.FnExactRestore", spec := "fnExactRestore", unfollowed := true, recurses := true, apart := false, narrowed := true }
def FnExactRestoreUptoSaid : Prop := fnExactRestoreUptoRow.holds Try.pinned (OpenSpec.upto fnExactRestoreSpec)

/-- 'laws.FnExactSignPart', WHERE WHAT IT READS IS OF BULK AT MOST 1048576: true; the input reads as it did. -/
def fnExactSignPartUptoRow : OpenClaim := { program := "ytfplaebocdpcbaa", sum := "4f9078d6f00454100fcbd103d27c8a8de723d44837473490179b349223f6993e", func := "loop.example/g00041/laws.FnExactSignPart", spec := "fnExactSignPart", apart := false, narrowed := true }
def FnExactSignPartUptoSaid : Prop := fnExactSignPartUptoRow.holds Try.pinned (OpenSpec.upto fnExactSignPartSpec)

end Rows
end Go.Proofs.Ytfplaebocdpcbaa
