/-
  No cell of these rows narrows 'for every input' (looked for: loops, veiled, ifaces, maps, wideKeys, modest, calm, conditions, laid).
  DERIVED. THE GIVEN ROWS OF THIS SEAT. 6 by the template 'for every input the law returns true; each argument reads behind the call as it read before'; 0 by the template 'total and deterministic' (their statements: YthoooppdineldabTotals.lean).
  GIVEN WITH THE SEED: the statements are not yours to turn. If you find one false, say at which input.
  Laid BY PROGRAM, IN A SANDBOX (cutbox-rows.mjs): the forced cells as the released guide's own fill.sh prints them over the translation 4bbb74131c29ebe6… (all of the seat's roots in one cut). By AI agents, Wed Nov 11 2026. No macro, syntax, notation, axiom, sorry.
-/
import Derived.Test.YthoooppdineldabChecked
import GoSem.Claim
import GoSem.ClaimJoined
import GoSem.ClaimMapViews
import Derived.JoinedTies
import Derived.KernelRfl
namespace Go.Proofs.Ythoooppdineldab
/- THE CELL 'sum', in the pinned program and in every row, IS THE sha256 OF THE DUMP (.gsa) THAT YthoooppdineldabProg.lean LOADS. Nothing in Lean hashes anything: it is a label: what it is worth is what the hold of that sum in a sandbox is worth. -/
noncomputable def Try.pinned : Pinned := { name := "ythoooppdineldab", sum := "4bbb74131c29ebe67a6a9acb4dadb2d643eaa9f4e9501f663414834fb8e3b1bf", checked := Try.checked }
namespace Rows
def none {H : Type} : Left H := { results := [], args := [] }

/-- 'laws.FnExactBlindAsk': WHATEVER THE INPUT: true; the input reads as it did. -/
def fnExactBlindAskSpec : ChangeSpec := { name := "fnExactBlindAsk", fn := fun _ => fun
  | [d1, d2, d3, d4, d5] => { results := [.lit (.bool true)], args := [d1, d2, d3, d4, d5] }
  | _ => none }
def fnExactBlindAskRow : OpenClaim := { program := "ythoooppdineldab", sum := "4bbb74131c29ebe67a6a9acb4dadb2d643eaa9f4e9501f663414834fb8e3b1bf", func := "loop.example/g00041/laws.FnExactBlindAsk", spec := "fnExactBlindAsk", apart := false }
def FnExactBlindAskSaid : Prop := fnExactBlindAskRow.holds Try.pinned (OpenSpec.ofChange fnExactBlindAskSpec)

/-- ITS FALSE NEIGHBOUR: 'it returns false'. Refute it at one input. -/
def fnExactBlindAskWrong : ChangeSpec := { name := "fnExactBlindAsk", fn := fun _ => fun
  | [d1, d2, d3, d4, d5] => { results := [.lit (.bool false)], args := [d1, d2, d3, d4, d5] }
  | _ => none }
def FnExactBlindAskWrongFalsely : Prop := fnExactBlindAskRow.holds Try.pinned (OpenSpec.ofChange fnExactBlindAskWrong)

/-- 'laws.FnExactBlindAnswer': WHATEVER THE INPUT: true; the input reads as it did. -/
def fnExactBlindAnswerSpec : ChangeSpec := { name := "fnExactBlindAnswer", fn := fun _ => fun
  | [d1, d2, d3] => { results := [.lit (.bool true)], args := [d1, d2, d3] }
  | _ => none }
def fnExactBlindAnswerRow : OpenClaim := { program := "ythoooppdineldab", sum := "4bbb74131c29ebe67a6a9acb4dadb2d643eaa9f4e9501f663414834fb8e3b1bf", func := "loop.example/g00041/laws.FnExactBlindAnswer", spec := "fnExactBlindAnswer", apart := false }
def FnExactBlindAnswerSaid : Prop := fnExactBlindAnswerRow.holds Try.pinned (OpenSpec.ofChange fnExactBlindAnswerSpec)

/-- ITS FALSE NEIGHBOUR: 'it returns false'. Refute it at one input. -/
def fnExactBlindAnswerWrong : ChangeSpec := { name := "fnExactBlindAnswer", fn := fun _ => fun
  | [d1, d2, d3] => { results := [.lit (.bool false)], args := [d1, d2, d3] }
  | _ => none }
def FnExactBlindAnswerWrongFalsely : Prop := fnExactBlindAnswerRow.holds Try.pinned (OpenSpec.ofChange fnExactBlindAnswerWrong)

/-- 'laws.FnExactBlindDone': WHATEVER THE INPUT: true; the input reads as it did. -/
def fnExactBlindDoneSpec : ChangeSpec := { name := "fnExactBlindDone", fn := fun _ => fun
  | [d1, d2, d3] => { results := [.lit (.bool true)], args := [d1, d2, d3] }
  | _ => none }
def fnExactBlindDoneRow : OpenClaim := { program := "ythoooppdineldab", sum := "4bbb74131c29ebe67a6a9acb4dadb2d643eaa9f4e9501f663414834fb8e3b1bf", func := "loop.example/g00041/laws.FnExactBlindDone", spec := "fnExactBlindDone", apart := false }
def FnExactBlindDoneSaid : Prop := fnExactBlindDoneRow.holds Try.pinned (OpenSpec.ofChange fnExactBlindDoneSpec)

/-- ITS FALSE NEIGHBOUR: 'it returns false'. Refute it at one input. -/
def fnExactBlindDoneWrong : ChangeSpec := { name := "fnExactBlindDone", fn := fun _ => fun
  | [d1, d2, d3] => { results := [.lit (.bool false)], args := [d1, d2, d3] }
  | _ => none }
def FnExactBlindDoneWrongFalsely : Prop := fnExactBlindDoneRow.holds Try.pinned (OpenSpec.ofChange fnExactBlindDoneWrong)

/-- 'laws.FnExactDeal': WHATEVER THE INPUT: true; the input reads as it did. -/
def fnExactDealSpec : ChangeSpec := { name := "fnExactDeal", fn := fun _ => fun
  | [d1, d2, d3] => { results := [.lit (.bool true)], args := [d1, d2, d3] }
  | _ => none }
def fnExactDealRow : OpenClaim := { program := "ythoooppdineldab", sum := "4bbb74131c29ebe67a6a9acb4dadb2d643eaa9f4e9501f663414834fb8e3b1bf", func := "loop.example/g00041/laws.FnExactDeal", spec := "fnExactDeal", apart := false }
def FnExactDealSaid : Prop := fnExactDealRow.holds Try.pinned (OpenSpec.ofChange fnExactDealSpec)

/-- ITS FALSE NEIGHBOUR: 'it returns false'. Refute it at one input. -/
def fnExactDealWrong : ChangeSpec := { name := "fnExactDeal", fn := fun _ => fun
  | [d1, d2, d3] => { results := [.lit (.bool false)], args := [d1, d2, d3] }
  | _ => none }
def FnExactDealWrongFalsely : Prop := fnExactDealRow.holds Try.pinned (OpenSpec.ofChange fnExactDealWrong)

/-- 'laws.FnExactRestore': WHATEVER THE INPUT: true; the input reads as it did. -/
def fnExactRestoreSpec : ChangeSpec := { name := "fnExactRestore", fn := fun _ => fun
  | [d] => { results := [.lit (.bool true)], args := [d] }
  | _ => none }
def fnExactRestoreRow : OpenClaim := { program := "ythoooppdineldab", sum := "4bbb74131c29ebe67a6a9acb4dadb2d643eaa9f4e9501f663414834fb8e3b1bf", func := "loop.example/g00041/laws.FnExactRestore", spec := "fnExactRestore", unfollowed := true, recurses := true, apart := false }
def FnExactRestoreSaid : Prop := fnExactRestoreRow.holds Try.pinned (OpenSpec.ofChange fnExactRestoreSpec)

/-- ITS FALSE NEIGHBOUR: 'it returns false'. Refute it at one input. -/
def fnExactRestoreWrong : ChangeSpec := { name := "fnExactRestore", fn := fun _ => fun
  | [d] => { results := [.lit (.bool false)], args := [d] }
  | _ => none }
def FnExactRestoreWrongFalsely : Prop := fnExactRestoreRow.holds Try.pinned (OpenSpec.ofChange fnExactRestoreWrong)

/-- 'laws.FnExactLambda': WHATEVER THE INPUT: true; the input reads as it did. -/
def fnExactLambdaSpec : ChangeSpec := { name := "fnExactLambda", fn := fun _ => fun
  | [d1, d2] => { results := [.lit (.bool true)], args := [d1, d2] }
  | _ => none }
def fnExactLambdaRow : OpenClaim := { program := "ythoooppdineldab", sum := "4bbb74131c29ebe67a6a9acb4dadb2d643eaa9f4e9501f663414834fb8e3b1bf", func := "loop.example/g00041/laws.FnExactLambda", spec := "fnExactLambda", apart := false }
def FnExactLambdaSaid : Prop := fnExactLambdaRow.holds Try.pinned (OpenSpec.ofChange fnExactLambdaSpec)

/-- ITS FALSE NEIGHBOUR: 'it returns false'. Refute it at one input. -/
def fnExactLambdaWrong : ChangeSpec := { name := "fnExactLambda", fn := fun _ => fun
  | [d1, d2] => { results := [.lit (.bool false)], args := [d1, d2] }
  | _ => none }
def FnExactLambdaWrongFalsely : Prop := fnExactLambdaRow.holds Try.pinned (OpenSpec.ofChange fnExactLambdaWrong)

/- THE SECOND FORM. 'bulk': how many values and letters a reading holds, each counted each time it is reached (what is shared counts as often as it is met; a slice's spare places count too). A statement '..UptoSaid' is the law's where the arguments, and the package variables that the reading takes, are together of bulk at most 1048576: NARROWER than '..Said'. Prove '..Said' where nothing that the law and all that it calls make is longer than what came in: it says more and counts as full. Else prove '..UptoSaid'. A law counts once. -/
mutual
def uptoBulk {H : Type} : DataW H → Nat
  | .lit (.string bytes) => bytes.length + 1
  | .lit _ => 1
  | .nil => 1
  | .ptr d => uptoBulk d + 1
  | .slice elems spare => uptoBulkAll elems + uptoBulkAll spare + 1
  | .agg parts => uptoBulkAll parts + 1
  | .iface _ d => uptoBulk d + 1
  | .map entries => uptoBulkEntries entries + 1
  | .held _ => 1
def uptoBulkAll {H : Type} : List (DataW H) → Nat
  | [] => 0
  | d :: r => uptoBulk d + uptoBulkAll r
def uptoBulkEntries {H : Type} : List (Lit × DataW H) → Nat
  | [] => 0
  | x :: r => uptoBulkEntry x + uptoBulkEntries r
def uptoBulkEntry {H : Type} : Lit × DataW H → Nat
  | (.string bytes, d) => bytes.length + uptoBulk d + 1
  | (_, d) => uptoBulk d + 1
 end
def uptoSmall : (H : Type) → List (DataW H) → Bool := fun _ ds => decide (uptoBulkAll ds ≤ 1048576)
def OpenSpec.upto (s : _root_.Go.ChangeSpec) : _root_.Go.OpenSpec := { _root_.Go.OpenSpec.ofChange s with cond := some uptoSmall }

/-- 'laws.FnExactBlindAsk', WHERE WHAT IT READS IS OF BULK AT MOST 1048576: true; the input reads as it did. -/
def fnExactBlindAskUptoRow : OpenClaim := { program := "ythoooppdineldab", sum := "4bbb74131c29ebe67a6a9acb4dadb2d643eaa9f4e9501f663414834fb8e3b1bf", func := "loop.example/g00041/laws.FnExactBlindAsk", spec := "fnExactBlindAsk", apart := false, narrowed := true }
def FnExactBlindAskUptoSaid : Prop := fnExactBlindAskUptoRow.holds Try.pinned (OpenSpec.upto fnExactBlindAskSpec)

/-- 'laws.FnExactBlindAnswer', WHERE WHAT IT READS IS OF BULK AT MOST 1048576: true; the input reads as it did. -/
def fnExactBlindAnswerUptoRow : OpenClaim := { program := "ythoooppdineldab", sum := "4bbb74131c29ebe67a6a9acb4dadb2d643eaa9f4e9501f663414834fb8e3b1bf", func := "loop.example/g00041/laws.FnExactBlindAnswer", spec := "fnExactBlindAnswer", apart := false, narrowed := true }
def FnExactBlindAnswerUptoSaid : Prop := fnExactBlindAnswerUptoRow.holds Try.pinned (OpenSpec.upto fnExactBlindAnswerSpec)

/-- 'laws.FnExactBlindDone', WHERE WHAT IT READS IS OF BULK AT MOST 1048576: true; the input reads as it did. -/
def fnExactBlindDoneUptoRow : OpenClaim := { program := "ythoooppdineldab", sum := "4bbb74131c29ebe67a6a9acb4dadb2d643eaa9f4e9501f663414834fb8e3b1bf", func := "loop.example/g00041/laws.FnExactBlindDone", spec := "fnExactBlindDone", apart := false, narrowed := true }
def FnExactBlindDoneUptoSaid : Prop := fnExactBlindDoneUptoRow.holds Try.pinned (OpenSpec.upto fnExactBlindDoneSpec)

/-- 'laws.FnExactDeal', WHERE WHAT IT READS IS OF BULK AT MOST 1048576: true; the input reads as it did. -/
def fnExactDealUptoRow : OpenClaim := { program := "ythoooppdineldab", sum := "4bbb74131c29ebe67a6a9acb4dadb2d643eaa9f4e9501f663414834fb8e3b1bf", func := "loop.example/g00041/laws.FnExactDeal", spec := "fnExactDeal", apart := false, narrowed := true }
def FnExactDealUptoSaid : Prop := fnExactDealUptoRow.holds Try.pinned (OpenSpec.upto fnExactDealSpec)

/-- 'laws.FnExactRestore', WHERE WHAT IT READS IS OF BULK AT MOST 1048576: true; the input reads as it did. -/
def fnExactRestoreUptoRow : OpenClaim := { program := "ythoooppdineldab", sum := "4bbb74131c29ebe67a6a9acb4dadb2d643eaa9f4e9501f663414834fb8e3b1bf", func := "loop.example/g00041/laws.FnExactRestore", spec := "fnExactRestore", unfollowed := true, recurses := true, apart := false, narrowed := true }
def FnExactRestoreUptoSaid : Prop := fnExactRestoreUptoRow.holds Try.pinned (OpenSpec.upto fnExactRestoreSpec)

/-- 'laws.FnExactLambda', WHERE WHAT IT READS IS OF BULK AT MOST 1048576: true; the input reads as it did. -/
def fnExactLambdaUptoRow : OpenClaim := { program := "ythoooppdineldab", sum := "4bbb74131c29ebe67a6a9acb4dadb2d643eaa9f4e9501f663414834fb8e3b1bf", func := "loop.example/g00041/laws.FnExactLambda", spec := "fnExactLambda", apart := false, narrowed := true }
def FnExactLambdaUptoSaid : Prop := fnExactLambdaUptoRow.holds Try.pinned (OpenSpec.upto fnExactLambdaSpec)

end Rows
end Go.Proofs.Ythoooppdineldab
