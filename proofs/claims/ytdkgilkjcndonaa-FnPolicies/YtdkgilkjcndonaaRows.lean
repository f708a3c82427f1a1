/-
  No cell of these rows narrows 'for every input' (looked for: loops, veiled, ifaces, maps, wideKeys, modest, calm, conditions, laid).
  DERIVED. THE GIVEN ROWS OF THIS SEAT. 4 by the template 'for every input the law returns true; each argument reads behind the call as it read before'; 0 by the template 'total and deterministic' (their statements: YtdkgilkjcndonaaTotals.lean).
  GIVEN WITH THE SEED: the statements are not yours to turn. If you find one false, say at which input.
  Laid BY PROGRAM, IN A SANDBOX (cutbox-rows.mjs): the forced cells as the released guide's own fill.sh prints them over the translation 9672dd42949ba276… (all of the seat's roots in one cut). By AI agents, Wed Nov 11 2026. No macro, syntax, notation, axiom, sorry.
-/
import Derived.Test.YtdkgilkjcndonaaChecked
import GoSem.Claim
import GoSem.ClaimJoined
import GoSem.ClaimMapViews
import Derived.JoinedTies
import Derived.KernelRfl
namespace Go.Proofs.Ytdkgilkjcndonaa
/- THE CELL 'sum', in the pinned program and in every row, IS THE sha256 OF THE DUMP (.gsa) THAT YtdkgilkjcndonaaProg.lean LOADS. Nothing in Lean hashes anything: it is a label: what it is worth is what the hold of that sum in a sandbox is worth. -/
noncomputable def Try.pinned : Pinned := { name := "ytdkgilkjcndonaa", sum := "9672dd42949ba2763009b6a4cc07d6c6d0077cfee8a4da81075ada97953996ed", checked := Try.checked }
namespace Rows
def none {H : Type} : Left H := { results := [], args := [] }

/-- 'laws.FnChained': WHATEVER THE INPUT: true; the input reads as it did. -/
def fnChainedSpec : ChangeSpec := { name := "fnChained", fn := fun _ => fun
  | [d] => { results := [.lit (.bool true)], args := [d] }
  | _ => none }
def fnChainedRow : OpenClaim := { program := "ytdkgilkjcndonaa", sum := "9672dd42949ba2763009b6a4cc07d6c6d0077cfee8a4da81075ada97953996ed", func := "loop.example/g00041/laws.FnChained", spec := "fnChained", unfollowed := true, recurses := true, plainKeys := false, apart := false }
def FnChainedSaid : Prop := fnChainedRow.holds Try.pinned (OpenSpec.ofChange fnChainedSpec)

/-- ITS FALSE NEIGHBOUR: 'it returns false'. Refute it at one input. -/
def fnChainedWrong : ChangeSpec := { name := "fnChained", fn := fun _ => fun
  | [d] => { results := [.lit (.bool false)], args := [d] }
  | _ => none }
def FnChainedWrongFalsely : Prop := fnChainedRow.holds Try.pinned (OpenSpec.ofChange fnChainedWrong)

/-- 'laws.FnPolicies': WHATEVER THE INPUT: true; the input reads as it did. -/
def fnPoliciesSpec : ChangeSpec := { name := "fnPolicies", fn := fun _ => fun
  | [d] => { results := [.lit (.bool true)], args := [d] }
  | _ => none }
def fnPoliciesRow : OpenClaim := { program := "ytdkgilkjcndonaa", sum := "9672dd42949ba2763009b6a4cc07d6c6d0077cfee8a4da81075ada97953996ed", func := "loop.example/g00041/laws.FnPolicies", spec := "fnPolicies", unfollowed := true, recurses := true, plainKeys := false, apart := false }
def FnPoliciesSaid : Prop := fnPoliciesRow.holds Try.pinned (OpenSpec.ofChange fnPoliciesSpec)

/-- ITS FALSE NEIGHBOUR: 'it returns false'. Refute it at one input. -/
def fnPoliciesWrong : ChangeSpec := { name := "fnPolicies", fn := fun _ => fun
  | [d] => { results := [.lit (.bool false)], args := [d] }
  | _ => none }
def FnPoliciesWrongFalsely : Prop := fnPoliciesRow.holds Try.pinned (OpenSpec.ofChange fnPoliciesWrong)

/-- 'laws.FnExactPolicyHolds': WHATEVER THE INPUT: true; the input reads as it did. -/
def fnExactPolicyHoldsSpec : ChangeSpec := { name := "fnExactPolicyHolds", fn := fun _ => fun
  | [d1, d2, d3, d4] => { results := [.lit (.bool true)], args := [d1, d2, d3, d4] }
  | _ => none }
def fnExactPolicyHoldsRow : OpenClaim := { program := "ytdkgilkjcndonaa", sum := "9672dd42949ba2763009b6a4cc07d6c6d0077cfee8a4da81075ada97953996ed", func := "loop.example/g00041/laws.FnExactPolicyHolds", spec := "fnExactPolicyHolds", unfollowed := true, recurses := true, plainKeys := false, apart := false }
def FnExactPolicyHoldsSaid : Prop := fnExactPolicyHoldsRow.holds Try.pinned (OpenSpec.ofChange fnExactPolicyHoldsSpec)

/-- ITS FALSE NEIGHBOUR: 'it returns false'. Refute it at one input. -/
def fnExactPolicyHoldsWrong : ChangeSpec := { name := "fnExactPolicyHolds", fn := fun _ => fun
  | [d1, d2, d3, d4] => { results := [.lit (.bool false)], args := [d1, d2, d3, d4] }
  | _ => none }
def FnExactPolicyHoldsWrongFalsely : Prop := fnExactPolicyHoldsRow.holds Try.pinned (OpenSpec.ofChange fnExactPolicyHoldsWrong)

/-- 'laws.FnExactPathPolicies': WHATEVER THE INPUT: true; the input reads as it did. -/
def fnExactPathPoliciesSpec : ChangeSpec := { name := "fnExactPathPolicies", fn := fun _ => fun
  | [d1, d2, d3, d4, d5] => { results := [.lit (.bool true)], args := [d1, d2, d3, d4, d5] }
  | _ => none }
def fnExactPathPoliciesRow : OpenClaim := { program := "ytdkgilkjcndonaa", sum := "9672dd42949ba2763009b6a4cc07d6c6d0077cfee8a4da81075ada97953996ed", func := "loop.example/g00041/laws.FnExactPathPolicies", spec := "fnExactPathPolicies", unfollowed := true, recurses := true, plainKeys := false, apart := false }
def FnExactPathPoliciesSaid : Prop := fnExactPathPoliciesRow.holds Try.pinned (OpenSpec.ofChange fnExactPathPoliciesSpec)

/-- ITS FALSE NEIGHBOUR: 'it returns false'. Refute it at one input. -/
def fnExactPathPoliciesWrong : ChangeSpec := { name := "fnExactPathPolicies", fn := fun _ => fun
  | [d1, d2, d3, d4, d5] => { results := [.lit (.bool false)], args := [d1, d2, d3, d4, d5] }
  | _ => none }
def FnExactPathPoliciesWrongFalsely : Prop := fnExactPathPoliciesRow.holds Try.pinned (OpenSpec.ofChange fnExactPathPoliciesWrong)

/- THE SECOND FORM. 'bulk': how many values and letters a reading holds, each counted each time it is reached (what is shared counts as often as it is met; a slice's spare places count too). A statement '..UptoSaid' is the law's where the arguments, and the package variables that the reading takes, are together of bulk at most 1048576: NARROWER than '..Said'. Prove '..Said' where nothing that the law and all that it calls make is longer than what came in: it says more and counts as full. Else prove '..UptoSaid'. A law counts once. -/
mutual
def uptoBulk {H : Type} : DataW H → Nat
  | .lit (.string bytes) => bytes.length + 1
  | .lit _ => 1
  | .nil => 1
  | .ptr d => uptoBulk d + 1
  | .slice elems spare => uptoBulkAll elems + uptoBulkAll spare + 1
  | .agg parts => uptoBulkAll parts + 1
  | .iface _ d => uptoBulk d + 1
  | .map entries => uptoBulkEntries entries + 1
  | .held _ => 1
def uptoBulkAll {H : Type} : List (DataW H) → Nat
  | [] => 0
  | d :: r => uptoBulk d + uptoBulkAll r
def uptoBulkEntries {H : Type} : List (Lit × DataW H) → Nat
  | [] => 0
  | x :: r => uptoBulkEntry x + uptoBulkEntries r
def uptoBulkEntry {H : Type} : Lit × DataW H → Nat
  | (.string bytes, d) => bytes.length + uptoBulk d + 1
  | (_, d) => uptoBulk d + 1
 end
def uptoSmall : (H : Type) → List (DataW H) → Bool := fun _ ds => decide (uptoBulkAll ds ≤ 1048576)
def OpenSpec.upto (s : _root_.Go.ChangeSpec) : _root_.Go.OpenSpec := { _root_.Go.OpenSpec.ofChange s with cond := some uptoSmall }

/-- 'laws.FnChained', WHERE WHAT IT READS IS OF BULK AT MOST 1048576: true; the input reads as it did. -/
def fnChainedUptoRow : OpenClaim := { program := "ytdkgilkjcndonaa", sum := "9672dd42949ba2763009b6a4cc07d6c6d0077cfee8a4da81075ada97953996ed", func := "loop.example/g00041/laws.FnChained", spec := "fnChained", unfollowed := true, recurses := true, plainKeys := false, apart := false, narrowed := true }
def FnChainedUptoSaid : Prop := fnChainedUptoRow.holds Try.pinned (OpenSpec.upto fnChainedSpec)

/-- 'laws.FnPolicies', WHERE WHAT IT READS IS OF BULK AT MOST 1048576: true; the input reads as it did. -/
def fnPoliciesUptoRow : OpenClaim := { program := "ytdkgilkjcndonaa", sum := "9672dd42949ba2763009b6a4cc07d6c6d0077cfee8a4da81075ada97953996ed", func := "loop.example/g00041/laws.FnPolicies", spec := "fnPolicies", unfollowed := true, recurses := true, plainKeys := false, apart := false, narrowed := true }
def FnPoliciesUptoSaid : Prop := fnPoliciesUptoRow.holds Try.pinned (OpenSpec.upto fnPoliciesSpec)

/-- 'laws.FnExactPolicyHolds', WHERE WHAT IT READS IS OF BULK AT MOST 1048576: true; the input reads as it did. -/
def fnExactPolicyHoldsUptoRow : OpenClaim := { program := "ytdkgilkjcndonaa", sum := "9672dd42949ba2763009b6a4cc07d6c6d0077cfee8a4da81075ada97953996ed", func := "loop.example/g00041/laws.FnExactPolicyHolds", spec := "fnExactPolicyHolds", unfollowed := true, recurses := true, plainKeys := false, apart := false, narrowed := true }
def FnExactPolicyHoldsUptoSaid : Prop := fnExactPolicyHoldsUptoRow.holds Try.pinned (OpenSpec.upto fnExactPolicyHoldsSpec)

/-- 'laws.FnExactPathPolicies', WHERE WHAT IT READS IS OF BULK AT MOST 1048576: true; the input reads as it did. -/
def fnExactPathPoliciesUptoRow : OpenClaim := { program := "ytdkgilkjcndonaa", sum := "9672dd42949ba2763009b6a4cc07d6c6d0077cfee8a4da81075ada97953996ed", func := "loop.example/g00041/laws.FnExactPathPolicies", spec := "fnExactPathPolicies", unfollowed := true, recurses := true, plainKeys := false, apart := false, narrowed := true }
def FnExactPathPoliciesUptoSaid : Prop := fnExactPathPoliciesUptoRow.holds Try.pinned (OpenSpec.upto fnExactPathPoliciesSpec)

end Rows
end Go.Proofs.Ytdkgilkjcndonaa
