/-
  No cell of these rows narrows 'for every input' (looked for: loops, veiled, ifaces, maps, wideKeys, modest, calm, conditions, laid).
  DERIVED. THE GIVEN ROWS OF THIS SEAT. 4 by the template 'for every input the law returns true; each argument reads behind the call as it read before'; 0 by the template 'total and deterministic' (their statements: YtmmdklaajejeiaaTotals.lean).
  GIVEN WITH THE SEED: the statements are not yours to turn. If you find one false, say at which input.
  Laid BY PROGRAM, IN A SANDBOX (cutbox-rows.mjs): the forced cells as the released guide's own fill.sh prints them over the translation 04d05bbb960543c9… (all of the seat's roots in one cut). By AI agents, Wed Nov 11 2026. No macro, syntax, notation, axiom, sorry.
-/
import Derived.Test.YtmmdklaajejeiaaChecked
import GoSem.Claim
import GoSem.ClaimJoined
import GoSem.ClaimMapViews
import Derived.JoinedTies
import Derived.KernelRfl
namespace Go.Proofs.Ytmmdklaajejeiaa
/- THE CELL 'sum', in the pinned program and in every row, IS THE sha256 OF THE DUMP (.gsa) THAT YtmmdklaajejeiaaProg.lean LOADS. Nothing in Lean hashes anything: it is a label: what it is worth is what the hold of that sum in a sandbox is worth. -/
noncomputable def Try.pinned : Pinned := { name := "ytmmdklaajejeiaa", sum := "04d05bbb960543c90bb8eba3983a27ba69f5c8a31f6778e9e0d6ed8f58b81d5a", checked := Try.checked }
namespace Rows
def none {H : Type} : Left H := { results := [], args := [] }

/-- 'laws.FnNumbers': WHATEVER THE INPUT: true; the input reads as it did. -/
def fnNumbersSpec : ChangeSpec := { name := "fnNumbers", fn := fun _ => fun
  | [d] => { results := [.lit (.bool true)], args := [d] }
  | _ => none }
def fnNumbersRow : OpenClaim := { program := "ytmmdklaajejeiaa", sum := "04d05bbb960543c90bb8eba3983a27ba69f5c8a31f6778e9e0d6ed8f58b81d5a", func := "loop.example/g00041/laws.FnNumbers", spec := "fnNumbers", apart := false }
def FnNumbersSaid : Prop := fnNumbersRow.holds Try.pinned (OpenSpec.ofChange fnNumbersSpec)

/-- ITS FALSE NEIGHBOUR: 'it returns false'. Refute it at one input. -/
def fnNumbersWrong : ChangeSpec := { name := "fnNumbers", fn := fun _ => fun
  | [d] => { results := [.lit (.bool false)], args := [d] }
  | _ => none }
def FnNumbersWrongFalsely : Prop := fnNumbersRow.holds Try.pinned (OpenSpec.ofChange fnNumbersWrong)

/-- 'laws.FnHexed': WHATEVER THE INPUT: true; the input reads as it did. -/
def fnHexedSpec : ChangeSpec := { name := "fnHexed", fn := fun _ => fun
  | [d] => { results := [.lit (.bool true)], args := [d] }
  | _ => none }
def fnHexedRow : OpenClaim := { program := "ytmmdklaajejeiaa", sum := "04d05bbb960543c90bb8eba3983a27ba69f5c8a31f6778e9e0d6ed8f58b81d5a", func := "loop.example/g00041/laws.FnHexed", spec := "fnHexed", apart := false }
def FnHexedSaid : Prop := fnHexedRow.holds Try.pinned (OpenSpec.ofChange fnHexedSpec)

/-- ITS FALSE NEIGHBOUR: 'it returns false'. Refute it at one input. -/
def fnHexedWrong : ChangeSpec := { name := "fnHexed", fn := fun _ => fun
  | [d] => { results := [.lit (.bool false)], args := [d] }
  | _ => none }
def FnHexedWrongFalsely : Prop := fnHexedRow.holds Try.pinned (OpenSpec.ofChange fnHexedWrong)

/-- 'laws.FnLaid': WHATEVER THE INPUT: true; the input reads as it did. -/
def fnLaidSpec : ChangeSpec := { name := "fnLaid", fn := fun _ => fun
  | [d1, d2] => { results := [.lit (.bool true)], args := [d1, d2] }
  | _ => none }
def fnLaidRow : OpenClaim := { program := "ytmmdklaajejeiaa", sum := "04d05bbb960543c90bb8eba3983a27ba69f5c8a31f6778e9e0d6ed8f58b81d5a", func := "loop.example/g00041/laws.FnLaid", spec := "fnLaid", apart := false }
def FnLaidSaid : Prop := fnLaidRow.holds Try.pinned (OpenSpec.ofChange fnLaidSpec)

/-- ITS FALSE NEIGHBOUR: 'it returns false'. Refute it at one input. -/
def fnLaidWrong : ChangeSpec := { name := "fnLaid", fn := fun _ => fun
  | [d1, d2] => { results := [.lit (.bool false)], args := [d1, d2] }
  | _ => none }
def FnLaidWrongFalsely : Prop := fnLaidRow.holds Try.pinned (OpenSpec.ofChange fnLaidWrong)

/-- 'laws.FnTurnedByte': WHATEVER THE INPUT: true; the input reads as it did. -/
def fnTurnedByteSpec : ChangeSpec := { name := "fnTurnedByte", fn := fun _ => fun
  | [d1, d2] => { results := [.lit (.bool true)], args := [d1, d2] }
  | _ => none }
def fnTurnedByteRow : OpenClaim := { program := "ytmmdklaajejeiaa", sum := "04d05bbb960543c90bb8eba3983a27ba69f5c8a31f6778e9e0d6ed8f58b81d5a", func := "loop.example/g00041/laws.FnTurnedByte", spec := "fnTurnedByte", apart := false }
def FnTurnedByteSaid : Prop := fnTurnedByteRow.holds Try.pinned (OpenSpec.ofChange fnTurnedByteSpec)

/-- ITS FALSE NEIGHBOUR: 'it returns false'. Refute it at one input. -/
def fnTurnedByteWrong : ChangeSpec := { name := "fnTurnedByte", fn := fun _ => fun
  | [d1, d2] => { results := [.lit (.bool false)], args := [d1, d2] }
  | _ => none }
def FnTurnedByteWrongFalsely : Prop := fnTurnedByteRow.holds Try.pinned (OpenSpec.ofChange fnTurnedByteWrong)

/- THE SECOND FORM. 'bulk': how many values and letters a reading holds, each counted each time it is reached (what is shared counts as often as it is met; a slice's spare places count too). A statement '..UptoSaid' is the law's where the arguments, and the package variables that the reading takes, are together of bulk at most 1048576: NARROWER than '..Said'. Prove '..Said' where nothing that the law and all that it calls make is longer than what came in: it says more and counts as full. Else prove '..UptoSaid'. A law counts once. -/
mutual
def uptoBulk {H : Type} : DataW H → Nat
  | .lit (.string bytes) => bytes.length + 1
  | .lit _ => 1
  | .nil => 1
  | .ptr d => uptoBulk d + 1
  | .slice elems spare => uptoBulkAll elems + uptoBulkAll spare + 1
  | .agg parts => uptoBulkAll parts + 1
  | .iface _ d => uptoBulk d + 1
  | .map entries => uptoBulkEntries entries + 1
  | .held _ => 1
def uptoBulkAll {H : Type} : List (DataW H) → Nat
  | [] => 0
  | d :: r => uptoBulk d + uptoBulkAll r
def uptoBulkEntries {H : Type} : List (Lit × DataW H) → Nat
  | [] => 0
  | x :: r => uptoBulkEntry x + uptoBulkEntries r
def uptoBulkEntry {H : Type} : Lit × DataW H → Nat
  | (.string bytes, d) => bytes.length + uptoBulk d + 1
  | (_, d) => uptoBulk d + 1
 end
def uptoSmall : (H : Type) → List (DataW H) → Bool := fun _ ds => decide (uptoBulkAll ds ≤ 1048576)
def OpenSpec.upto (s : _root_.Go.ChangeSpec) : _root_.Go.OpenSpec := { _root_.Go.OpenSpec.ofChange s with cond := some uptoSmall }

/-- 'laws.FnNumbers', WHERE WHAT IT READS IS OF BULK AT MOST 1048576: true; the input reads as it did. -/
def fnNumbersUptoRow : OpenClaim := { program := "ytmmdklaajejeiaa", sum := "04d05bbb960543c90bb8eba3983a27ba69f5c8a31f6778e9e0d6ed8f58b81d5a", func := "loop.example/g00041/laws.FnNumbers", spec := "fnNumbers", apart := false, narrowed := true }
def FnNumbersUptoSaid : Prop := fnNumbersUptoRow.holds Try.pinned (OpenSpec.upto fnNumbersSpec)

/-- 'laws.FnHexed', WHERE WHAT IT READS IS OF BULK AT MOST 1048576: true; the input reads as it did. -/
def fnHexedUptoRow : OpenClaim := { program := "ytmmdklaajejeiaa", sum := "04d05bbb960543c90bb8eba3983a27ba69f5c8a31f6778e9e0d6ed8f58b81d5a", func := "loop.example/g00041/laws.FnHexed", spec := "fnHexed", apart := false, narrowed := true }
def FnHexedUptoSaid : Prop := fnHexedUptoRow.holds Try.pinned (OpenSpec.upto fnHexedSpec)

/-- 'laws.FnLaid', WHERE WHAT IT READS IS OF BULK AT MOST 1048576: true; the input reads as it did. -/
def fnLaidUptoRow : OpenClaim := { program := "ytmmdklaajejeiaa", sum := "04d05bbb960543c90bb8eba3983a27ba69f5c8a31f6778e9e0d6ed8f58b81d5a", func := "loop.example/g00041/laws.FnLaid", spec := "fnLaid", apart := false, narrowed := true }
def FnLaidUptoSaid : Prop := fnLaidUptoRow.holds Try.pinned (OpenSpec.upto fnLaidSpec)

/-- 'laws.FnTurnedByte', WHERE WHAT IT READS IS OF BULK AT MOST 1048576: true; the input reads as it did. -/
def fnTurnedByteUptoRow : OpenClaim := { program := "ytmmdklaajejeiaa", sum := "04d05bbb960543c90bb8eba3983a27ba69f5c8a31f6778e9e0d6ed8f58b81d5a", func := "loop.example/g00041/laws.FnTurnedByte", spec := "fnTurnedByte", apart := false, narrowed := true }
def FnTurnedByteUptoSaid : Prop := fnTurnedByteUptoRow.holds Try.pinned (OpenSpec.upto fnTurnedByteSpec)

end Rows
end Go.Proofs.Ytmmdklaajejeiaa
