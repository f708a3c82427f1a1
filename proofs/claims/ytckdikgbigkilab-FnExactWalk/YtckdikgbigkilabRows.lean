/-
  NARROWER THAN 'FOR EVERY INPUT', by the rows' own cells (each row's printed sentence says how): FnExactItemOk: loops · FnExactItemBytes: loops · FnExactWalk: loops.
  DERIVED. THE GIVEN ROWS OF THIS SEAT. 4 by the template 'for every input the law returns true; each argument reads behind the call as it read before'; 0 by the template 'total and deterministic' (their statements: YtckdikgbigkilabTotals.lean).
  GIVEN WITH THE SEED: the statements are not yours to turn. If you find one false, say at which input.
  Laid BY PROGRAM, IN A SANDBOX (cutbox-rows.mjs): the forced cells as the released guide's own fill.sh prints them over the translation 9b74b14b16d69732… (all of the seat's roots in one cut). By AI agents, Wed Nov 11 2026. No macro, syntax, notation, axiom, sorry.
-/
import Derived.Test.YtckdikgbigkilabChecked
import GoSem.Claim
import GoSem.ClaimJoined
import GoSem.ClaimMapViews
import Derived.JoinedTies
import Derived.KernelRfl
namespace Go.Proofs.Ytckdikgbigkilab
/- THE CELL 'sum', in the pinned program and in every row, IS THE sha256 OF THE DUMP (.gsa) THAT YtckdikgbigkilabProg.lean LOADS. Nothing in Lean hashes anything: it is a label: what it is worth is what the hold of that sum in a sandbox is worth. -/
noncomputable def Try.pinned : Pinned := { name := "ytckdikgbigkilab", sum := "9b74b14b16d6973211024af1c7ec374081d28a478dfe421f5cd9acc76596c08f", checked := Try.checked }
namespace Rows
def none {H : Type} : Left H := { results := [], args := [] }

/-- 'laws.FnExactXor': WHATEVER THE INPUT: true; the input reads as it did. -/
def fnExactXorSpec : ChangeSpec := { name := "fnExactXor", fn := fun _ => fun
  | [d1, d2] => { results := [.lit (.bool true)], args := [d1, d2] }
  | _ => none }
def fnExactXorRow : OpenClaim := { program := "ytckdikgbigkilab", sum := "9b74b14b16d6973211024af1c7ec374081d28a478dfe421f5cd9acc76596c08f", func := "loop.example/g00041/laws.FnExactXor", spec := "fnExactXor", apart := false }
def FnExactXorSaid : Prop := fnExactXorRow.holds Try.pinned (OpenSpec.ofChange fnExactXorSpec)

/-- ITS FALSE NEIGHBOUR: 'it returns false'. Refute it at one input. -/
def fnExactXorWrong : ChangeSpec := { name := "fnExactXor", fn := fun _ => fun
  | [d1, d2] => { results := [.lit (.bool false)], args := [d1, d2] }
  | _ => none }
def FnExactXorWrongFalsely : Prop := fnExactXorRow.holds Try.pinned (OpenSpec.ofChange fnExactXorWrong)

/-- 'laws.FnExactItemOk': WHATEVER THE INPUT: true; the input reads as it did. -/
def fnExactItemOkSpec : ChangeSpec := { name := "fnExactItemOk", fn := fun _ => fun
  | [d] => { results := [.lit (.bool true)], args := [d] }
  | _ => none }
def fnExactItemOkRow : OpenClaim := { program := "ytckdikgbigkilab", sum := "9b74b14b16d6973211024af1c7ec374081d28a478dfe421f5cd9acc76596c08f", func := "loop.example/g00041/laws.FnExactItemOk", spec := "fnExactItemOk", recurses := true, loops := true, apart := false }
def FnExactItemOkSaid : Prop := fnExactItemOkRow.holds Try.pinned (OpenSpec.ofChange fnExactItemOkSpec)

/-- ITS FALSE NEIGHBOUR: 'it returns false'. Refute it at one input. -/
def fnExactItemOkWrong : ChangeSpec := { name := "fnExactItemOk", fn := fun _ => fun
  | [d] => { results := [.lit (.bool false)], args := [d] }
  | _ => none }
def FnExactItemOkWrongFalsely : Prop := fnExactItemOkRow.holds Try.pinned (OpenSpec.ofChange fnExactItemOkWrong)

/-- 'laws.FnExactItemBytes': WHATEVER THE INPUT: true; the input reads as it did. -/
def fnExactItemBytesSpec : ChangeSpec := { name := "fnExactItemBytes", fn := fun _ => fun
  | [d] => { results := [.lit (.bool true)], args := [d] }
  | _ => none }
def fnExactItemBytesRow : OpenClaim := { program := "ytckdikgbigkilab", sum := "9b74b14b16d6973211024af1c7ec374081d28a478dfe421f5cd9acc76596c08f", func := "loop.example/g00041/laws.FnExactItemBytes", spec := "fnExactItemBytes", recurses := true, loops := true, apart := false }
def FnExactItemBytesSaid : Prop := fnExactItemBytesRow.holds Try.pinned (OpenSpec.ofChange fnExactItemBytesSpec)

/-- ITS FALSE NEIGHBOUR: 'it returns false'. Refute it at one input. -/
def fnExactItemBytesWrong : ChangeSpec := { name := "fnExactItemBytes", fn := fun _ => fun
  | [d] => { results := [.lit (.bool false)], args := [d] }
  | _ => none }
def FnExactItemBytesWrongFalsely : Prop := fnExactItemBytesRow.holds Try.pinned (OpenSpec.ofChange fnExactItemBytesWrong)

/-- 'laws.FnExactWalk': WHATEVER THE INPUT: true; the input reads as it did. -/
def fnExactWalkSpec : ChangeSpec := { name := "fnExactWalk", fn := fun _ => fun
  | [d1, d2] => { results := [.lit (.bool true)], args := [d1, d2] }
  | _ => none }
def fnExactWalkRow : OpenClaim := { program := "ytckdikgbigkilab", sum := "9b74b14b16d6973211024af1c7ec374081d28a478dfe421f5cd9acc76596c08f", func := "loop.example/g00041/laws.FnExactWalk", spec := "fnExactWalk", recurses := true, loops := true, apart := false }
def FnExactWalkSaid : Prop := fnExactWalkRow.holds Try.pinned (OpenSpec.ofChange fnExactWalkSpec)

/-- ITS FALSE NEIGHBOUR: 'it returns false'. Refute it at one input. -/
def fnExactWalkWrong : ChangeSpec := { name := "fnExactWalk", fn := fun _ => fun
  | [d1, d2] => { results := [.lit (.bool false)], args := [d1, d2] }
  | _ => none }
def FnExactWalkWrongFalsely : Prop := fnExactWalkRow.holds Try.pinned (OpenSpec.ofChange fnExactWalkWrong)

/- THE SECOND FORM. 'bulk': how many values and letters a reading holds, each counted each time it is reached (what is shared counts as often as it is met; a slice's spare places count too). A statement '..UptoSaid' is the law's where the arguments, and the package variables that the reading takes, are together of bulk at most 1048576: NARROWER than '..Said'. Prove '..Said' where nothing that the law and all that it calls make is longer than what came in: it says more and counts as full. Else prove '..UptoSaid'. A law counts once. -/
mutual
def uptoBulk {H : Type} : DataW H → Nat
  | .lit (.string bytes) => bytes.length + 1
  | .lit _ => 1
  | .nil => 1
  | .ptr d => uptoBulk d + 1
  | .slice elems spare => uptoBulkAll elems + uptoBulkAll spare + 1
  | .agg parts => uptoBulkAll parts + 1
  | .iface _ d => uptoBulk d + 1
  | .map entries => uptoBulkEntries entries + 1
  | .held _ => 1
def uptoBulkAll {H : Type} : List (DataW H) → Nat
  | [] => 0
  | d :: r => uptoBulk d + uptoBulkAll r
def uptoBulkEntries {H : Type} : List (Lit × DataW H) → Nat
  | [] => 0
  | x :: r => uptoBulkEntry x + uptoBulkEntries r
def uptoBulkEntry {H : Type} : Lit × DataW H → Nat
  | (.string bytes, d) => bytes.length + uptoBulk d + 1
  | (_, d) => uptoBulk d + 1
 end
def uptoSmall : (H : Type) → List (DataW H) → Bool := fun _ ds => decide (uptoBulkAll ds ≤ 1048576)
def OpenSpec.upto (s : _root_.Go.ChangeSpec) : _root_.Go.OpenSpec := { _root_.Go.OpenSpec.ofChange s with cond := some uptoSmall }

/-- 'laws.FnExactXor', WHERE WHAT IT READS IS OF BULK AT MOST 1048576: true; the input reads as it did. -/
def fnExactXorUptoRow : OpenClaim := { program := "ytckdikgbigkilab", sum := "9b74b14b16d6973211024af1c7ec374081d28a478dfe421f5cd9acc76596c08f", func := "loop.example/g00041/laws.FnExactXor", spec := "fnExactXor", apart := false, narrowed := true }
def FnExactXorUptoSaid : Prop := fnExactXorUptoRow.holds Try.pinned (OpenSpec.upto fnExactXorSpec)

/-- 'laws.FnExactItemOk', WHERE WHAT IT READS IS OF BULK AT MOST 1048576: true; the input reads as it did. -/
def fnExactItemOkUptoRow : OpenClaim := { program := "ytckdikgbigkilab", sum := "9b74b14b16d6973211024af1c7ec374081d28a478dfe421f5cd9acc76596c08f", func := "loop.example/g00041/laws.FnExactItemOk", spec := "fnExactItemOk", recurses := true, loops := true, apart := false, narrowed := true }
def FnExactItemOkUptoSaid : Prop := fnExactItemOkUptoRow.holds Try.pinned (OpenSpec.upto fnExactItemOkSpec)

/-- 'laws.FnExactItemBytes', WHERE WHAT IT READS IS OF BULK AT MOST 1048576: true; the input reads as it did. -/
def fnExactItemBytesUptoRow : OpenClaim := { program := "ytckdikgbigkilab", sum := "9b74b14b16d6973211024af1c7ec374081d28a478dfe421f5cd9acc76596c08f", func := "loop.example/g00041/laws.FnExactItemBytes", spec := "fnExactItemBytes", recurses := true, loops := true, apart := false, narrowed := true }
def FnExactItemBytesUptoSaid : Prop := fnExactItemBytesUptoRow.holds Try.pinned (OpenSpec.upto fnExactItemBytesSpec)

/-- 'laws.FnExactWalk', WHERE WHAT IT READS IS OF BULK AT MOST 1048576: true; the input reads as it did. -/
def fnExactWalkUptoRow : OpenClaim := { program := "ytckdikgbigkilab", sum := "9b74b14b16d6973211024af1c7ec374081d28a478dfe421f5cd9acc76596c08f", func := "loop.example/g00041/laws.FnExactWalk", spec := "fnExactWalk", recurses := true, loops := true, apart := false, narrowed := true }
def FnExactWalkUptoSaid : Prop := fnExactWalkUptoRow.holds Try.pinned (OpenSpec.upto fnExactWalkSpec)

end Rows
end Go.Proofs.Ytckdikgbigkilab
