/-
  No cell of these rows narrows 'for every input' (looked for: loops, veiled, ifaces, maps, wideKeys, modest, calm, conditions, laid).
  DERIVED. THE GIVEN ROWS OF THIS SEAT. 5 by the template 'for every input the law returns true; each argument reads behind the call as it read before'; 0 by the template 'total and deterministic' (their statements: YtmggaegjfkpjoaaTotals.lean).
  GIVEN WITH THE SEED: the statements are not yours to turn. If you find one false, say at which input.
  Laid BY PROGRAM, IN A SANDBOX (cutbox-rows.mjs): the forced cells as the released guide's own fill.sh prints them over the translation f253d97df7939d39… (all of the seat's roots in one cut). By AI agents, Wed Nov 11 2026. No macro, syntax, notation, axiom, sorry.
-/
import Derived.Test.YtmggaegjfkpjoaaChecked
import GoSem.Claim
import GoSem.ClaimJoined
import GoSem.ClaimMapViews
import Derived.JoinedTies
import Derived.KernelRfl
namespace Go.Proofs.Ytmggaegjfkpjoaa
/- THE CELL 'sum', in the pinned program and in every row, IS THE sha256 OF THE DUMP (.gsa) THAT YtmggaegjfkpjoaaProg.lean LOADS. Nothing in Lean hashes anything: it is a label: what it is worth is what the hold of that sum in a sandbox is worth. -/
noncomputable def Try.pinned : Pinned := { name := "ytmggaegjfkpjoaa", sum := "f253d97df7939d397823a32acddfbc55280606710a7366ba6c01b10e941d4e0b", checked := Try.checked }
namespace Rows
def none {H : Type} : Left H := { results := [], args := [] }

/-- 'laws.FnExactTreeSign': WHATEVER THE INPUT: true; the input reads as it did. -/
def fnExactTreeSignSpec : ChangeSpec := { name := "fnExactTreeSign", fn := fun _ => fun
  | [d1, d2] => { results := [.lit (.bool true)], args := [d1, d2] }
  | _ => none }
def fnExactTreeSignRow : OpenClaim := { program := "ytmggaegjfkpjoaa", sum := "f253d97df7939d397823a32acddfbc55280606710a7366ba6c01b10e941d4e0b", func := "loop.example/g00041/laws.FnExactTreeSign", spec := "fnExactTreeSign", unfollowed := true, recurses := true, apart := false }
def FnExactTreeSignSaid : Prop := fnExactTreeSignRow.holds Try.pinned (OpenSpec.ofChange fnExactTreeSignSpec)

/-- ITS FALSE NEIGHBOUR: 'it returns false'. Refute it at one input. -/
def fnExactTreeSignWrong : ChangeSpec := { name := "fnExactTreeSign", fn := fun _ => fun
  | [d1, d2] => { results := [.lit (.bool false)], args := [d1, d2] }
  | _ => none }
def FnExactTreeSignWrongFalsely : Prop := fnExactTreeSignRow.holds Try.pinned (OpenSpec.ofChange fnExactTreeSignWrong)

/-- 'laws.FnExactTreeVerify': WHATEVER THE INPUT: true; the input reads as it did. -/
def fnExactTreeVerifySpec : ChangeSpec := { name := "fnExactTreeVerify", fn := fun _ => fun
  | [d1, d2, d3, d4] => { results := [.lit (.bool true)], args := [d1, d2, d3, d4] }
  | _ => none }
def fnExactTreeVerifyRow : OpenClaim := { program := "ytmggaegjfkpjoaa", sum := "f253d97df7939d397823a32acddfbc55280606710a7366ba6c01b10e941d4e0b", func := "loop.example/g00041/laws.FnExactTreeVerify", spec := "fnExactTreeVerify", apart := false }
def FnExactTreeVerifySaid : Prop := fnExactTreeVerifyRow.holds Try.pinned (OpenSpec.ofChange fnExactTreeVerifySpec)

/-- ITS FALSE NEIGHBOUR: 'it returns false'. Refute it at one input. -/
def fnExactTreeVerifyWrong : ChangeSpec := { name := "fnExactTreeVerify", fn := fun _ => fun
  | [d1, d2, d3, d4] => { results := [.lit (.bool false)], args := [d1, d2, d3, d4] }
  | _ => none }
def FnExactTreeVerifyWrongFalsely : Prop := fnExactTreeVerifyRow.holds Try.pinned (OpenSpec.ofChange fnExactTreeVerifyWrong)

/-- 'laws.FnExactSignAny': WHATEVER THE INPUT: true; the input reads as it did. -/
def fnExactSignAnySpec : ChangeSpec := { name := "fnExactSignAny", fn := fun _ => fun
  | [d1, d2] => { results := [.lit (.bool true)], args := [d1, d2] }
  | _ => none }
def fnExactSignAnyRow : OpenClaim := { program := "ytmggaegjfkpjoaa", sum := "f253d97df7939d397823a32acddfbc55280606710a7366ba6c01b10e941d4e0b", func := "loop.example/g00041/laws.FnExactSignAny", spec := "fnExactSignAny", unfollowed := true, recurses := true, apart := false }
def FnExactSignAnySaid : Prop := fnExactSignAnyRow.holds Try.pinned (OpenSpec.ofChange fnExactSignAnySpec)

/-- ITS FALSE NEIGHBOUR: 'it returns false'. Refute it at one input. -/
def fnExactSignAnyWrong : ChangeSpec := { name := "fnExactSignAny", fn := fun _ => fun
  | [d1, d2] => { results := [.lit (.bool false)], args := [d1, d2] }
  | _ => none }
def FnExactSignAnyWrongFalsely : Prop := fnExactSignAnyRow.holds Try.pinned (OpenSpec.ofChange fnExactSignAnyWrong)

/-- 'laws.FnExactVerifyAny': WHATEVER THE INPUT: true; the input reads as it did. -/
def fnExactVerifyAnySpec : ChangeSpec := { name := "fnExactVerifyAny", fn := fun _ => fun
  | [d1, d2, d3] => { results := [.lit (.bool true)], args := [d1, d2, d3] }
  | _ => none }
def fnExactVerifyAnyRow : OpenClaim := { program := "ytmggaegjfkpjoaa", sum := "f253d97df7939d397823a32acddfbc55280606710a7366ba6c01b10e941d4e0b", func := "loop.example/g00041/laws.FnExactVerifyAny", spec := "fnExactVerifyAny", unfollowed := true, recurses := true, apart := false }
def FnExactVerifyAnySaid : Prop := fnExactVerifyAnyRow.holds Try.pinned (OpenSpec.ofChange fnExactVerifyAnySpec)

/-- ITS FALSE NEIGHBOUR: 'it returns false'. Refute it at one input. -/
def fnExactVerifyAnyWrong : ChangeSpec := { name := "fnExactVerifyAny", fn := fun _ => fun
  | [d1, d2, d3] => { results := [.lit (.bool false)], args := [d1, d2, d3] }
  | _ => none }
def FnExactVerifyAnyWrongFalsely : Prop := fnExactVerifyAnyRow.holds Try.pinned (OpenSpec.ofChange fnExactVerifyAnyWrong)

/-- 'laws.FnExactKeyId': WHATEVER THE INPUT: true; the input reads as it did. -/
def fnExactKeyIdSpec : ChangeSpec := { name := "fnExactKeyId", fn := fun _ => fun
  | [d] => { results := [.lit (.bool true)], args := [d] }
  | _ => none }
def fnExactKeyIdRow : OpenClaim := { program := "ytmggaegjfkpjoaa", sum := "f253d97df7939d397823a32acddfbc55280606710a7366ba6c01b10e941d4e0b", func := "loop.example/g00041/laws.FnExactKeyId", spec := "fnExactKeyId", apart := false }
def FnExactKeyIdSaid : Prop := fnExactKeyIdRow.holds Try.pinned (OpenSpec.ofChange fnExactKeyIdSpec)

/-- ITS FALSE NEIGHBOUR: 'it returns false'. Refute it at one input. -/
def fnExactKeyIdWrong : ChangeSpec := { name := "fnExactKeyId", fn := fun _ => fun
  | [d] => { results := [.lit (.bool false)], args := [d] }
  | _ => none }
def FnExactKeyIdWrongFalsely : Prop := fnExactKeyIdRow.holds Try.pinned (OpenSpec.ofChange fnExactKeyIdWrong)

/- THE SECOND FORM. 'bulk': how many values and letters a reading holds, each counted each time it is reached (what is shared counts as often as it is met; a slice's spare places count too). A statement '..UptoSaid' is the law's where the arguments, and the package variables that the reading takes, are together of bulk at most 1048576: NARROWER than '..Said'. Prove '..Said' where nothing that the law and all that it calls make is longer than what came in: it says more and counts as full. Else prove '..UptoSaid'. A law counts once. -/
mutual
def uptoBulk {H : Type} : DataW H → Nat
  | .lit (.string bytes) => bytes.length + 1
  | .lit _ => 1
  | .nil => 1
  | .ptr d => uptoBulk d + 1
  | .slice elems spare => uptoBulkAll elems + uptoBulkAll spare + 1
  | .agg parts => uptoBulkAll parts + 1
  | .iface _ d => uptoBulk d + 1
  | .map entries => uptoBulkEntries entries + 1
  | .held _ => 1
def uptoBulkAll {H : Type} : List (DataW H) → Nat
  | [] => 0
  | d :: r => uptoBulk d + uptoBulkAll r
def uptoBulkEntries {H : Type} : List (Lit × DataW H) → Nat
  | [] => 0
  | x :: r => uptoBulkEntry x + uptoBulkEntries r
def uptoBulkEntry {H : Type} : Lit × DataW H → Nat
  | (.string bytes, d) => bytes.length + uptoBulk d + 1
  | (_, d) => uptoBulk d + 1
 end
def uptoSmall : (H : Type) → List (DataW H) → Bool := fun _ ds => decide (uptoBulkAll ds ≤ 1048576)
def OpenSpec.upto (s : _root_.Go.ChangeSpec) : _root_.Go.OpenSpec := { _root_.Go.OpenSpec.ofChange s with cond := some uptoSmall }

/-- 'laws.FnExactTreeSign', WHERE WHAT IT READS IS OF BULK AT MOST 1048576: true; the input reads as it did. -/
def fnExactTreeSignUptoRow : OpenClaim := { program := "ytmggaegjfkpjoaa", sum := "f253d97df7939d397823a32acddfbc55280606710a7366ba6c01b10e941d4e0b", func := "loop.example/g00041/laws.FnExactTreeSign", spec := "fnExactTreeSign", unfollowed := true, recurses := true, apart := false, narrowed := true }
def FnExactTreeSignUptoSaid : Prop := fnExactTreeSignUptoRow.holds Try.pinned (OpenSpec.upto fnExactTreeSignSpec)

/-- 'laws.FnExactTreeVerify', WHERE WHAT IT READS IS OF BULK AT MOST 1048576: true; the input reads as it did. -/
def fnExactTreeVerifyUptoRow : OpenClaim := { program := "ytmggaegjfkpjoaa", sum := "f253d97df7939d397823a32acddfbc55280606710a7366ba6c01b10e941d4e0b", func := "loop.example/g00041/laws.FnExactTreeVerify", spec := "fnExactTreeVerify", apart := false, narrowed := true }
def FnExactTreeVerifyUptoSaid : Prop := fnExactTreeVerifyUptoRow.holds Try.pinned (OpenSpec.upto fnExactTreeVerifySpec)

/-- 'laws.FnExactSignAny', WHERE WHAT IT READS IS OF BULK AT MOST 1048576: true; the input reads as it did. -/
def fnExactSignAnyUptoRow : OpenClaim := { program := "ytmggaegjfkpjoaa", sum := "f253d97df7939d397823a32acddfbc55280606710a7366ba6c01b10e941d4e0b", func := "loop.example/g00041/laws.FnExactSignAny", spec := "fnExactSignAny", unfollowed := true, recurses := true, apart := false, narrowed := true }
def FnExactSignAnyUptoSaid : Prop := fnExactSignAnyUptoRow.holds Try.pinned (OpenSpec.upto fnExactSignAnySpec)

/-- 'laws.FnExactVerifyAny', WHERE WHAT IT READS IS OF BULK AT MOST 1048576: true; the input reads as it did. -/
def fnExactVerifyAnyUptoRow : OpenClaim := { program := "ytmggaegjfkpjoaa", sum := "f253d97df7939d397823a32acddfbc55280606710a7366ba6c01b10e941d4e0b", func := "loop.example/g00041/laws.FnExactVerifyAny", spec := "fnExactVerifyAny", unfollowed := true, recurses := true, apart := false, narrowed := true }
def FnExactVerifyAnyUptoSaid : Prop := fnExactVerifyAnyUptoRow.holds Try.pinned (OpenSpec.upto fnExactVerifyAnySpec)

/-- 'laws.FnExactKeyId', WHERE WHAT IT READS IS OF BULK AT MOST 1048576: true; the input reads as it did. -/
def fnExactKeyIdUptoRow : OpenClaim := { program := "ytmggaegjfkpjoaa", sum := "f253d97df7939d397823a32acddfbc55280606710a7366ba6c01b10e941d4e0b", func := "loop.example/g00041/laws.FnExactKeyId", spec := "fnExactKeyId", apart := false, narrowed := true }
def FnExactKeyIdUptoSaid : Prop := fnExactKeyIdUptoRow.holds Try.pinned (OpenSpec.upto fnExactKeyIdSpec)

end Rows
end Go.Proofs.Ytmggaegjfkpjoaa
