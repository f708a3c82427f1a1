/-
  No cell of these rows narrows 'for every input' (looked for: loops, veiled, ifaces, maps, wideKeys, modest, calm, conditions, laid).
  DERIVED. THE GIVEN ROWS OF THIS SEAT. 5 by the template 'for every input the law returns true; each argument reads behind the call as it read before'; 0 by the template 'total and deterministic' (their statements: YtochaopoggempaaTotals.lean).
  GIVEN WITH THE SEED: the statements are not yours to turn. If you find one false, say at which input.
  Laid BY PROGRAM, IN A SANDBOX (cutbox-rows.mjs): the forced cells as the released guide's own fill.sh prints them over the translation e1e46088874c77c7… (all of the seat's roots in one cut). By AI agents, Wed Nov 11 2026. No macro, syntax, notation, axiom, sorry.
-/
import Derived.Test.YtochaopoggempaaChecked
import GoSem.Claim
import GoSem.ClaimJoined
import GoSem.ClaimMapViews
import Derived.JoinedTies
import Derived.KernelRfl
namespace Go.Proofs.Ytochaopoggempaa
/- THE CELL 'sum', in the pinned program and in every row, IS THE sha256 OF THE DUMP (.gsa) THAT YtochaopoggempaaProg.lean LOADS. Nothing in Lean hashes anything: it is a label: what it is worth is what the hold of that sum in a sandbox is worth. -/
noncomputable def Try.pinned : Pinned := { name := "ytochaopoggempaa", sum := "e1e46088874c77c77e9a72d0457e554cdc0c16103fee375deb6ad601a71e37ce", checked := Try.checked }
namespace Rows
def none {H : Type} : Left H := { results := [], args := [] }

/-- 'laws.FnExactDigestBy': WHATEVER THE INPUT: true; the input reads as it did. -/
def fnExactDigestBySpec : ChangeSpec := { name := "fnExactDigestBy", fn := fun _ => fun
  | [d1, d2] => { results := [.lit (.bool true)], args := [d1, d2] }
  | _ => none }
def fnExactDigestByRow : OpenClaim := { program := "ytochaopoggempaa", sum := "e1e46088874c77c77e9a72d0457e554cdc0c16103fee375deb6ad601a71e37ce", func := "loop.example/g00041/laws.FnExactDigestBy", spec := "fnExactDigestBy", apart := false }
def FnExactDigestBySaid : Prop := fnExactDigestByRow.holds Try.pinned (OpenSpec.ofChange fnExactDigestBySpec)

/-- ITS FALSE NEIGHBOUR: 'it returns false'. Refute it at one input. -/
def fnExactDigestByWrong : ChangeSpec := { name := "fnExactDigestBy", fn := fun _ => fun
  | [d1, d2] => { results := [.lit (.bool false)], args := [d1, d2] }
  | _ => none }
def FnExactDigestByWrongFalsely : Prop := fnExactDigestByRow.holds Try.pinned (OpenSpec.ofChange fnExactDigestByWrong)

/-- 'laws.FnExactLock': WHATEVER THE INPUT: true; the input reads as it did. -/
def fnExactLockSpec : ChangeSpec := { name := "fnExactLock", fn := fun _ => fun
  | [d1, d2, d3, d4] => { results := [.lit (.bool true)], args := [d1, d2, d3, d4] }
  | _ => none }
def fnExactLockRow : OpenClaim := { program := "ytochaopoggempaa", sum := "e1e46088874c77c77e9a72d0457e554cdc0c16103fee375deb6ad601a71e37ce", func := "loop.example/g00041/laws.FnExactLock", spec := "fnExactLock", apart := false }
def FnExactLockSaid : Prop := fnExactLockRow.holds Try.pinned (OpenSpec.ofChange fnExactLockSpec)

/-- ITS FALSE NEIGHBOUR: 'it returns false'. Refute it at one input. -/
def fnExactLockWrong : ChangeSpec := { name := "fnExactLock", fn := fun _ => fun
  | [d1, d2, d3, d4] => { results := [.lit (.bool false)], args := [d1, d2, d3, d4] }
  | _ => none }
def FnExactLockWrongFalsely : Prop := fnExactLockRow.holds Try.pinned (OpenSpec.ofChange fnExactLockWrong)

/-- 'laws.FnExactUnlock': WHATEVER THE INPUT: true; the input reads as it did. -/
def fnExactUnlockSpec : ChangeSpec := { name := "fnExactUnlock", fn := fun _ => fun
  | [d1, d2] => { results := [.lit (.bool true)], args := [d1, d2] }
  | _ => none }
def fnExactUnlockRow : OpenClaim := { program := "ytochaopoggempaa", sum := "e1e46088874c77c77e9a72d0457e554cdc0c16103fee375deb6ad601a71e37ce", func := "loop.example/g00041/laws.FnExactUnlock", spec := "fnExactUnlock", apart := false }
def FnExactUnlockSaid : Prop := fnExactUnlockRow.holds Try.pinned (OpenSpec.ofChange fnExactUnlockSpec)

/-- ITS FALSE NEIGHBOUR: 'it returns false'. Refute it at one input. -/
def fnExactUnlockWrong : ChangeSpec := { name := "fnExactUnlock", fn := fun _ => fun
  | [d1, d2] => { results := [.lit (.bool false)], args := [d1, d2] }
  | _ => none }
def FnExactUnlockWrongFalsely : Prop := fnExactUnlockRow.holds Try.pinned (OpenSpec.ofChange fnExactUnlockWrong)

/-- 'laws.FnExactSealMsg': WHATEVER THE INPUT: true; the input reads as it did. -/
def fnExactSealMsgSpec : ChangeSpec := { name := "fnExactSealMsg", fn := fun _ => fun
  | [d1, d2, d3] => { results := [.lit (.bool true)], args := [d1, d2, d3] }
  | _ => none }
def fnExactSealMsgRow : OpenClaim := { program := "ytochaopoggempaa", sum := "e1e46088874c77c77e9a72d0457e554cdc0c16103fee375deb6ad601a71e37ce", func := "loop.example/g00041/laws.FnExactSealMsg", spec := "fnExactSealMsg", unfollowed := true, recurses := true, apart := false }
def FnExactSealMsgSaid : Prop := fnExactSealMsgRow.holds Try.pinned (OpenSpec.ofChange fnExactSealMsgSpec)

/-- ITS FALSE NEIGHBOUR: 'it returns false'. Refute it at one input. -/
def fnExactSealMsgWrong : ChangeSpec := { name := "fnExactSealMsg", fn := fun _ => fun
  | [d1, d2, d3] => { results := [.lit (.bool false)], args := [d1, d2, d3] }
  | _ => none }
def FnExactSealMsgWrongFalsely : Prop := fnExactSealMsgRow.holds Try.pinned (OpenSpec.ofChange fnExactSealMsgWrong)

/-- 'laws.FnExactOpenMsg': WHATEVER THE INPUT: true; the input reads as it did. -/
def fnExactOpenMsgSpec : ChangeSpec := { name := "fnExactOpenMsg", fn := fun _ => fun
  | [d1, d2] => { results := [.lit (.bool true)], args := [d1, d2] }
  | _ => none }
def fnExactOpenMsgRow : OpenClaim := { program := "ytochaopoggempaa", sum := "e1e46088874c77c77e9a72d0457e554cdc0c16103fee375deb6ad601a71e37ce", func := "loop.example/g00041/laws.FnExactOpenMsg", spec := "fnExactOpenMsg", unfollowed := true, recurses := true, apart := false }
def FnExactOpenMsgSaid : Prop := fnExactOpenMsgRow.holds Try.pinned (OpenSpec.ofChange fnExactOpenMsgSpec)

/-- ITS FALSE NEIGHBOUR: 'it returns false'. Refute it at one input. -/
def fnExactOpenMsgWrong : ChangeSpec := { name := "fnExactOpenMsg", fn := fun _ => fun
  | [d1, d2] => { results := [.lit (.bool false)], args := [d1, d2] }
  | _ => none }
def FnExactOpenMsgWrongFalsely : Prop := fnExactOpenMsgRow.holds Try.pinned (OpenSpec.ofChange fnExactOpenMsgWrong)

/- THE SECOND FORM. 'bulk': how many values and letters a reading holds, each counted each time it is reached (what is shared counts as often as it is met; a slice's spare places count too). A statement '..UptoSaid' is the law's where the arguments, and the package variables that the reading takes, are together of bulk at most 1048576: NARROWER than '..Said'. Prove '..Said' where nothing that the law and all that it calls make is longer than what came in: it says more and counts as full. Else prove '..UptoSaid'. A law counts once. -/
mutual
def uptoBulk {H : Type} : DataW H → Nat
  | .lit (.string bytes) => bytes.length + 1
  | .lit _ => 1
  | .nil => 1
  | .ptr d => uptoBulk d + 1
  | .slice elems spare => uptoBulkAll elems + uptoBulkAll spare + 1
  | .agg parts => uptoBulkAll parts + 1
  | .iface _ d => uptoBulk d + 1
  | .map entries => uptoBulkEntries entries + 1
  | .held _ => 1
def uptoBulkAll {H : Type} : List (DataW H) → Nat
  | [] => 0
  | d :: r => uptoBulk d + uptoBulkAll r
def uptoBulkEntries {H : Type} : List (Lit × DataW H) → Nat
  | [] => 0
  | x :: r => uptoBulkEntry x + uptoBulkEntries r
def uptoBulkEntry {H : Type} : Lit × DataW H → Nat
  | (.string bytes, d) => bytes.length + uptoBulk d + 1
  | (_, d) => uptoBulk d + 1
 end
def uptoSmall : (H : Type) → List (DataW H) → Bool := fun _ ds => decide (uptoBulkAll ds ≤ 1048576)
def OpenSpec.upto (s : _root_.Go.ChangeSpec) : _root_.Go.OpenSpec := { _root_.Go.OpenSpec.ofChange s with cond := some uptoSmall }

/-- 'laws.FnExactDigestBy', WHERE WHAT IT READS IS OF BULK AT MOST 1048576: true; the input reads as it did. -/
def fnExactDigestByUptoRow : OpenClaim := { program := "ytochaopoggempaa", sum := "e1e46088874c77c77e9a72d0457e554cdc0c16103fee375deb6ad601a71e37ce", func := "loop.example/g00041/laws.FnExactDigestBy", spec := "fnExactDigestBy", apart := false, narrowed := true }
def FnExactDigestByUptoSaid : Prop := fnExactDigestByUptoRow.holds Try.pinned (OpenSpec.upto fnExactDigestBySpec)

/-- 'laws.FnExactLock', WHERE WHAT IT READS IS OF BULK AT MOST 1048576: true; the input reads as it did. -/
def fnExactLockUptoRow : OpenClaim := { program := "ytochaopoggempaa", sum := "e1e46088874c77c77e9a72d0457e554cdc0c16103fee375deb6ad601a71e37ce", func := "loop.example/g00041/laws.FnExactLock", spec := "fnExactLock", apart := false, narrowed := true }
def FnExactLockUptoSaid : Prop := fnExactLockUptoRow.holds Try.pinned (OpenSpec.upto fnExactLockSpec)

/-- 'laws.FnExactUnlock', WHERE WHAT IT READS IS OF BULK AT MOST 1048576: true; the input reads as it did. -/
def fnExactUnlockUptoRow : OpenClaim := { program := "ytochaopoggempaa", sum := "e1e46088874c77c77e9a72d0457e554cdc0c16103fee375deb6ad601a71e37ce", func := "loop.example/g00041/laws.FnExactUnlock", spec := "fnExactUnlock", apart := false, narrowed := true }
def FnExactUnlockUptoSaid : Prop := fnExactUnlockUptoRow.holds Try.pinned (OpenSpec.upto fnExactUnlockSpec)

/-- 'laws.FnExactSealMsg', WHERE WHAT IT READS IS OF BULK AT MOST 1048576: true; the input reads as it did. -/
def fnExactSealMsgUptoRow : OpenClaim := { program := "ytochaopoggempaa", sum := "e1e46088874c77c77e9a72d0457e554cdc0c16103fee375deb6ad601a71e37ce", func := "loop.example/g00041/laws.FnExactSealMsg", spec := "fnExactSealMsg", unfollowed := true, recurses := true, apart := false, narrowed := true }
def FnExactSealMsgUptoSaid : Prop := fnExactSealMsgUptoRow.holds Try.pinned (OpenSpec.upto fnExactSealMsgSpec)

/-- 'laws.FnExactOpenMsg', WHERE WHAT IT READS IS OF BULK AT MOST 1048576: true; the input reads as it did. -/
def fnExactOpenMsgUptoRow : OpenClaim := { program := "ytochaopoggempaa", sum := "e1e46088874c77c77e9a72d0457e554cdc0c16103fee375deb6ad601a71e37ce", func := "loop.example/g00041/laws.FnExactOpenMsg", spec := "fnExactOpenMsg", unfollowed := true, recurses := true, apart := false, narrowed := true }
def FnExactOpenMsgUptoSaid : Prop := fnExactOpenMsgUptoRow.holds Try.pinned (OpenSpec.upto fnExactOpenMsgSpec)

end Rows
end Go.Proofs.Ytochaopoggempaa
