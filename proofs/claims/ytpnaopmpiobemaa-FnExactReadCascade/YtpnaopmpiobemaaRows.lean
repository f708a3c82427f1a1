/-
  No cell of these rows narrows 'for every input' (looked for: loops, veiled, ifaces, maps, wideKeys, modest, calm, conditions, laid).
  DERIVED. THE GIVEN ROWS OF THIS SEAT. 4 by the template 'for every input the law returns true; each argument reads behind the call as it read before'; 0 by the template 'total and deterministic' (their statements: YtpnaopmpiobemaaTotals.lean).
  GIVEN WITH THE SEED: the statements are not yours to turn. If you find one false, say at which input.
  Laid BY PROGRAM, IN A SANDBOX (cutbox-rows.mjs): the forced cells as the released guide's own fill.sh prints them over the translation d21207912e57af6e… (all of the seat's roots in one cut). By AI agents, Wed Nov 11 2026. No macro, syntax, notation, axiom, sorry.
-/
import Derived.Test.YtpnaopmpiobemaaChecked
import GoSem.Claim
import GoSem.ClaimJoined
import GoSem.ClaimMapViews
import Derived.JoinedTies
import Derived.KernelRfl
namespace Go.Proofs.Ytpnaopmpiobemaa
/- THE CELL 'sum', in the pinned program and in every row, IS THE sha256 OF THE DUMP (.gsa) THAT YtpnaopmpiobemaaProg.lean LOADS. Nothing in Lean hashes anything: it is a label: what it is worth is what the hold of that sum in a sandbox is worth. -/
noncomputable def Try.pinned : Pinned := { name := "ytpnaopmpiobemaa", sum := "d21207912e57af6e8a1536f755beb8968997bf1b88987e3f5da5d29c80ff65e8", checked := Try.checked }
namespace Rows
def none {H : Type} : Left H := { results := [], args := [] }

/-- 'laws.FnExactBuild': WHATEVER THE INPUT: true; the input reads as it did. -/
def fnExactBuildSpec : ChangeSpec := { name := "fnExactBuild", fn := fun _ => fun
  | [d1, d2] => { results := [.lit (.bool true)], args := [d1, d2] }
  | _ => none }
def fnExactBuildRow : OpenClaim := { program := "ytpnaopmpiobemaa", sum := "d21207912e57af6e8a1536f755beb8968997bf1b88987e3f5da5d29c80ff65e8", func := "loop.example/g00041/laws.FnExactBuild", spec := "fnExactBuild", inPlace := ["(*sync.WaitGroup).Add", "internal/race.ReleaseMerge", "internal/race.Disable", "internal/race.Enable", "internal/synctest.IsInBubble", "internal/synctest.Associate[sync.WaitGroup]", "sync.fatal", "sync/atomic.OrUint64", "sync/atomic.AddUint64", "internal/race.Read", "sync/atomic.LoadUint64", "sync/atomic.StoreUint64", "internal/synctest.Disassociate[sync.WaitGroup]", "sync.runtime_Semrelease", "(*sync.WaitGroup).Done", "(*sync.WaitGroup).Wait", "internal/race.Acquire", "internal/synctest.IsAssociated[sync.WaitGroup]", "sync/atomic.CompareAndSwapUint64", "internal/race.Write", "sync.runtime_SemacquireWaitGroup"], unfollowed := true, recurses := true, apart := false }
def FnExactBuildSaid : Prop := fnExactBuildRow.holds Try.pinned (OpenSpec.ofChange fnExactBuildSpec)

/-- ITS FALSE NEIGHBOUR: 'it returns false'. Refute it at one input. -/
def fnExactBuildWrong : ChangeSpec := { name := "fnExactBuild", fn := fun _ => fun
  | [d1, d2] => { results := [.lit (.bool false)], args := [d1, d2] }
  | _ => none }
def FnExactBuildWrongFalsely : Prop := fnExactBuildRow.holds Try.pinned (OpenSpec.ofChange fnExactBuildWrong)

/-- 'laws.FnExactInCascade': WHATEVER THE INPUT: true; the input reads as it did. -/
def fnExactInCascadeSpec : ChangeSpec := { name := "fnExactInCascade", fn := fun _ => fun
  | [d1, d2] => { results := [.lit (.bool true)], args := [d1, d2] }
  | _ => none }
def fnExactInCascadeRow : OpenClaim := { program := "ytpnaopmpiobemaa", sum := "d21207912e57af6e8a1536f755beb8968997bf1b88987e3f5da5d29c80ff65e8", func := "loop.example/g00041/laws.FnExactInCascade", spec := "fnExactInCascade", unfollowed := true, recurses := true, apart := false }
def FnExactInCascadeSaid : Prop := fnExactInCascadeRow.holds Try.pinned (OpenSpec.ofChange fnExactInCascadeSpec)

/-- ITS FALSE NEIGHBOUR: 'it returns false'. Refute it at one input. -/
def fnExactInCascadeWrong : ChangeSpec := { name := "fnExactInCascade", fn := fun _ => fun
  | [d1, d2] => { results := [.lit (.bool false)], args := [d1, d2] }
  | _ => none }
def FnExactInCascadeWrongFalsely : Prop := fnExactInCascadeRow.holds Try.pinned (OpenSpec.ofChange fnExactInCascadeWrong)

/-- 'laws.FnExactCascadeBytes': WHATEVER THE INPUT: true; the input reads as it did. -/
def fnExactCascadeBytesSpec : ChangeSpec := { name := "fnExactCascadeBytes", fn := fun _ => fun
  | [d] => { results := [.lit (.bool true)], args := [d] }
  | _ => none }
def fnExactCascadeBytesRow : OpenClaim := { program := "ytpnaopmpiobemaa", sum := "d21207912e57af6e8a1536f755beb8968997bf1b88987e3f5da5d29c80ff65e8", func := "loop.example/g00041/laws.FnExactCascadeBytes", spec := "fnExactCascadeBytes", unfollowed := true, recurses := true, apart := false }
def FnExactCascadeBytesSaid : Prop := fnExactCascadeBytesRow.holds Try.pinned (OpenSpec.ofChange fnExactCascadeBytesSpec)

/-- ITS FALSE NEIGHBOUR: 'it returns false'. Refute it at one input. -/
def fnExactCascadeBytesWrong : ChangeSpec := { name := "fnExactCascadeBytes", fn := fun _ => fun
  | [d] => { results := [.lit (.bool false)], args := [d] }
  | _ => none }
def FnExactCascadeBytesWrongFalsely : Prop := fnExactCascadeBytesRow.holds Try.pinned (OpenSpec.ofChange fnExactCascadeBytesWrong)

/-- 'laws.FnExactReadCascade': WHATEVER THE INPUT: true; the input reads as it did. -/
def fnExactReadCascadeSpec : ChangeSpec := { name := "fnExactReadCascade", fn := fun _ => fun
  | [d] => { results := [.lit (.bool true)], args := [d] }
  | _ => none }
def fnExactReadCascadeRow : OpenClaim := { program := "ytpnaopmpiobemaa", sum := "d21207912e57af6e8a1536f755beb8968997bf1b88987e3f5da5d29c80ff65e8", func := "loop.example/g00041/laws.FnExactReadCascade", spec := "fnExactReadCascade", unfollowed := true, recurses := true, apart := false }
def FnExactReadCascadeSaid : Prop := fnExactReadCascadeRow.holds Try.pinned (OpenSpec.ofChange fnExactReadCascadeSpec)

/-- ITS FALSE NEIGHBOUR: 'it returns false'. Refute it at one input. -/
def fnExactReadCascadeWrong : ChangeSpec := { name := "fnExactReadCascade", fn := fun _ => fun
  | [d] => { results := [.lit (.bool false)], args := [d] }
  | _ => none }
def FnExactReadCascadeWrongFalsely : Prop := fnExactReadCascadeRow.holds Try.pinned (OpenSpec.ofChange fnExactReadCascadeWrong)

/- THE SECOND FORM. 'bulk': how many values and letters a reading holds, each counted each time it is reached (what is shared counts as often as it is met; a slice's spare places count too). A statement '..UptoSaid' is the law's where the arguments, and the package variables that the reading takes, are together of bulk at most 1048576: NARROWER than '..Said'. Prove '..Said' where nothing that the law and all that it calls make is longer than what came in: it says more and counts as full. Else prove '..UptoSaid'. A law counts once. -/
mutual
def uptoBulk {H : Type} : DataW H → Nat
  | .lit (.string bytes) => bytes.length + 1
  | .lit _ => 1
  | .nil => 1
  | .ptr d => uptoBulk d + 1
  | .slice elems spare => uptoBulkAll elems + uptoBulkAll spare + 1
  | .agg parts => uptoBulkAll parts + 1
  | .iface _ d => uptoBulk d + 1
  | .map entries => uptoBulkEntries entries + 1
  | .held _ => 1
def uptoBulkAll {H : Type} : List (DataW H) → Nat
  | [] => 0
  | d :: r => uptoBulk d + uptoBulkAll r
def uptoBulkEntries {H : Type} : List (Lit × DataW H) → Nat
  | [] => 0
  | x :: r => uptoBulkEntry x + uptoBulkEntries r
def uptoBulkEntry {H : Type} : Lit × DataW H → Nat
  | (.string bytes, d) => bytes.length + uptoBulk d + 1
  | (_, d) => uptoBulk d + 1
 end
def uptoSmall : (H : Type) → List (DataW H) → Bool := fun _ ds => decide (uptoBulkAll ds ≤ 1048576)
def OpenSpec.upto (s : _root_.Go.ChangeSpec) : _root_.Go.OpenSpec := { _root_.Go.OpenSpec.ofChange s with cond := some uptoSmall }

/-- 'laws.FnExactBuild', WHERE WHAT IT READS IS OF BULK AT MOST 1048576: true; the input reads as it did. -/
def fnExactBuildUptoRow : OpenClaim := { program := "ytpnaopmpiobemaa", sum := "d21207912e57af6e8a1536f755beb8968997bf1b88987e3f5da5d29c80ff65e8", func := "loop.example/g00041/laws.FnExactBuild", spec := "fnExactBuild", inPlace := ["(*sync.WaitGroup).Add", "internal/race.ReleaseMerge", "internal/race.Disable", "internal/race.Enable", "internal/synctest.IsInBubble", "internal/synctest.Associate[sync.WaitGroup]", "sync.fatal", "sync/atomic.OrUint64", "sync/atomic.AddUint64", "internal/race.Read", "sync/atomic.LoadUint64", "sync/atomic.StoreUint64", "internal/synctest.Disassociate[sync.WaitGroup]", "sync.runtime_Semrelease", "(*sync.WaitGroup).Done", "(*sync.WaitGroup).Wait", "internal/race.Acquire", "internal/synctest.IsAssociated[sync.WaitGroup]", "sync/atomic.CompareAndSwapUint64", "internal/race.Write", "sync.runtime_SemacquireWaitGroup"], unfollowed := true, recurses := true, apart := false, narrowed := true }
def FnExactBuildUptoSaid : Prop := fnExactBuildUptoRow.holds Try.pinned (OpenSpec.upto fnExactBuildSpec)

/-- 'laws.FnExactInCascade', WHERE WHAT IT READS IS OF BULK AT MOST 1048576: true; the input reads as it did. -/
def fnExactInCascadeUptoRow : OpenClaim := { program := "ytpnaopmpiobemaa", sum := "d21207912e57af6e8a1536f755beb8968997bf1b88987e3f5da5d29c80ff65e8", func := "loop.example/g00041/laws.FnExactInCascade", spec := "fnExactInCascade", unfollowed := true, recurses := true, apart := false, narrowed := true }
def FnExactInCascadeUptoSaid : Prop := fnExactInCascadeUptoRow.holds Try.pinned (OpenSpec.upto fnExactInCascadeSpec)

/-- 'laws.FnExactCascadeBytes', WHERE WHAT IT READS IS OF BULK AT MOST 1048576: true; the input reads as it did. -/
def fnExactCascadeBytesUptoRow : OpenClaim := { program := "ytpnaopmpiobemaa", sum := "d21207912e57af6e8a1536f755beb8968997bf1b88987e3f5da5d29c80ff65e8", func := "loop.example/g00041/laws.FnExactCascadeBytes", spec := "fnExactCascadeBytes", unfollowed := true, recurses := true, apart := false, narrowed := true }
def FnExactCascadeBytesUptoSaid : Prop := fnExactCascadeBytesUptoRow.holds Try.pinned (OpenSpec.upto fnExactCascadeBytesSpec)

/-- 'laws.FnExactReadCascade', WHERE WHAT IT READS IS OF BULK AT MOST 1048576: true; the input reads as it did. -/
def fnExactReadCascadeUptoRow : OpenClaim := { program := "ytpnaopmpiobemaa", sum := "d21207912e57af6e8a1536f755beb8968997bf1b88987e3f5da5d29c80ff65e8", func := "loop.example/g00041/laws.FnExactReadCascade", spec := "fnExactReadCascade", unfollowed := true, recurses := true, apart := false, narrowed := true }
def FnExactReadCascadeUptoSaid : Prop := fnExactReadCascadeUptoRow.holds Try.pinned (OpenSpec.upto fnExactReadCascadeSpec)

end Rows
end Go.Proofs.Ytpnaopmpiobemaa
