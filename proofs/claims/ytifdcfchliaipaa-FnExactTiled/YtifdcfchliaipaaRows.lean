/-
  No cell of these rows narrows 'for every input' (looked for: loops, veiled, ifaces, maps, wideKeys, modest, calm, conditions, laid).
  DERIVED. THE GIVEN ROWS OF THIS SEAT. 8 by the template 'for every input the law returns true; each argument reads behind the call as it read before'; 0 by the template 'total and deterministic' (their statements: YtifdcfchliaipaaTotals.lean).
  GIVEN WITH THE SEED: the statements are not yours to turn. If you find one false, say at which input.
  Laid BY PROGRAM, IN A SANDBOX (cutbox-rows.mjs): the forced cells as the released guide's own fill.sh prints them over the translation 46f778988683ecdf… (all of the seat's roots in one cut). By AI agents, Wed Nov 11 2026. No macro, syntax, notation, axiom, sorry.
-/
import Derived.Test.YtifdcfchliaipaaChecked
import GoSem.Claim
import GoSem.ClaimJoined
import GoSem.ClaimMapViews
import Derived.JoinedTies
import Derived.KernelRfl
namespace Go.Proofs.Ytifdcfchliaipaa
/- THE CELL 'sum', in the pinned program and in every row, IS THE sha256 OF THE DUMP (.gsa) THAT YtifdcfchliaipaaProg.lean LOADS. Nothing in Lean hashes anything: it is a label: what it is worth is what the hold of that sum in a sandbox is worth. -/
noncomputable def Try.pinned : Pinned := { name := "ytifdcfchliaipaa", sum := "46f778988683ecdf854eecfea56e54275de930d37f8c6159c3008362834b263d", checked := Try.checked }
namespace Rows
def none {H : Type} : Left H := { results := [], args := [] }

/-- 'laws.FnExactEntryHash': WHATEVER THE INPUT: true; the input reads as it did. -/
def fnExactEntryHashSpec : ChangeSpec := { name := "fnExactEntryHash", fn := fun _ => fun
  | [d] => { results := [.lit (.bool true)], args := [d] }
  | _ => none }
def fnExactEntryHashRow : OpenClaim := { program := "ytifdcfchliaipaa", sum := "46f778988683ecdf854eecfea56e54275de930d37f8c6159c3008362834b263d", func := "loop.example/g00041/laws.FnExactEntryHash", spec := "fnExactEntryHash", apart := false }
def FnExactEntryHashSaid : Prop := fnExactEntryHashRow.holds Try.pinned (OpenSpec.ofChange fnExactEntryHashSpec)

/-- ITS FALSE NEIGHBOUR: 'it returns false'. Refute it at one input. -/
def fnExactEntryHashWrong : ChangeSpec := { name := "fnExactEntryHash", fn := fun _ => fun
  | [d] => { results := [.lit (.bool false)], args := [d] }
  | _ => none }
def FnExactEntryHashWrongFalsely : Prop := fnExactEntryHashRow.holds Try.pinned (OpenSpec.ofChange fnExactEntryHashWrong)

/-- 'laws.FnExactLogRoot': WHATEVER THE INPUT: true; the input reads as it did. -/
def fnExactLogRootSpec : ChangeSpec := { name := "fnExactLogRoot", fn := fun _ => fun
  | [d] => { results := [.lit (.bool true)], args := [d] }
  | _ => none }
def fnExactLogRootRow : OpenClaim := { program := "ytifdcfchliaipaa", sum := "46f778988683ecdf854eecfea56e54275de930d37f8c6159c3008362834b263d", func := "loop.example/g00041/laws.FnExactLogRoot", spec := "fnExactLogRoot", recurses := true, apart := false }
def FnExactLogRootSaid : Prop := fnExactLogRootRow.holds Try.pinned (OpenSpec.ofChange fnExactLogRootSpec)

/-- ITS FALSE NEIGHBOUR: 'it returns false'. Refute it at one input. -/
def fnExactLogRootWrong : ChangeSpec := { name := "fnExactLogRoot", fn := fun _ => fun
  | [d] => { results := [.lit (.bool false)], args := [d] }
  | _ => none }
def FnExactLogRootWrongFalsely : Prop := fnExactLogRootRow.holds Try.pinned (OpenSpec.ofChange fnExactLogRootWrong)

/-- 'laws.FnExactInclude': WHATEVER THE INPUT: true; the input reads as it did. -/
def fnExactIncludeSpec : ChangeSpec := { name := "fnExactInclude", fn := fun _ => fun
  | [d1, d2] => { results := [.lit (.bool true)], args := [d1, d2] }
  | _ => none }
def fnExactIncludeRow : OpenClaim := { program := "ytifdcfchliaipaa", sum := "46f778988683ecdf854eecfea56e54275de930d37f8c6159c3008362834b263d", func := "loop.example/g00041/laws.FnExactInclude", spec := "fnExactInclude", recurses := true, apart := false }
def FnExactIncludeSaid : Prop := fnExactIncludeRow.holds Try.pinned (OpenSpec.ofChange fnExactIncludeSpec)

/-- ITS FALSE NEIGHBOUR: 'it returns false'. Refute it at one input. -/
def fnExactIncludeWrong : ChangeSpec := { name := "fnExactInclude", fn := fun _ => fun
  | [d1, d2] => { results := [.lit (.bool false)], args := [d1, d2] }
  | _ => none }
def FnExactIncludeWrongFalsely : Prop := fnExactIncludeRow.holds Try.pinned (OpenSpec.ofChange fnExactIncludeWrong)

/-- 'laws.FnExactCheckInclude': WHATEVER THE INPUT: true; the input reads as it did. -/
def fnExactCheckIncludeSpec : ChangeSpec := { name := "fnExactCheckInclude", fn := fun _ => fun
  | [d1, d2, d3, d4, d5] => { results := [.lit (.bool true)], args := [d1, d2, d3, d4, d5] }
  | _ => none }
def fnExactCheckIncludeRow : OpenClaim := { program := "ytifdcfchliaipaa", sum := "46f778988683ecdf854eecfea56e54275de930d37f8c6159c3008362834b263d", func := "loop.example/g00041/laws.FnExactCheckInclude", spec := "fnExactCheckInclude", recurses := true, apart := false }
def FnExactCheckIncludeSaid : Prop := fnExactCheckIncludeRow.holds Try.pinned (OpenSpec.ofChange fnExactCheckIncludeSpec)

/-- ITS FALSE NEIGHBOUR: 'it returns false'. Refute it at one input. -/
def fnExactCheckIncludeWrong : ChangeSpec := { name := "fnExactCheckInclude", fn := fun _ => fun
  | [d1, d2, d3, d4, d5] => { results := [.lit (.bool false)], args := [d1, d2, d3, d4, d5] }
  | _ => none }
def FnExactCheckIncludeWrongFalsely : Prop := fnExactCheckIncludeRow.holds Try.pinned (OpenSpec.ofChange fnExactCheckIncludeWrong)

/-- 'laws.FnExactExtend': WHATEVER THE INPUT: true; the input reads as it did. -/
def fnExactExtendSpec : ChangeSpec := { name := "fnExactExtend", fn := fun _ => fun
  | [d1, d2] => { results := [.lit (.bool true)], args := [d1, d2] }
  | _ => none }
def fnExactExtendRow : OpenClaim := { program := "ytifdcfchliaipaa", sum := "46f778988683ecdf854eecfea56e54275de930d37f8c6159c3008362834b263d", func := "loop.example/g00041/laws.FnExactExtend", spec := "fnExactExtend", recurses := true, apart := false }
def FnExactExtendSaid : Prop := fnExactExtendRow.holds Try.pinned (OpenSpec.ofChange fnExactExtendSpec)

/-- ITS FALSE NEIGHBOUR: 'it returns false'. Refute it at one input. -/
def fnExactExtendWrong : ChangeSpec := { name := "fnExactExtend", fn := fun _ => fun
  | [d1, d2] => { results := [.lit (.bool false)], args := [d1, d2] }
  | _ => none }
def FnExactExtendWrongFalsely : Prop := fnExactExtendRow.holds Try.pinned (OpenSpec.ofChange fnExactExtendWrong)

/-- 'laws.FnExactCheckExtend': WHATEVER THE INPUT: true; the input reads as it did. -/
def fnExactCheckExtendSpec : ChangeSpec := { name := "fnExactCheckExtend", fn := fun _ => fun
  | [d1, d2, d3, d4, d5] => { results := [.lit (.bool true)], args := [d1, d2, d3, d4, d5] }
  | _ => none }
def fnExactCheckExtendRow : OpenClaim := { program := "ytifdcfchliaipaa", sum := "46f778988683ecdf854eecfea56e54275de930d37f8c6159c3008362834b263d", func := "loop.example/g00041/laws.FnExactCheckExtend", spec := "fnExactCheckExtend", recurses := true, apart := false }
def FnExactCheckExtendSaid : Prop := fnExactCheckExtendRow.holds Try.pinned (OpenSpec.ofChange fnExactCheckExtendSpec)

/-- ITS FALSE NEIGHBOUR: 'it returns false'. Refute it at one input. -/
def fnExactCheckExtendWrong : ChangeSpec := { name := "fnExactCheckExtend", fn := fun _ => fun
  | [d1, d2, d3, d4, d5] => { results := [.lit (.bool false)], args := [d1, d2, d3, d4, d5] }
  | _ => none }
def FnExactCheckExtendWrongFalsely : Prop := fnExactCheckExtendRow.holds Try.pinned (OpenSpec.ofChange fnExactCheckExtendWrong)

/-- 'laws.FnExactTile': WHATEVER THE INPUT: true; the input reads as it did. -/
def fnExactTileSpec : ChangeSpec := { name := "fnExactTile", fn := fun _ => fun
  | [d1, d2, d3] => { results := [.lit (.bool true)], args := [d1, d2, d3] }
  | _ => none }
def fnExactTileRow : OpenClaim := { program := "ytifdcfchliaipaa", sum := "46f778988683ecdf854eecfea56e54275de930d37f8c6159c3008362834b263d", func := "loop.example/g00041/laws.FnExactTile", spec := "fnExactTile", recurses := true, apart := false }
def FnExactTileSaid : Prop := fnExactTileRow.holds Try.pinned (OpenSpec.ofChange fnExactTileSpec)

/-- ITS FALSE NEIGHBOUR: 'it returns false'. Refute it at one input. -/
def fnExactTileWrong : ChangeSpec := { name := "fnExactTile", fn := fun _ => fun
  | [d1, d2, d3] => { results := [.lit (.bool false)], args := [d1, d2, d3] }
  | _ => none }
def FnExactTileWrongFalsely : Prop := fnExactTileRow.holds Try.pinned (OpenSpec.ofChange fnExactTileWrong)

/-- 'laws.FnExactTiled': WHATEVER THE INPUT: true; the input reads as it did. -/
def fnExactTiledSpec : ChangeSpec := { name := "fnExactTiled", fn := fun _ => fun
  | [d1, d2] => { results := [.lit (.bool true)], args := [d1, d2] }
  | _ => none }
def fnExactTiledRow : OpenClaim := { program := "ytifdcfchliaipaa", sum := "46f778988683ecdf854eecfea56e54275de930d37f8c6159c3008362834b263d", func := "loop.example/g00041/laws.FnExactTiled", spec := "fnExactTiled", unfollowed := true, recurses := true, apart := false }
def FnExactTiledSaid : Prop := fnExactTiledRow.holds Try.pinned (OpenSpec.ofChange fnExactTiledSpec)

/-- ITS FALSE NEIGHBOUR: 'it returns false'. Refute it at one input. -/
def fnExactTiledWrong : ChangeSpec := { name := "fnExactTiled", fn := fun _ => fun
  | [d1, d2] => { results := [.lit (.bool false)], args := [d1, d2] }
  | _ => none }
def FnExactTiledWrongFalsely : Prop := fnExactTiledRow.holds Try.pinned (OpenSpec.ofChange fnExactTiledWrong)

/- THE SECOND FORM. 'bulk': how many values and letters a reading holds, each counted each time it is reached (what is shared counts as often as it is met; a slice's spare places count too). A statement '..UptoSaid' is the law's where the arguments, and the package variables that the reading takes, are together of bulk at most 1048576: NARROWER than '..Said'. Prove '..Said' where nothing that the law and all that it calls make is longer than what came in: it says more and counts as full. Else prove '..UptoSaid'. A law counts once. -/
mutual
def uptoBulk {H : Type} : DataW H → Nat
  | .lit (.string bytes) => bytes.length + 1
  | .lit _ => 1
  | .nil => 1
  | .ptr d => uptoBulk d + 1
  | .slice elems spare => uptoBulkAll elems + uptoBulkAll spare + 1
  | .agg parts => uptoBulkAll parts + 1
  | .iface _ d => uptoBulk d + 1
  | .map entries => uptoBulkEntries entries + 1
  | .held _ => 1
def uptoBulkAll {H : Type} : List (DataW H) → Nat
  | [] => 0
  | d :: r => uptoBulk d + uptoBulkAll r
def uptoBulkEntries {H : Type} : List (Lit × DataW H) → Nat
  | [] => 0
  | x :: r => uptoBulkEntry x + uptoBulkEntries r
def uptoBulkEntry {H : Type} : Lit × DataW H → Nat
  | (.string bytes, d) => bytes.length + uptoBulk d + 1
  | (_, d) => uptoBulk d + 1
 end
def uptoSmall : (H : Type) → List (DataW H) → Bool := fun _ ds => decide (uptoBulkAll ds ≤ 1048576)
def OpenSpec.upto (s : _root_.Go.ChangeSpec) : _root_.Go.OpenSpec := { _root_.Go.OpenSpec.ofChange s with cond := some uptoSmall }

/-- 'laws.FnExactEntryHash', WHERE WHAT IT READS IS OF BULK AT MOST 1048576: true; the input reads as it did. -/
def fnExactEntryHashUptoRow : OpenClaim := { program := "ytifdcfchliaipaa", sum := "46f778988683ecdf854eecfea56e54275de930d37f8c6159c3008362834b263d", func := "loop.example/g00041/laws.FnExactEntryHash", spec := "fnExactEntryHash", apart := false, narrowed := true }
def FnExactEntryHashUptoSaid : Prop := fnExactEntryHashUptoRow.holds Try.pinned (OpenSpec.upto fnExactEntryHashSpec)

/-- 'laws.FnExactLogRoot', WHERE WHAT IT READS IS OF BULK AT MOST 1048576: true; the input reads as it did. -/
def fnExactLogRootUptoRow : OpenClaim := { program := "ytifdcfchliaipaa", sum := "46f778988683ecdf854eecfea56e54275de930d37f8c6159c3008362834b263d", func := "loop.example/g00041/laws.FnExactLogRoot", spec := "fnExactLogRoot", recurses := true, apart := false, narrowed := true }
def FnExactLogRootUptoSaid : Prop := fnExactLogRootUptoRow.holds Try.pinned (OpenSpec.upto fnExactLogRootSpec)

/-- 'laws.FnExactInclude', WHERE WHAT IT READS IS OF BULK AT MOST 1048576: true; the input reads as it did. -/
def fnExactIncludeUptoRow : OpenClaim := { program := "ytifdcfchliaipaa", sum := "46f778988683ecdf854eecfea56e54275de930d37f8c6159c3008362834b263d", func := "loop.example/g00041/laws.FnExactInclude", spec := "fnExactInclude", recurses := true, apart := false, narrowed := true }
def FnExactIncludeUptoSaid : Prop := fnExactIncludeUptoRow.holds Try.pinned (OpenSpec.upto fnExactIncludeSpec)

/-- 'laws.FnExactCheckInclude', WHERE WHAT IT READS IS OF BULK AT MOST 1048576: true; the input reads as it did. -/
def fnExactCheckIncludeUptoRow : OpenClaim := { program := "ytifdcfchliaipaa", sum := "46f778988683ecdf854eecfea56e54275de930d37f8c6159c3008362834b263d", func := "loop.example/g00041/laws.FnExactCheckInclude", spec := "fnExactCheckInclude", recurses := true, apart := false, narrowed := true }
def FnExactCheckIncludeUptoSaid : Prop := fnExactCheckIncludeUptoRow.holds Try.pinned (OpenSpec.upto fnExactCheckIncludeSpec)

/-- 'laws.FnExactExtend', WHERE WHAT IT READS IS OF BULK AT MOST 1048576: true; the input reads as it did. -/
def fnExactExtendUptoRow : OpenClaim := { program := "ytifdcfchliaipaa", sum := "46f778988683ecdf854eecfea56e54275de930d37f8c6159c3008362834b263d", func := "loop.example/g00041/laws.FnExactExtend", spec := "fnExactExtend", recurses := true, apart := false, narrowed := true }
def FnExactExtendUptoSaid : Prop := fnExactExtendUptoRow.holds Try.pinned (OpenSpec.upto fnExactExtendSpec)

/-- 'laws.FnExactCheckExtend', WHERE WHAT IT READS IS OF BULK AT MOST 1048576: true; the input reads as it did. -/
def fnExactCheckExtendUptoRow : OpenClaim := { program := "ytifdcfchliaipaa", sum := "46f778988683ecdf854eecfea56e54275de930d37f8c6159c3008362834b263d", func := "loop.example/g00041/laws.FnExactCheckExtend", spec := "fnExactCheckExtend", recurses := true, apart := false, narrowed := true }
def FnExactCheckExtendUptoSaid : Prop := fnExactCheckExtendUptoRow.holds Try.pinned (OpenSpec.upto fnExactCheckExtendSpec)

/-- 'laws.FnExactTile', WHERE WHAT IT READS IS OF BULK AT MOST 1048576: true; the input reads as it did. -/
def fnExactTileUptoRow : OpenClaim := { program := "ytifdcfchliaipaa", sum := "46f778988683ecdf854eecfea56e54275de930d37f8c6159c3008362834b263d", func := "loop.example/g00041/laws.FnExactTile", spec := "fnExactTile", recurses := true, apart := false, narrowed := true }
def FnExactTileUptoSaid : Prop := fnExactTileUptoRow.holds Try.pinned (OpenSpec.upto fnExactTileSpec)

/-- 'laws.FnExactTiled', WHERE WHAT IT READS IS OF BULK AT MOST 1048576: true; the input reads as it did. -/
def fnExactTiledUptoRow : OpenClaim := { program := "ytifdcfchliaipaa", sum := "46f778988683ecdf854eecfea56e54275de930d37f8c6159c3008362834b263d", func := "loop.example/g00041/laws.FnExactTiled", spec := "fnExactTiled", unfollowed := true, recurses := true, apart := false, narrowed := true }
def FnExactTiledUptoSaid : Prop := fnExactTiledUptoRow.holds Try.pinned (OpenSpec.upto fnExactTiledSpec)

end Rows
end Go.Proofs.Ytifdcfchliaipaa
