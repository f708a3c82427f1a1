/-
  NARROWER THAN 'FOR EVERY INPUT', by the rows' own cells (each row's printed sentence says how): FnExactCertBody: laid · FnExactCertBytes: laid · FnExactFinger: laid · FnExactCertSigned: laid · FnExactReqOk: laid.
  DERIVED. THE GIVEN ROWS OF THIS SEAT. 5 by the template 'for every input the law returns true; each argument reads behind the call as it read before'; 0 by the template 'total and deterministic' (their statements: YtmdfbnlgfhjnoaaGreatDoorTotals.lean).
  GIVEN WITH THE SEED: the statements are not yours to turn. If you find one false, say at which input.
  Laid BY PROGRAM, IN A SANDBOX (cutbox-rows.mjs): the forced cells as the released guide's own fill.sh prints them over the translation d5659206fd508dbd… (all of the seat's roots in one cut). By AI agents, Wed Nov 11 2026. No macro, syntax, notation, axiom, sorry.
-/
import Derived.Test.YtmdfbnlgfhjnoaaGreatDoorChecked
import GoSem.PinnedTables
import GoSem.Claim
import GoSem.ClaimJoined
import GoSem.ClaimMapViews
import Derived.JoinedTies
import Derived.KernelRfl
namespace Go.Proofs.YtmdfbnlgfhjnoaaGreatDoor
/- THE CELL 'sum', in the pinned program and in every row, IS THE sha256 OF THE DUMP (.gsa) THAT YtmdfbnlgfhjnoaaGreatDoorProg.lean LOADS. Nothing in Lean hashes anything: it is a label: what it is worth is what the hold of that sum in a sandbox is worth. -/
noncomputable def Tryz.pinned : Pinned := { name := "ytmdfbnlgfhjnoaagreatdoor", sum := "d5659206fd508dbd50d90165f0c3f0f0d6bd9b39b2fa9be2634612515ec83d0b", checked := Tryz.checked }
namespace Rows
def none {H : Type} : Left H := { results := [], args := [] }

/- WHAT THE LISTED PACKAGE-LEVEL VARIABLES READ AS WHEN THE CALL BEGINS. Each datum BY PROGRAM (the guide's laid-datum.mjs) off the statement by which the dump's own 'gosem.cut.vars' lays the variable. In a bare row this is a premise. The card (YtmdfbnlgfhjnoaaGreatDoorCards.lean) ties it to the program's text. -/
def laid_unicode_utf8_acceptRanges {H : Type} : DataW H := .agg [.agg [.lit (.int .u8 128), .lit (.int .u8 191)], .agg [.lit (.int .u8 160), .lit (.int .u8 191)], .agg [.lit (.int .u8 128), .lit (.int .u8 159)], .agg [.lit (.int .u8 144), .lit (.int .u8 191)], .agg [.lit (.int .u8 128), .lit (.int .u8 143)], .agg [.lit (.int .u8 0), .lit (.int .u8 0)], .agg [.lit (.int .u8 0), .lit (.int .u8 0)], .agg [.lit (.int .u8 0), .lit (.int .u8 0)], .agg [.lit (.int .u8 0), .lit (.int .u8 0)], .agg [.lit (.int .u8 0), .lit (.int .u8 0)], .agg [.lit (.int .u8 0), .lit (.int .u8 0)], .agg [.lit (.int .u8 0), .lit (.int .u8 0)], .agg [.lit (.int .u8 0), .lit (.int .u8 0)], .agg [.lit (.int .u8 0), .lit (.int .u8 0)], .agg [.lit (.int .u8 0), .lit (.int .u8 0)], .agg [.lit (.int .u8 0), .lit (.int .u8 0)]]
/-- One of Go's own tables, pinned by name: the form's constant. -/
def laid_unicode_utf8_first : DataW Unit := Go.Pinned.utf8First

/-- 'laws.FnExactCertBody': WHATEVER THE INPUT: true; the input reads as it did. -/
def fnExactCertBodySpec : ChangeSpec := { name := "fnExactCertBody", fn := fun _ => fun
  | [d] => { results := [.lit (.bool true)], args := [d] }
  | _ => none }
def fnExactCertBodyRow : OpenClaim := { program := "ytmdfbnlgfhjnoaagreatdoor", sum := "d5659206fd508dbd50d90165f0c3f0f0d6bd9b39b2fa9be2634612515ec83d0b", func := "loop.example/g00041/laws.FnExactCertBody", spec := "fnExactCertBody", inPlace := ["internal/bytealg.CountString", "internal/bytealg.IndexByteString", "internal/bytealg.IndexString"], unfollowed := true, recurses := true, named := ["unicode/utf8.first", "unicode/utf8.acceptRanges", "internal/bytealg.MaxLen"], apart := false, laid := [("unicode/utf8.acceptRanges", laid_unicode_utf8_acceptRanges), ("unicode/utf8.first", laid_unicode_utf8_first)] }
def FnExactCertBodySaid : Prop := fnExactCertBodyRow.holds Tryz.pinned (OpenSpec.ofChange fnExactCertBodySpec)

/-- ITS FALSE NEIGHBOUR: 'it returns false'. Refute it at one input. -/
def fnExactCertBodyWrong : ChangeSpec := { name := "fnExactCertBody", fn := fun _ => fun
  | [d] => { results := [.lit (.bool false)], args := [d] }
  | _ => none }
def FnExactCertBodyWrongFalsely : Prop := fnExactCertBodyRow.holds Tryz.pinned (OpenSpec.ofChange fnExactCertBodyWrong)

/-- 'laws.FnExactCertBytes': WHATEVER THE INPUT: true; the input reads as it did. -/
def fnExactCertBytesSpec : ChangeSpec := { name := "fnExactCertBytes", fn := fun _ => fun
  | [d] => { results := [.lit (.bool true)], args := [d] }
  | _ => none }
def fnExactCertBytesRow : OpenClaim := { program := "ytmdfbnlgfhjnoaagreatdoor", sum := "d5659206fd508dbd50d90165f0c3f0f0d6bd9b39b2fa9be2634612515ec83d0b", func := "loop.example/g00041/laws.FnExactCertBytes", spec := "fnExactCertBytes", inPlace := ["internal/bytealg.CountString", "internal/bytealg.IndexByteString", "internal/bytealg.IndexString"], unfollowed := true, recurses := true, named := ["unicode/utf8.first", "unicode/utf8.acceptRanges", "internal/bytealg.MaxLen"], apart := false, laid := [("unicode/utf8.acceptRanges", laid_unicode_utf8_acceptRanges), ("unicode/utf8.first", laid_unicode_utf8_first)] }
def FnExactCertBytesSaid : Prop := fnExactCertBytesRow.holds Tryz.pinned (OpenSpec.ofChange fnExactCertBytesSpec)

/-- ITS FALSE NEIGHBOUR: 'it returns false'. Refute it at one input. -/
def fnExactCertBytesWrong : ChangeSpec := { name := "fnExactCertBytes", fn := fun _ => fun
  | [d] => { results := [.lit (.bool false)], args := [d] }
  | _ => none }
def FnExactCertBytesWrongFalsely : Prop := fnExactCertBytesRow.holds Tryz.pinned (OpenSpec.ofChange fnExactCertBytesWrong)

/-- 'laws.FnExactFinger': WHATEVER THE INPUT: true; the input reads as it did. -/
def fnExactFingerSpec : ChangeSpec := { name := "fnExactFinger", fn := fun _ => fun
  | [d] => { results := [.lit (.bool true)], args := [d] }
  | _ => none }
def fnExactFingerRow : OpenClaim := { program := "ytmdfbnlgfhjnoaagreatdoor", sum := "d5659206fd508dbd50d90165f0c3f0f0d6bd9b39b2fa9be2634612515ec83d0b", func := "loop.example/g00041/laws.FnExactFinger", spec := "fnExactFinger", inPlace := ["internal/bytealg.CountString", "internal/bytealg.IndexByteString", "internal/bytealg.IndexString"], unfollowed := true, recurses := true, named := ["unicode/utf8.first", "unicode/utf8.acceptRanges", "internal/bytealg.MaxLen"], apart := false, laid := [("unicode/utf8.acceptRanges", laid_unicode_utf8_acceptRanges), ("unicode/utf8.first", laid_unicode_utf8_first)] }
def FnExactFingerSaid : Prop := fnExactFingerRow.holds Tryz.pinned (OpenSpec.ofChange fnExactFingerSpec)

/-- ITS FALSE NEIGHBOUR: 'it returns false'. Refute it at one input. -/
def fnExactFingerWrong : ChangeSpec := { name := "fnExactFinger", fn := fun _ => fun
  | [d] => { results := [.lit (.bool false)], args := [d] }
  | _ => none }
def FnExactFingerWrongFalsely : Prop := fnExactFingerRow.holds Tryz.pinned (OpenSpec.ofChange fnExactFingerWrong)

/-- 'laws.FnExactCertSigned': WHATEVER THE INPUT: true; the input reads as it did. -/
def fnExactCertSignedSpec : ChangeSpec := { name := "fnExactCertSigned", fn := fun _ => fun
  | [d1, d2] => { results := [.lit (.bool true)], args := [d1, d2] }
  | _ => none }
def fnExactCertSignedRow : OpenClaim := { program := "ytmdfbnlgfhjnoaagreatdoor", sum := "d5659206fd508dbd50d90165f0c3f0f0d6bd9b39b2fa9be2634612515ec83d0b", func := "loop.example/g00041/laws.FnExactCertSigned", spec := "fnExactCertSigned", inPlace := ["internal/bytealg.CountString", "internal/bytealg.IndexByteString", "internal/bytealg.IndexString"], unfollowed := true, recurses := true, named := ["unicode/utf8.first", "unicode/utf8.acceptRanges", "internal/bytealg.MaxLen"], apart := false, laid := [("unicode/utf8.acceptRanges", laid_unicode_utf8_acceptRanges), ("unicode/utf8.first", laid_unicode_utf8_first)] }
def FnExactCertSignedSaid : Prop := fnExactCertSignedRow.holds Tryz.pinned (OpenSpec.ofChange fnExactCertSignedSpec)

/-- ITS FALSE NEIGHBOUR: 'it returns false'. Refute it at one input. -/
def fnExactCertSignedWrong : ChangeSpec := { name := "fnExactCertSigned", fn := fun _ => fun
  | [d1, d2] => { results := [.lit (.bool false)], args := [d1, d2] }
  | _ => none }
def FnExactCertSignedWrongFalsely : Prop := fnExactCertSignedRow.holds Tryz.pinned (OpenSpec.ofChange fnExactCertSignedWrong)

/-- 'laws.FnExactReqOk': WHATEVER THE INPUT: true; the input reads as it did. -/
def fnExactReqOkSpec : ChangeSpec := { name := "fnExactReqOk", fn := fun _ => fun
  | [d] => { results := [.lit (.bool true)], args := [d] }
  | _ => none }
def fnExactReqOkRow : OpenClaim := { program := "ytmdfbnlgfhjnoaagreatdoor", sum := "d5659206fd508dbd50d90165f0c3f0f0d6bd9b39b2fa9be2634612515ec83d0b", func := "loop.example/g00041/laws.FnExactReqOk", spec := "fnExactReqOk", inPlace := ["internal/bytealg.CountString", "internal/bytealg.IndexByteString", "internal/bytealg.IndexString"], unfollowed := true, recurses := true, named := ["unicode/utf8.first", "unicode/utf8.acceptRanges", "internal/bytealg.MaxLen"], apart := false, laid := [("unicode/utf8.acceptRanges", laid_unicode_utf8_acceptRanges), ("unicode/utf8.first", laid_unicode_utf8_first)] }
def FnExactReqOkSaid : Prop := fnExactReqOkRow.holds Tryz.pinned (OpenSpec.ofChange fnExactReqOkSpec)

/-- ITS FALSE NEIGHBOUR: 'it returns false'. Refute it at one input. -/
def fnExactReqOkWrong : ChangeSpec := { name := "fnExactReqOk", fn := fun _ => fun
  | [d] => { results := [.lit (.bool false)], args := [d] }
  | _ => none }
def FnExactReqOkWrongFalsely : Prop := fnExactReqOkRow.holds Tryz.pinned (OpenSpec.ofChange fnExactReqOkWrong)

/- THE SECOND FORM. 'bulk': how many values and letters a reading holds, each counted each time it is reached (what is shared counts as often as it is met; a slice's spare places count too). A statement '..UptoSaid' is the law's where the arguments, and the package variables that the reading takes, are together of bulk at most 1048576: NARROWER than '..Said'. Prove '..Said' where nothing that the law and all that it calls make is longer than what came in: it says more and counts as full. Else prove '..UptoSaid'. A law counts once. -/
mutual
def uptoBulk {H : Type} : DataW H → Nat
  | .lit (.string bytes) => bytes.length + 1
  | .lit _ => 1
  | .nil => 1
  | .ptr d => uptoBulk d + 1
  | .slice elems spare => uptoBulkAll elems + uptoBulkAll spare + 1
  | .agg parts => uptoBulkAll parts + 1
  | .iface _ d => uptoBulk d + 1
  | .map entries => uptoBulkEntries entries + 1
  | .held _ => 1
def uptoBulkAll {H : Type} : List (DataW H) → Nat
  | [] => 0
  | d :: r => uptoBulk d + uptoBulkAll r
def uptoBulkEntries {H : Type} : List (Lit × DataW H) → Nat
  | [] => 0
  | x :: r => uptoBulkEntry x + uptoBulkEntries r
def uptoBulkEntry {H : Type} : Lit × DataW H → Nat
  | (.string bytes, d) => bytes.length + uptoBulk d + 1
  | (_, d) => uptoBulk d + 1
 end
def uptoSmall : (H : Type) → List (DataW H) → Bool := fun _ ds => decide (uptoBulkAll ds ≤ 1048576)
def OpenSpec.upto (s : _root_.Go.ChangeSpec) : _root_.Go.OpenSpec := { _root_.Go.OpenSpec.ofChange s with cond := some uptoSmall }

/-- 'laws.FnExactCertBody', WHERE WHAT IT READS IS OF BULK AT MOST 1048576: true; the input reads as it did. -/
def fnExactCertBodyUptoRow : OpenClaim := { program := "ytmdfbnlgfhjnoaagreatdoor", sum := "d5659206fd508dbd50d90165f0c3f0f0d6bd9b39b2fa9be2634612515ec83d0b", func := "loop.example/g00041/laws.FnExactCertBody", spec := "fnExactCertBody", inPlace := ["internal/bytealg.CountString", "internal/bytealg.IndexByteString", "internal/bytealg.IndexString"], unfollowed := true, recurses := true, named := ["unicode/utf8.first", "unicode/utf8.acceptRanges", "internal/bytealg.MaxLen"], apart := false, laid := [("unicode/utf8.acceptRanges", laid_unicode_utf8_acceptRanges), ("unicode/utf8.first", laid_unicode_utf8_first)], narrowed := true }
def FnExactCertBodyUptoSaid : Prop := fnExactCertBodyUptoRow.holds Tryz.pinned (OpenSpec.upto fnExactCertBodySpec)

/-- 'laws.FnExactCertBytes', WHERE WHAT IT READS IS OF BULK AT MOST 1048576: true; the input reads as it did. -/
def fnExactCertBytesUptoRow : OpenClaim := { program := "ytmdfbnlgfhjnoaagreatdoor", sum := "d5659206fd508dbd50d90165f0c3f0f0d6bd9b39b2fa9be2634612515ec83d0b", func := "loop.example/g00041/laws.FnExactCertBytes", spec := "fnExactCertBytes", inPlace := ["internal/bytealg.CountString", "internal/bytealg.IndexByteString", "internal/bytealg.IndexString"], unfollowed := true, recurses := true, named := ["unicode/utf8.first", "unicode/utf8.acceptRanges", "internal/bytealg.MaxLen"], apart := false, laid := [("unicode/utf8.acceptRanges", laid_unicode_utf8_acceptRanges), ("unicode/utf8.first", laid_unicode_utf8_first)], narrowed := true }
def FnExactCertBytesUptoSaid : Prop := fnExactCertBytesUptoRow.holds Tryz.pinned (OpenSpec.upto fnExactCertBytesSpec)

/-- 'laws.FnExactFinger', WHERE WHAT IT READS IS OF BULK AT MOST 1048576: true; the input reads as it did. -/
def fnExactFingerUptoRow : OpenClaim := { program := "ytmdfbnlgfhjnoaagreatdoor", sum := "d5659206fd508dbd50d90165f0c3f0f0d6bd9b39b2fa9be2634612515ec83d0b", func := "loop.example/g00041/laws.FnExactFinger", spec := "fnExactFinger", inPlace := ["internal/bytealg.CountString", "internal/bytealg.IndexByteString", "internal/bytealg.IndexString"], unfollowed := true, recurses := true, named := ["unicode/utf8.first", "unicode/utf8.acceptRanges", "internal/bytealg.MaxLen"], apart := false, laid := [("unicode/utf8.acceptRanges", laid_unicode_utf8_acceptRanges), ("unicode/utf8.first", laid_unicode_utf8_first)], narrowed := true }
def FnExactFingerUptoSaid : Prop := fnExactFingerUptoRow.holds Tryz.pinned (OpenSpec.upto fnExactFingerSpec)

/-- 'laws.FnExactCertSigned', WHERE WHAT IT READS IS OF BULK AT MOST 1048576: true; the input reads as it did. -/
def fnExactCertSignedUptoRow : OpenClaim := { program := "ytmdfbnlgfhjnoaagreatdoor", sum := "d5659206fd508dbd50d90165f0c3f0f0d6bd9b39b2fa9be2634612515ec83d0b", func := "loop.example/g00041/laws.FnExactCertSigned", spec := "fnExactCertSigned", inPlace := ["internal/bytealg.CountString", "internal/bytealg.IndexByteString", "internal/bytealg.IndexString"], unfollowed := true, recurses := true, named := ["unicode/utf8.first", "unicode/utf8.acceptRanges", "internal/bytealg.MaxLen"], apart := false, laid := [("unicode/utf8.acceptRanges", laid_unicode_utf8_acceptRanges), ("unicode/utf8.first", laid_unicode_utf8_first)], narrowed := true }
def FnExactCertSignedUptoSaid : Prop := fnExactCertSignedUptoRow.holds Tryz.pinned (OpenSpec.upto fnExactCertSignedSpec)

/-- 'laws.FnExactReqOk', WHERE WHAT IT READS IS OF BULK AT MOST 1048576: true; the input reads as it did. -/
def fnExactReqOkUptoRow : OpenClaim := { program := "ytmdfbnlgfhjnoaagreatdoor", sum := "d5659206fd508dbd50d90165f0c3f0f0d6bd9b39b2fa9be2634612515ec83d0b", func := "loop.example/g00041/laws.FnExactReqOk", spec := "fnExactReqOk", inPlace := ["internal/bytealg.CountString", "internal/bytealg.IndexByteString", "internal/bytealg.IndexString"], unfollowed := true, recurses := true, named := ["unicode/utf8.first", "unicode/utf8.acceptRanges", "internal/bytealg.MaxLen"], apart := false, laid := [("unicode/utf8.acceptRanges", laid_unicode_utf8_acceptRanges), ("unicode/utf8.first", laid_unicode_utf8_first)], narrowed := true }
def FnExactReqOkUptoSaid : Prop := fnExactReqOkUptoRow.holds Tryz.pinned (OpenSpec.upto fnExactReqOkSpec)

end Rows
end Go.Proofs.YtmdfbnlgfhjnoaaGreatDoor
