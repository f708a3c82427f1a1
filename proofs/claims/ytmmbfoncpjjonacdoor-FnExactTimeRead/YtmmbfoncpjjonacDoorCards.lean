/-
  DERIVED. GIVEN WITH THE SEED: THE CARDS: each row of YtmmbfoncpjjonacDoorRows.lean that lists a variable, with what it lists TIED to the program's text (the seventh form; the later family's looks); each row that meets fmt, with fmt's text TOLD by the authors' own Lean function (tested against real Go, not proved from fmt's source: count such statements apart). THE CARD IS WHAT COUNTS. Prove the row's statement (the work); the ties are given (YtmmbfoncpjjonacDoorTie.lean); close each card by the builder's one call (the guide's Derived/Test/ToyasCard.lean, 'card_holds'). Laid BY PROGRAM, IN A SANDBOX (cutbox-door.mjs). By AI agents, Wed Nov 11 2026. No macro, syntax, notation, axiom, sorry.
-/
import Derived.Test.YtmmbfoncpjjonacDoorRows
import GoSem.ClaimSeven
namespace Go.Proofs.YtmmbfoncpjjonacDoor
namespace Rows

/-- THE TIED CARD OF 'laws.FnExactTimeRead'. -/
def fnExactTimeReadCard : Claim7 := { stood := { row := fnExactTimeReadRow, standIns := [], harness := (true, "a5ef94048028e9dc47f9ae01ab1222d7308cb8cff00c04a1b149165aacb9bb92"), looks := false }, kinds := [], alts := [], laidByText := true, laidKinds := [.data], laidTests := true, laidLooks := .later }
def FnExactTimeReadCardSaid : Prop := Claim7.holds Tryd.pinned (.plain (OpenSpec.ofChange fnExactTimeReadSpec)) fnExactTimeReadCard

/-- THE SECOND FORM's CARD OF 'laws.FnExactTimeRead'. -/
def fnExactTimeReadUptoCard : Claim7 := { stood := { row := fnExactTimeReadUptoRow, standIns := [], harness := (true, "a5ef94048028e9dc47f9ae01ab1222d7308cb8cff00c04a1b149165aacb9bb92"), looks := false }, kinds := [], alts := [], laidByText := true, laidKinds := [.data], laidTests := true, laidLooks := .later }
def FnExactTimeReadUptoCardSaid : Prop := Claim7.holds Tryd.pinned (.plain (OpenSpec.upto fnExactTimeReadSpec)) fnExactTimeReadUptoCard
end Rows
end Go.Proofs.YtmmbfoncpjjonacDoor
