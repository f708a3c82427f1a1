/-
  DERIVED. GIVEN WITH THE SEED: THE CARDS: each row of YtoldngiclmidaaaGreatDoorRows.lean that lists a variable, with what it lists TIED to the program's text (the seventh form; the later family's looks); each row that meets fmt, with fmt's text TOLD by the authors' own Lean function (tested against real Go, not proved from fmt's source: count such statements apart). THE CARD IS WHAT COUNTS. Prove the row's statement (the work); the ties are given (YtoldngiclmidaaaGreatDoorTie.lean); close each card by the builder's one call (the guide's Derived/Test/ToyasCard.lean, 'card_holds'). Laid BY PROGRAM, IN A SANDBOX (cutbox-door.mjs). By AI agents, Wed Nov 11 2026. No macro, syntax, notation, axiom, sorry.
-/
import Derived.Test.YtoldngiclmidaaaGreatDoorRows
import GoSem.ClaimSeven
namespace Go.Proofs.YtoldngiclmidaaaGreatDoor
namespace Rows

/-- THE TIED CARD OF 'laws.FnExactAnchorOk'. -/
def fnExactAnchorOkCard : Claim7 := { stood := { row := fnExactAnchorOkRow, standIns := [], harness := (true, "cd727ff8747cfef3d2ace481b775d1b06577a9e953d6897c391a5a1155673f4a"), looks := false }, kinds := [], alts := [], laidByText := true, laidKinds := [.data, .pinned], laidTests := true, laidLooks := .later }
def FnExactAnchorOkCardSaid : Prop := Claim7.holds Tryz.pinned (.plain (OpenSpec.ofChange fnExactAnchorOkSpec)) fnExactAnchorOkCard

/-- THE TIED CARD OF 'laws.FnExactAskOk'. -/
def fnExactAskOkCard : Claim7 := { stood := { row := fnExactAskOkRow, standIns := [], harness := (true, "cd727ff8747cfef3d2ace481b775d1b06577a9e953d6897c391a5a1155673f4a"), looks := false }, kinds := [], alts := [], laidByText := true, laidKinds := [.data, .pinned], laidTests := true, laidLooks := .later }
def FnExactAskOkCardSaid : Prop := Claim7.holds Tryz.pinned (.plain (OpenSpec.ofChange fnExactAskOkSpec)) fnExactAskOkCard

/-- THE SECOND FORM's CARD OF 'laws.FnExactAnchorOk'. -/
def fnExactAnchorOkUptoCard : Claim7 := { stood := { row := fnExactAnchorOkUptoRow, standIns := [], harness := (true, "cd727ff8747cfef3d2ace481b775d1b06577a9e953d6897c391a5a1155673f4a"), looks := false }, kinds := [], alts := [], laidByText := true, laidKinds := [.data, .pinned], laidTests := true, laidLooks := .later }
def FnExactAnchorOkUptoCardSaid : Prop := Claim7.holds Tryz.pinned (.plain (OpenSpec.upto fnExactAnchorOkSpec)) fnExactAnchorOkUptoCard

/-- THE SECOND FORM's CARD OF 'laws.FnExactAskOk'. -/
def fnExactAskOkUptoCard : Claim7 := { stood := { row := fnExactAskOkUptoRow, standIns := [], harness := (true, "cd727ff8747cfef3d2ace481b775d1b06577a9e953d6897c391a5a1155673f4a"), looks := false }, kinds := [], alts := [], laidByText := true, laidKinds := [.data, .pinned], laidTests := true, laidLooks := .later }
def FnExactAskOkUptoCardSaid : Prop := Claim7.holds Tryz.pinned (.plain (OpenSpec.upto fnExactAskOkSpec)) fnExactAskOkUptoCard
end Rows
end Go.Proofs.YtoldngiclmidaaaGreatDoor
