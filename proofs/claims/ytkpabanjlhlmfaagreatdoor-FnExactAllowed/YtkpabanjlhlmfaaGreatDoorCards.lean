/-
  DERIVED. GIVEN WITH THE SEED: THE CARDS: each row of YtkpabanjlhlmfaaGreatDoorRows.lean that lists a variable, with what it lists TIED to the program's text (the seventh form; the later family's looks); each row that meets fmt, with fmt's text TOLD by the authors' own Lean function (tested against real Go, not proved from fmt's source: count such statements apart). THE CARD IS WHAT COUNTS. Prove the row's statement (the work); the ties are given (YtkpabanjlhlmfaaGreatDoorTie.lean); close each card by the builder's one call (the guide's Derived/Test/ToyasCard.lean, 'card_holds'). Laid BY PROGRAM, IN A SANDBOX (cutbox-door.mjs). By AI agents, Wed Nov 11 2026. No macro, syntax, notation, axiom, sorry.
-/
import Derived.Test.YtkpabanjlhlmfaaGreatDoorRows
import GoSem.ClaimSeven
namespace Go.Proofs.YtkpabanjlhlmfaaGreatDoor
namespace Rows

/-- THE TIED CARD OF 'laws.FnExactCertOk'. -/
def fnExactCertOkCard : Claim7 := { stood := { row := fnExactCertOkRow, standIns := [], harness := (true, "c3741f7f79aa16fb66e4425992f382575839678b7d8fbc332a415e95e3b9299a"), looks := false }, kinds := [], alts := [], laidByText := true, laidKinds := [.data, .pinned], laidTests := true, laidLooks := .later }
def FnExactCertOkCardSaid : Prop := Claim7.holds Tryz.pinned (.plain (OpenSpec.ofChange fnExactCertOkSpec)) fnExactCertOkCard

/-- THE TIED CARD OF 'laws.FnExactFitsNames'. -/
def fnExactFitsNamesCard : Claim7 := { stood := { row := fnExactFitsNamesRow, standIns := [], harness := (true, "c3741f7f79aa16fb66e4425992f382575839678b7d8fbc332a415e95e3b9299a"), looks := false }, kinds := [], alts := [], laidByText := true, laidKinds := [.data, .pinned], laidTests := true, laidLooks := .later }
def FnExactFitsNamesCardSaid : Prop := Claim7.holds Tryz.pinned (.plain (OpenSpec.ofChange fnExactFitsNamesSpec)) fnExactFitsNamesCard

/-- THE TIED CARD OF 'laws.FnExactAllowed'. -/
def fnExactAllowedCard : Claim7 := { stood := { row := fnExactAllowedRow, standIns := [], harness := (true, "c3741f7f79aa16fb66e4425992f382575839678b7d8fbc332a415e95e3b9299a"), looks := false }, kinds := [], alts := [], laidByText := true, laidKinds := [.data, .pinned], laidTests := true, laidLooks := .later }
def FnExactAllowedCardSaid : Prop := Claim7.holds Tryz.pinned (.plain (OpenSpec.ofChange fnExactAllowedSpec)) fnExactAllowedCard

/-- THE SECOND FORM's CARD OF 'laws.FnExactCertOk'. -/
def fnExactCertOkUptoCard : Claim7 := { stood := { row := fnExactCertOkUptoRow, standIns := [], harness := (true, "c3741f7f79aa16fb66e4425992f382575839678b7d8fbc332a415e95e3b9299a"), looks := false }, kinds := [], alts := [], laidByText := true, laidKinds := [.data, .pinned], laidTests := true, laidLooks := .later }
def FnExactCertOkUptoCardSaid : Prop := Claim7.holds Tryz.pinned (.plain (OpenSpec.upto fnExactCertOkSpec)) fnExactCertOkUptoCard

/-- THE SECOND FORM's CARD OF 'laws.FnExactFitsNames'. -/
def fnExactFitsNamesUptoCard : Claim7 := { stood := { row := fnExactFitsNamesUptoRow, standIns := [], harness := (true, "c3741f7f79aa16fb66e4425992f382575839678b7d8fbc332a415e95e3b9299a"), looks := false }, kinds := [], alts := [], laidByText := true, laidKinds := [.data, .pinned], laidTests := true, laidLooks := .later }
def FnExactFitsNamesUptoCardSaid : Prop := Claim7.holds Tryz.pinned (.plain (OpenSpec.upto fnExactFitsNamesSpec)) fnExactFitsNamesUptoCard

/-- THE SECOND FORM's CARD OF 'laws.FnExactAllowed'. -/
def fnExactAllowedUptoCard : Claim7 := { stood := { row := fnExactAllowedUptoRow, standIns := [], harness := (true, "c3741f7f79aa16fb66e4425992f382575839678b7d8fbc332a415e95e3b9299a"), looks := false }, kinds := [], alts := [], laidByText := true, laidKinds := [.data, .pinned], laidTests := true, laidLooks := .later }
def FnExactAllowedUptoCardSaid : Prop := Claim7.holds Tryz.pinned (.plain (OpenSpec.upto fnExactAllowedSpec)) fnExactAllowedUptoCard
end Rows
end Go.Proofs.YtkpabanjlhlmfaaGreatDoor
