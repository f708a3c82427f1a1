/-
  DERIVED. GIVEN WITH THE SEED: THE CARDS: each row of YtaiflnccpgcklaaDoorRows.lean that lists a variable, with what it lists TIED to the program's text (the seventh form; the later family's looks); each row that meets fmt, with fmt's text TOLD by the authors' own Lean function (tested against real Go, not proved from fmt's source: count such statements apart). THE CARD IS WHAT COUNTS. Prove the row's statement (the work); the ties are given (YtaiflnccpgcklaaDoorTie.lean); close each card by the builder's one call (the guide's Derived/Test/ToyasCard.lean, 'card_holds'). Laid BY PROGRAM, IN A SANDBOX (cutbox-door.mjs). By AI agents, Wed Nov 11 2026. No macro, syntax, notation, axiom, sorry.
-/
import Derived.Test.YtaiflnccpgcklaaDoorRows
import GoSem.ClaimSeven
namespace Go.Proofs.YtaiflnccpgcklaaDoor
namespace Rows

/-- THE TIED CARD OF 'laws.FnExactShowSchema'. -/
def fnExactShowSchemaCard : Claim7 := { stood := { row := fnExactShowSchemaRow, standIns := [], harness := (true, "c1f0e8bb304df24909562eb38b2ee8ca3eb75a955c759314b5fbd5ec6bbb63df"), looks := false }, kinds := [], alts := [], laidByText := true, laidKinds := [.data, .data, .data, .data], laidTests := true, laidLooks := .later }
def FnExactShowSchemaCardSaid : Prop := Claim7.holds Tryd.pinned (.plain (OpenSpec.ofChange fnExactShowSchemaSpec)) fnExactShowSchemaCard

/-- THE SECOND FORM's CARD OF 'laws.FnExactShowSchema'. -/
def fnExactShowSchemaUptoCard : Claim7 := { stood := { row := fnExactShowSchemaUptoRow, standIns := [], harness := (true, "c1f0e8bb304df24909562eb38b2ee8ca3eb75a955c759314b5fbd5ec6bbb63df"), looks := false }, kinds := [], alts := [], laidByText := true, laidKinds := [.data, .data, .data, .data], laidTests := true, laidLooks := .later }
def FnExactShowSchemaUptoCardSaid : Prop := Claim7.holds Tryd.pinned (.plain (OpenSpec.upto fnExactShowSchemaSpec)) fnExactShowSchemaUptoCard
end Rows
end Go.Proofs.YtaiflnccpgcklaaDoor
