/-
  DERIVED. GIVEN WITH THE SEED: THE CARDS: each row of YtmmbfoncpjjonaaDoorRows.lean that lists a variable, with what it lists TIED to the program's text (the seventh form; the later family's looks); each row that meets fmt, with fmt's text TOLD by the authors' own Lean function (tested against real Go, not proved from fmt's source: count such statements apart). THE CARD IS WHAT COUNTS. Prove the row's statement (the work); the ties are given (YtmmbfoncpjjonaaDoorTie.lean); close each card by the builder's one call (the guide's Derived/Test/ToyasCard.lean, 'card_holds'). Laid BY PROGRAM, IN A SANDBOX (cutbox-door.mjs). By AI agents, Wed Nov 11 2026. No macro, syntax, notation, axiom, sorry.
-/
import Derived.Test.YtmmbfoncpjjonaaDoorRows
import GoSem.ClaimSeven
namespace Go.Proofs.YtmmbfoncpjjonaaDoor
namespace Rows

/-- THE TIED CARD OF 'laws.FnExactHostOk'. -/
def fnExactHostOkCard : Claim7 := { stood := { row := fnExactHostOkRow, standIns := [], harness := (true, "62073a69dc6cf52526dd3abf26b5a4a5e8ed67c69889c47738f828cdf7dde495"), looks := false }, kinds := [], alts := [], laidByText := true, laidKinds := [.data, .pinned], laidTests := true, laidLooks := .later }
def FnExactHostOkCardSaid : Prop := Claim7.holds Tryd.pinned (.plain (OpenSpec.ofChange fnExactHostOkSpec)) fnExactHostOkCard

/-- THE TIED CARD OF 'laws.FnExactHostMatch'. -/
def fnExactHostMatchCard : Claim7 := { stood := { row := fnExactHostMatchRow, standIns := [], harness := (true, "62073a69dc6cf52526dd3abf26b5a4a5e8ed67c69889c47738f828cdf7dde495"), looks := false }, kinds := [], alts := [], laidByText := true, laidKinds := [.data, .pinned], laidTests := true, laidLooks := .later }
def FnExactHostMatchCardSaid : Prop := Claim7.holds Tryd.pinned (.plain (OpenSpec.ofChange fnExactHostMatchSpec)) fnExactHostMatchCard

/-- THE SECOND FORM's CARD OF 'laws.FnExactHostOk'. -/
def fnExactHostOkUptoCard : Claim7 := { stood := { row := fnExactHostOkUptoRow, standIns := [], harness := (true, "62073a69dc6cf52526dd3abf26b5a4a5e8ed67c69889c47738f828cdf7dde495"), looks := false }, kinds := [], alts := [], laidByText := true, laidKinds := [.data, .pinned], laidTests := true, laidLooks := .later }
def FnExactHostOkUptoCardSaid : Prop := Claim7.holds Tryd.pinned (.plain (OpenSpec.upto fnExactHostOkSpec)) fnExactHostOkUptoCard

/-- THE SECOND FORM's CARD OF 'laws.FnExactHostMatch'. -/
def fnExactHostMatchUptoCard : Claim7 := { stood := { row := fnExactHostMatchUptoRow, standIns := [], harness := (true, "62073a69dc6cf52526dd3abf26b5a4a5e8ed67c69889c47738f828cdf7dde495"), looks := false }, kinds := [], alts := [], laidByText := true, laidKinds := [.data, .pinned], laidTests := true, laidLooks := .later }
def FnExactHostMatchUptoCardSaid : Prop := Claim7.holds Tryd.pinned (.plain (OpenSpec.upto fnExactHostMatchSpec)) fnExactHostMatchUptoCard
end Rows
end Go.Proofs.YtmmbfoncpjjonaaDoor
