/-
  DERIVED. GIVEN WITH THE SEED: THE CARDS: each row of YtnmplldhdfingaaGreatDoorRows.lean that lists a variable, with what it lists TIED to the program's text (the seventh form; the later family's looks); each row that meets fmt, with fmt's text TOLD by the authors' own Lean function (tested against real Go, not proved from fmt's source: count such statements apart). THE CARD IS WHAT COUNTS. Prove the row's statement (the work); the ties are given (YtnmplldhdfingaaGreatDoorTie.lean); close each card by the builder's one call (the guide's Derived/Test/ToyasCard.lean, 'card_holds'). Laid BY PROGRAM, IN A SANDBOX (cutbox-door.mjs). By AI agents, Wed Nov 11 2026. No macro, syntax, notation, axiom, sorry.
-/
import Derived.Test.YtnmplldhdfingaaGreatDoorRows
import GoSem.ClaimSeven
namespace Go.Proofs.YtnmplldhdfingaaGreatDoor
namespace Rows

/-- THE TIED CARD OF 'laws.FnExactSignCrl'. -/
def fnExactSignCrlCard : Claim7 := { stood := { row := fnExactSignCrlRow, standIns := [], harness := (true, "20c2a6dafc9fe0f7df79fa3dd6c4b6668f2625d338e1bde882b066088ec9d366"), looks := false }, kinds := [], alts := [], laidByText := true, laidKinds := [.data, .data, .data], laidTests := true, laidLooks := .later }
def FnExactSignCrlCardSaid : Prop := Claim7.holds Tryz.pinned (.plain (OpenSpec.ofChange fnExactSignCrlSpec)) fnExactSignCrlCard

/-- THE SECOND FORM's CARD OF 'laws.FnExactSignCrl'. -/
def fnExactSignCrlUptoCard : Claim7 := { stood := { row := fnExactSignCrlUptoRow, standIns := [], harness := (true, "20c2a6dafc9fe0f7df79fa3dd6c4b6668f2625d338e1bde882b066088ec9d366"), looks := false }, kinds := [], alts := [], laidByText := true, laidKinds := [.data, .data, .data], laidTests := true, laidLooks := .later }
def FnExactSignCrlUptoCardSaid : Prop := Claim7.holds Tryz.pinned (.plain (OpenSpec.upto fnExactSignCrlSpec)) fnExactSignCrlUptoCard
end Rows
end Go.Proofs.YtnmplldhdfingaaGreatDoor
