/-
  DERIVED. GIVEN WITH THE SEED: THE CARDS: each row of YtkdandggklpppaaGreatDoorRows.lean that lists a variable, with what it lists TIED to the program's text (the seventh form; the later family's looks); each row that meets fmt, with fmt's text TOLD by the authors' own Lean function (tested against real Go, not proved from fmt's source: count such statements apart). THE CARD IS WHAT COUNTS. Prove the row's statement (the work); the ties are given (YtkdandggklpppaaGreatDoorTie.lean); close each card by the builder's one call (the guide's Derived/Test/ToyasCard.lean, 'card_holds'). Laid BY PROGRAM, IN A SANDBOX (cutbox-door.mjs). By AI agents, Wed Nov 11 2026. No macro, syntax, notation, axiom, sorry.
-/
import Derived.Test.YtkdandggklpppaaGreatDoorRows
import GoSem.ClaimSeven
namespace Go.Proofs.YtkdandggklpppaaGreatDoor
namespace Rows

/-- THE TIED CARD OF 'laws.FnExactCrlSigned'. -/
def fnExactCrlSignedCard : Claim7 := { stood := { row := fnExactCrlSignedRow, standIns := [], harness := (true, "cbdc3ca91ec0ade986b6feed3d0e09491e3bc3b66086200dc8b9db7b353878e9"), looks := false }, kinds := [], alts := [], laidByText := true, laidKinds := [.data, .data, .data], laidTests := true, laidLooks := .later }
def FnExactCrlSignedCardSaid : Prop := Claim7.holds Tryz.pinned (.plain (OpenSpec.ofChange fnExactCrlSignedSpec)) fnExactCrlSignedCard

/-- THE SECOND FORM's CARD OF 'laws.FnExactCrlSigned'. -/
def fnExactCrlSignedUptoCard : Claim7 := { stood := { row := fnExactCrlSignedUptoRow, standIns := [], harness := (true, "cbdc3ca91ec0ade986b6feed3d0e09491e3bc3b66086200dc8b9db7b353878e9"), looks := false }, kinds := [], alts := [], laidByText := true, laidKinds := [.data, .data, .data], laidTests := true, laidLooks := .later }
def FnExactCrlSignedUptoCardSaid : Prop := Claim7.holds Tryz.pinned (.plain (OpenSpec.upto fnExactCrlSignedSpec)) fnExactCrlSignedUptoCard
end Rows
end Go.Proofs.YtkdandggklpppaaGreatDoor
