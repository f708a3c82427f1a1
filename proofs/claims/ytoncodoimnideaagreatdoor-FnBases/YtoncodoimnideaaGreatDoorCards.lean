/-
  DERIVED. GIVEN WITH THE SEED: THE CARDS: each row of YtoncodoimnideaaGreatDoorRows.lean that lists a variable, with what it lists TIED to the program's text (the seventh form; the later family's looks); each row that meets fmt, with fmt's text TOLD by the authors' own Lean function (tested against real Go, not proved from fmt's source: count such statements apart). THE CARD IS WHAT COUNTS. Prove the row's statement (the work); the ties are given (YtoncodoimnideaaGreatDoorTie.lean); close each card by the builder's one call (the guide's Derived/Test/ToyasCard.lean, 'card_holds'). Laid BY PROGRAM, IN A SANDBOX (cutbox-door.mjs). By AI agents, Wed Nov 11 2026. No macro, syntax, notation, axiom, sorry.
-/
import Derived.Test.YtoncodoimnideaaGreatDoorRows
import GoSem.ClaimSeven
namespace Go.Proofs.YtoncodoimnideaaGreatDoor
namespace Rows

/-- THE TIED CARD OF 'laws.FnWildHosts'. -/
def fnWildHostsCard : Claim7 := { stood := { row := fnWildHostsRow, standIns := [], harness := (true, "dfa48261aefa9cc11b7099093df5805f59ca9b0a95c997e2443c4efa303ebba7"), looks := false }, kinds := [], alts := [], laidByText := true, laidKinds := [.data, .pinned], laidTests := true, laidLooks := .later }
def FnWildHostsCardSaid : Prop := Claim7.holds Tryz.pinned (.plain (OpenSpec.ofChange fnWildHostsSpec)) fnWildHostsCard

/-- THE TIED CARD OF 'laws.FnBases'. -/
def fnBasesCard : Claim7 := { stood := { row := fnBasesRow, standIns := [], harness := (true, "dfa48261aefa9cc11b7099093df5805f59ca9b0a95c997e2443c4efa303ebba7"), looks := false }, kinds := [], alts := [], laidByText := true, laidKinds := [.data, .pinned], laidTests := true, laidLooks := .later }
def FnBasesCardSaid : Prop := Claim7.holds Tryz.pinned (.plain (OpenSpec.ofChange fnBasesSpec)) fnBasesCard

/-- THE SECOND FORM's CARD OF 'laws.FnWildHosts'. -/
def fnWildHostsUptoCard : Claim7 := { stood := { row := fnWildHostsUptoRow, standIns := [], harness := (true, "dfa48261aefa9cc11b7099093df5805f59ca9b0a95c997e2443c4efa303ebba7"), looks := false }, kinds := [], alts := [], laidByText := true, laidKinds := [.data, .pinned], laidTests := true, laidLooks := .later }
def FnWildHostsUptoCardSaid : Prop := Claim7.holds Tryz.pinned (.plain (OpenSpec.upto fnWildHostsSpec)) fnWildHostsUptoCard

/-- THE SECOND FORM's CARD OF 'laws.FnBases'. -/
def fnBasesUptoCard : Claim7 := { stood := { row := fnBasesUptoRow, standIns := [], harness := (true, "dfa48261aefa9cc11b7099093df5805f59ca9b0a95c997e2443c4efa303ebba7"), looks := false }, kinds := [], alts := [], laidByText := true, laidKinds := [.data, .pinned], laidTests := true, laidLooks := .later }
def FnBasesUptoCardSaid : Prop := Claim7.holds Tryz.pinned (.plain (OpenSpec.upto fnBasesSpec)) fnBasesUptoCard
end Rows
end Go.Proofs.YtoncodoimnideaaGreatDoor
