/-
  DERIVED. GIVEN WITH THE SEED: THE CARDS: each row of YtbfjkmlmnhphoaaDoorRows.lean that lists a variable, with what it lists TIED to the program's text (the seventh form; the later family's looks); each row that meets fmt, with fmt's text TOLD by the authors' own Lean function (tested against real Go, not proved from fmt's source: count such statements apart). THE CARD IS WHAT COUNTS. Prove the row's statement (the work); the ties are given (YtbfjkmlmnhphoaaDoorTie.lean); close each card by the builder's one call (the guide's Derived/Test/ToyasCard.lean, 'card_holds'). Laid BY PROGRAM, IN A SANDBOX (cutbox-door.mjs). By AI agents, Wed Nov 11 2026. No macro, syntax, notation, axiom, sorry.
-/
import Derived.Test.YtbfjkmlmnhphoaaDoorRows
import GoSem.ClaimSeven
namespace Go.Proofs.YtbfjkmlmnhphoaaDoor
namespace Rows

/-- THE TIED CARD OF 'laws.FnExactCrlOk'. -/
def fnExactCrlOkCard : Claim7 := { stood := { row := fnExactCrlOkRow, standIns := [], harness := (true, "cd5e8cb9de5b68c582ba1027bfa8e8b4548153fb0a48119b4190750f33a5f1c6"), looks := false }, kinds := [], alts := [], laidByText := true, laidKinds := [.data, .data, .data], laidTests := true, laidLooks := .later }
def FnExactCrlOkCardSaid : Prop := Claim7.holds Tryd.pinned (.plain (OpenSpec.ofChange fnExactCrlOkSpec)) fnExactCrlOkCard

/-- THE TIED CARD OF 'laws.FnExactMakeDelta'. -/
def fnExactMakeDeltaCard : Claim7 := { stood := { row := fnExactMakeDeltaRow, standIns := [], harness := (true, "cd5e8cb9de5b68c582ba1027bfa8e8b4548153fb0a48119b4190750f33a5f1c6"), looks := false }, kinds := [], alts := [], laidByText := true, laidKinds := [.data, .data, .data], laidTests := true, laidLooks := .later }
def FnExactMakeDeltaCardSaid : Prop := Claim7.holds Tryd.pinned (.plain (OpenSpec.ofChange fnExactMakeDeltaSpec)) fnExactMakeDeltaCard

/-- THE TIED CARD OF 'laws.FnExactApplyDelta'. -/
def fnExactApplyDeltaCard : Claim7 := { stood := { row := fnExactApplyDeltaRow, standIns := [], harness := (true, "cd5e8cb9de5b68c582ba1027bfa8e8b4548153fb0a48119b4190750f33a5f1c6"), looks := false }, kinds := [], alts := [], laidByText := true, laidKinds := [.data, .data, .data], laidTests := true, laidLooks := .later }
def FnExactApplyDeltaCardSaid : Prop := Claim7.holds Tryd.pinned (.plain (OpenSpec.ofChange fnExactApplyDeltaSpec)) fnExactApplyDeltaCard

/-- THE TIED CARD OF 'laws.FnExactStanding'. -/
def fnExactStandingCard : Claim7 := { stood := { row := fnExactStandingRow, standIns := [], harness := (true, "cd5e8cb9de5b68c582ba1027bfa8e8b4548153fb0a48119b4190750f33a5f1c6"), looks := false }, kinds := [], alts := [], laidByText := true, laidKinds := [.data, .data, .data], laidTests := true, laidLooks := .later }
def FnExactStandingCardSaid : Prop := Claim7.holds Tryd.pinned (.plain (OpenSpec.ofChange fnExactStandingSpec)) fnExactStandingCard

/-- THE SECOND FORM's CARD OF 'laws.FnExactCrlOk'. -/
def fnExactCrlOkUptoCard : Claim7 := { stood := { row := fnExactCrlOkUptoRow, standIns := [], harness := (true, "cd5e8cb9de5b68c582ba1027bfa8e8b4548153fb0a48119b4190750f33a5f1c6"), looks := false }, kinds := [], alts := [], laidByText := true, laidKinds := [.data, .data, .data], laidTests := true, laidLooks := .later }
def FnExactCrlOkUptoCardSaid : Prop := Claim7.holds Tryd.pinned (.plain (OpenSpec.upto fnExactCrlOkSpec)) fnExactCrlOkUptoCard

/-- THE SECOND FORM's CARD OF 'laws.FnExactMakeDelta'. -/
def fnExactMakeDeltaUptoCard : Claim7 := { stood := { row := fnExactMakeDeltaUptoRow, standIns := [], harness := (true, "cd5e8cb9de5b68c582ba1027bfa8e8b4548153fb0a48119b4190750f33a5f1c6"), looks := false }, kinds := [], alts := [], laidByText := true, laidKinds := [.data, .data, .data], laidTests := true, laidLooks := .later }
def FnExactMakeDeltaUptoCardSaid : Prop := Claim7.holds Tryd.pinned (.plain (OpenSpec.upto fnExactMakeDeltaSpec)) fnExactMakeDeltaUptoCard

/-- THE SECOND FORM's CARD OF 'laws.FnExactApplyDelta'. -/
def fnExactApplyDeltaUptoCard : Claim7 := { stood := { row := fnExactApplyDeltaUptoRow, standIns := [], harness := (true, "cd5e8cb9de5b68c582ba1027bfa8e8b4548153fb0a48119b4190750f33a5f1c6"), looks := false }, kinds := [], alts := [], laidByText := true, laidKinds := [.data, .data, .data], laidTests := true, laidLooks := .later }
def FnExactApplyDeltaUptoCardSaid : Prop := Claim7.holds Tryd.pinned (.plain (OpenSpec.upto fnExactApplyDeltaSpec)) fnExactApplyDeltaUptoCard

/-- THE SECOND FORM's CARD OF 'laws.FnExactStanding'. -/
def fnExactStandingUptoCard : Claim7 := { stood := { row := fnExactStandingUptoRow, standIns := [], harness := (true, "cd5e8cb9de5b68c582ba1027bfa8e8b4548153fb0a48119b4190750f33a5f1c6"), looks := false }, kinds := [], alts := [], laidByText := true, laidKinds := [.data, .data, .data], laidTests := true, laidLooks := .later }
def FnExactStandingUptoCardSaid : Prop := Claim7.holds Tryd.pinned (.plain (OpenSpec.upto fnExactStandingSpec)) fnExactStandingUptoCard
end Rows
end Go.Proofs.YtbfjkmlmnhphoaaDoor
