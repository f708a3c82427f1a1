/-
  DERIVED. GIVEN WITH THE SEED: THE CARDS: each row of YtmdfbnlgfhjnoaaGreatDoorRows.lean that lists a variable, with what it lists TIED to the program's text (the seventh form; the later family's looks); each row that meets fmt, with fmt's text TOLD by the authors' own Lean function (tested against real Go, not proved from fmt's source: count such statements apart). THE CARD IS WHAT COUNTS. Prove the row's statement (the work); the ties are given (YtmdfbnlgfhjnoaaGreatDoorTie.lean); close each card by the builder's one call (the guide's Derived/Test/ToyasCard.lean, 'card_holds'). Laid BY PROGRAM, IN A SANDBOX (cutbox-door.mjs). By AI agents, Wed Nov 11 2026. No macro, syntax, notation, axiom, sorry.
-/
import Derived.Test.YtmdfbnlgfhjnoaaGreatDoorRows
import GoSem.ClaimSeven
namespace Go.Proofs.YtmdfbnlgfhjnoaaGreatDoor
namespace Rows

/-- THE TIED CARD OF 'laws.FnExactCertBody'. -/
def fnExactCertBodyCard : Claim7 := { stood := { row := fnExactCertBodyRow, standIns := [], harness := (true, "34af16c020bf33eeb92ae3363717cf2a54754f7dc243c45ab37d86f6bc17b07f"), looks := false }, kinds := [], alts := [], laidByText := true, laidKinds := [.data, .pinned], laidTests := true, laidLooks := .later }
def FnExactCertBodyCardSaid : Prop := Claim7.holds Tryz.pinned (.plain (OpenSpec.ofChange fnExactCertBodySpec)) fnExactCertBodyCard

/-- THE TIED CARD OF 'laws.FnExactCertBytes'. -/
def fnExactCertBytesCard : Claim7 := { stood := { row := fnExactCertBytesRow, standIns := [], harness := (true, "34af16c020bf33eeb92ae3363717cf2a54754f7dc243c45ab37d86f6bc17b07f"), looks := false }, kinds := [], alts := [], laidByText := true, laidKinds := [.data, .pinned], laidTests := true, laidLooks := .later }
def FnExactCertBytesCardSaid : Prop := Claim7.holds Tryz.pinned (.plain (OpenSpec.ofChange fnExactCertBytesSpec)) fnExactCertBytesCard

/-- THE TIED CARD OF 'laws.FnExactFinger'. -/
def fnExactFingerCard : Claim7 := { stood := { row := fnExactFingerRow, standIns := [], harness := (true, "34af16c020bf33eeb92ae3363717cf2a54754f7dc243c45ab37d86f6bc17b07f"), looks := false }, kinds := [], alts := [], laidByText := true, laidKinds := [.data, .pinned], laidTests := true, laidLooks := .later }
def FnExactFingerCardSaid : Prop := Claim7.holds Tryz.pinned (.plain (OpenSpec.ofChange fnExactFingerSpec)) fnExactFingerCard

/-- THE TIED CARD OF 'laws.FnExactCertSigned'. -/
def fnExactCertSignedCard : Claim7 := { stood := { row := fnExactCertSignedRow, standIns := [], harness := (true, "34af16c020bf33eeb92ae3363717cf2a54754f7dc243c45ab37d86f6bc17b07f"), looks := false }, kinds := [], alts := [], laidByText := true, laidKinds := [.data, .pinned], laidTests := true, laidLooks := .later }
def FnExactCertSignedCardSaid : Prop := Claim7.holds Tryz.pinned (.plain (OpenSpec.ofChange fnExactCertSignedSpec)) fnExactCertSignedCard

/-- THE TIED CARD OF 'laws.FnExactReqOk'. -/
def fnExactReqOkCard : Claim7 := { stood := { row := fnExactReqOkRow, standIns := [], harness := (true, "34af16c020bf33eeb92ae3363717cf2a54754f7dc243c45ab37d86f6bc17b07f"), looks := false }, kinds := [], alts := [], laidByText := true, laidKinds := [.data, .pinned], laidTests := true, laidLooks := .later }
def FnExactReqOkCardSaid : Prop := Claim7.holds Tryz.pinned (.plain (OpenSpec.ofChange fnExactReqOkSpec)) fnExactReqOkCard

/-- THE SECOND FORM's CARD OF 'laws.FnExactCertBody'. -/
def fnExactCertBodyUptoCard : Claim7 := { stood := { row := fnExactCertBodyUptoRow, standIns := [], harness := (true, "34af16c020bf33eeb92ae3363717cf2a54754f7dc243c45ab37d86f6bc17b07f"), looks := false }, kinds := [], alts := [], laidByText := true, laidKinds := [.data, .pinned], laidTests := true, laidLooks := .later }
def FnExactCertBodyUptoCardSaid : Prop := Claim7.holds Tryz.pinned (.plain (OpenSpec.upto fnExactCertBodySpec)) fnExactCertBodyUptoCard

/-- THE SECOND FORM's CARD OF 'laws.FnExactCertBytes'. -/
def fnExactCertBytesUptoCard : Claim7 := { stood := { row := fnExactCertBytesUptoRow, standIns := [], harness := (true, "34af16c020bf33eeb92ae3363717cf2a54754f7dc243c45ab37d86f6bc17b07f"), looks := false }, kinds := [], alts := [], laidByText := true, laidKinds := [.data, .pinned], laidTests := true, laidLooks := .later }
def FnExactCertBytesUptoCardSaid : Prop := Claim7.holds Tryz.pinned (.plain (OpenSpec.upto fnExactCertBytesSpec)) fnExactCertBytesUptoCard

/-- THE SECOND FORM's CARD OF 'laws.FnExactFinger'. -/
def fnExactFingerUptoCard : Claim7 := { stood := { row := fnExactFingerUptoRow, standIns := [], harness := (true, "34af16c020bf33eeb92ae3363717cf2a54754f7dc243c45ab37d86f6bc17b07f"), looks := false }, kinds := [], alts := [], laidByText := true, laidKinds := [.data, .pinned], laidTests := true, laidLooks := .later }
def FnExactFingerUptoCardSaid : Prop := Claim7.holds Tryz.pinned (.plain (OpenSpec.upto fnExactFingerSpec)) fnExactFingerUptoCard

/-- THE SECOND FORM's CARD OF 'laws.FnExactCertSigned'. -/
def fnExactCertSignedUptoCard : Claim7 := { stood := { row := fnExactCertSignedUptoRow, standIns := [], harness := (true, "34af16c020bf33eeb92ae3363717cf2a54754f7dc243c45ab37d86f6bc17b07f"), looks := false }, kinds := [], alts := [], laidByText := true, laidKinds := [.data, .pinned], laidTests := true, laidLooks := .later }
def FnExactCertSignedUptoCardSaid : Prop := Claim7.holds Tryz.pinned (.plain (OpenSpec.upto fnExactCertSignedSpec)) fnExactCertSignedUptoCard

/-- THE SECOND FORM's CARD OF 'laws.FnExactReqOk'. -/
def fnExactReqOkUptoCard : Claim7 := { stood := { row := fnExactReqOkUptoRow, standIns := [], harness := (true, "34af16c020bf33eeb92ae3363717cf2a54754f7dc243c45ab37d86f6bc17b07f"), looks := false }, kinds := [], alts := [], laidByText := true, laidKinds := [.data, .pinned], laidTests := true, laidLooks := .later }
def FnExactReqOkUptoCardSaid : Prop := Claim7.holds Tryz.pinned (.plain (OpenSpec.upto fnExactReqOkSpec)) fnExactReqOkUptoCard
end Rows
end Go.Proofs.YtmdfbnlgfhjnoaaGreatDoor
