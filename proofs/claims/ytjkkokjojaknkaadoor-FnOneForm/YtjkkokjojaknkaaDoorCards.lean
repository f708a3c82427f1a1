/-
  DERIVED. GIVEN WITH THE SEED: THE CARDS: each row of YtjkkokjojaknkaaDoorRows.lean that lists a variable, with what it lists TIED to the program's text (the seventh form; the later family's looks); each row that meets fmt, with fmt's text TOLD by the authors' own Lean function (tested against real Go, not proved from fmt's source: count such statements apart). THE CARD IS WHAT COUNTS. Prove the row's statement (the work); the ties are given (YtjkkokjojaknkaaDoorTie.lean); close each card by the builder's one call (the guide's Derived/Test/ToyasCard.lean, 'card_holds'). Laid BY PROGRAM, IN A SANDBOX (cutbox-door.mjs). By AI agents, Wed Nov 11 2026. No macro, syntax, notation, axiom, sorry.
-/
import Derived.Test.YtjkkokjojaknkaaDoorRows
import GoSem.ClaimSeven
namespace Go.Proofs.YtjkkokjojaknkaaDoor
namespace Rows

/-- THE TIED CARD OF 'laws.FnItemBack'. -/
def fnItemBackCard : Claim7 := { stood := { row := fnItemBackRow, standIns := [], harness := (true, "2d93f7d8af0eecf9581e965b42e9e5dadc690a77b5c0866a38bede91b18afdb9"), looks := true }, kinds := [], alts := [], laidByText := true, laidKinds := [.handle], laidTests := true, laidLooks := .later }
def FnItemBackCardSaid : Prop := Claim7.holds Tryd.pinned (.plain (OpenSpec.ofChange fnItemBackSpec)) fnItemBackCard

/-- THE TIED CARD OF 'laws.FnLaxSame'. -/
def fnLaxSameCard : Claim7 := { stood := { row := fnLaxSameRow, standIns := [], harness := (true, "2d93f7d8af0eecf9581e965b42e9e5dadc690a77b5c0866a38bede91b18afdb9"), looks := true }, kinds := [], alts := [], laidByText := true, laidKinds := [.handle], laidTests := true, laidLooks := .later }
def FnLaxSameCardSaid : Prop := Claim7.holds Tryd.pinned (.plain (OpenSpec.ofChange fnLaxSameSpec)) fnLaxSameCard

/-- THE TIED CARD OF 'laws.FnOneForm'. -/
def fnOneFormCard : Claim7 := { stood := { row := fnOneFormRow, standIns := [], harness := (true, "2d93f7d8af0eecf9581e965b42e9e5dadc690a77b5c0866a38bede91b18afdb9"), looks := true }, kinds := [], alts := [], laidByText := true, laidKinds := [.handle], laidTests := true, laidLooks := .later }
def FnOneFormCardSaid : Prop := Claim7.holds Tryd.pinned (.plain (OpenSpec.ofChange fnOneFormSpec)) fnOneFormCard

/-- THE TIED CARD OF 'laws.FnExactReadItem'. -/
def fnExactReadItemCard : Claim7 := { stood := { row := fnExactReadItemRow, standIns := [], harness := (true, "2d93f7d8af0eecf9581e965b42e9e5dadc690a77b5c0866a38bede91b18afdb9"), looks := true }, kinds := [], alts := [], laidByText := true, laidKinds := [.handle], laidTests := true, laidLooks := .later }
def FnExactReadItemCardSaid : Prop := Claim7.holds Tryd.pinned (.plain (OpenSpec.ofChange fnExactReadItemSpec)) fnExactReadItemCard

/-- THE TIED CARD OF 'laws.FnExactCanon'. -/
def fnExactCanonCard : Claim7 := { stood := { row := fnExactCanonRow, standIns := [], harness := (true, "2d93f7d8af0eecf9581e965b42e9e5dadc690a77b5c0866a38bede91b18afdb9"), looks := true }, kinds := [], alts := [], laidByText := true, laidKinds := [.handle], laidTests := true, laidLooks := .later }
def FnExactCanonCardSaid : Prop := Claim7.holds Tryd.pinned (.plain (OpenSpec.ofChange fnExactCanonSpec)) fnExactCanonCard

/-- THE SECOND FORM's CARD OF 'laws.FnItemBack'. -/
def fnItemBackUptoCard : Claim7 := { stood := { row := fnItemBackUptoRow, standIns := [], harness := (true, "2d93f7d8af0eecf9581e965b42e9e5dadc690a77b5c0866a38bede91b18afdb9"), looks := true }, kinds := [], alts := [], laidByText := true, laidKinds := [.handle], laidTests := true, laidLooks := .later }
def FnItemBackUptoCardSaid : Prop := Claim7.holds Tryd.pinned (.plain (OpenSpec.upto fnItemBackSpec)) fnItemBackUptoCard

/-- THE SECOND FORM's CARD OF 'laws.FnLaxSame'. -/
def fnLaxSameUptoCard : Claim7 := { stood := { row := fnLaxSameUptoRow, standIns := [], harness := (true, "2d93f7d8af0eecf9581e965b42e9e5dadc690a77b5c0866a38bede91b18afdb9"), looks := true }, kinds := [], alts := [], laidByText := true, laidKinds := [.handle], laidTests := true, laidLooks := .later }
def FnLaxSameUptoCardSaid : Prop := Claim7.holds Tryd.pinned (.plain (OpenSpec.upto fnLaxSameSpec)) fnLaxSameUptoCard

/-- THE SECOND FORM's CARD OF 'laws.FnOneForm'. -/
def fnOneFormUptoCard : Claim7 := { stood := { row := fnOneFormUptoRow, standIns := [], harness := (true, "2d93f7d8af0eecf9581e965b42e9e5dadc690a77b5c0866a38bede91b18afdb9"), looks := true }, kinds := [], alts := [], laidByText := true, laidKinds := [.handle], laidTests := true, laidLooks := .later }
def FnOneFormUptoCardSaid : Prop := Claim7.holds Tryd.pinned (.plain (OpenSpec.upto fnOneFormSpec)) fnOneFormUptoCard

/-- THE SECOND FORM's CARD OF 'laws.FnExactReadItem'. -/
def fnExactReadItemUptoCard : Claim7 := { stood := { row := fnExactReadItemUptoRow, standIns := [], harness := (true, "2d93f7d8af0eecf9581e965b42e9e5dadc690a77b5c0866a38bede91b18afdb9"), looks := true }, kinds := [], alts := [], laidByText := true, laidKinds := [.handle], laidTests := true, laidLooks := .later }
def FnExactReadItemUptoCardSaid : Prop := Claim7.holds Tryd.pinned (.plain (OpenSpec.upto fnExactReadItemSpec)) fnExactReadItemUptoCard

/-- THE SECOND FORM's CARD OF 'laws.FnExactCanon'. -/
def fnExactCanonUptoCard : Claim7 := { stood := { row := fnExactCanonUptoRow, standIns := [], harness := (true, "2d93f7d8af0eecf9581e965b42e9e5dadc690a77b5c0866a38bede91b18afdb9"), looks := true }, kinds := [], alts := [], laidByText := true, laidKinds := [.handle], laidTests := true, laidLooks := .later }
def FnExactCanonUptoCardSaid : Prop := Claim7.holds Tryd.pinned (.plain (OpenSpec.upto fnExactCanonSpec)) fnExactCanonUptoCard
end Rows
end Go.Proofs.YtjkkokjojaknkaaDoor
