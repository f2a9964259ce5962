/-
  DERIVED. GIVEN WITH THE SEED: THE CARDS: each row of YtdpoceijnbbmgaaDoorRows.lean that lists a variable, with what it lists TIED to the program's text (the seventh form; the later family's looks); each row that meets fmt, with fmt's text TOLD by the authors' own Lean function (tested against real Go, not proved from fmt's source: count such statements apart). THE CARD IS WHAT COUNTS. Prove the row's statement (the work); the ties are given (YtdpoceijnbbmgaaDoorTie.lean); close each card by the builder's one call (the guide's Derived/Test/ToyasCard.lean, 'card_holds'). Laid BY PROGRAM, IN A SANDBOX (cutbox-door.mjs). By AI agents, Wed Nov 11 2026. No macro, syntax, notation, axiom, sorry.
-/
import Derived.Test.YtdpoceijnbbmgaaDoorRows
import GoSem.ClaimSeven
namespace Go.Proofs.YtdpoceijnbbmgaaDoor
namespace Rows

/-- THE TIED CARD OF 'laws.FnExactProductGraph'. -/
def fnExactProductGraphCard : Claim7 := { stood := { row := fnExactProductGraphRow, standIns := [], harness := (true, "5536c0046486681e01e5fab92ac8ee6f74011625c2a97f4c05a73b11d6c6542c"), looks := false }, kinds := [], alts := [], laidByText := true, laidKinds := [.data, .data], laidTests := true, laidLooks := .later }
def FnExactProductGraphCardSaid : Prop := Claim7.holds Tryd.pinned (.plain (OpenSpec.ofChange fnExactProductGraphSpec)) fnExactProductGraphCard

/-- THE TIED CARD OF 'laws.FnExactApplyMap'. -/
def fnExactApplyMapCard : Claim7 := { stood := { row := fnExactApplyMapRow, standIns := [], harness := (true, "5536c0046486681e01e5fab92ac8ee6f74011625c2a97f4c05a73b11d6c6542c"), looks := false }, kinds := [], alts := [], laidByText := true, laidKinds := [.data, .data], laidTests := true, laidLooks := .later }
def FnExactApplyMapCardSaid : Prop := Claim7.holds Tryd.pinned (.plain (OpenSpec.ofChange fnExactApplyMapSpec)) fnExactApplyMapCard

/-- THE TIED CARD OF 'laws.FnExactComposeMaps'. -/
def fnExactComposeMapsCard : Claim7 := { stood := { row := fnExactComposeMapsRow, standIns := [], harness := (true, "5536c0046486681e01e5fab92ac8ee6f74011625c2a97f4c05a73b11d6c6542c"), looks := false }, kinds := [], alts := [], laidByText := true, laidKinds := [.data, .data], laidTests := true, laidLooks := .later }
def FnExactComposeMapsCardSaid : Prop := Claim7.holds Tryd.pinned (.plain (OpenSpec.ofChange fnExactComposeMapsSpec)) fnExactComposeMapsCard

/-- THE TIED CARD OF 'laws.FnExactMapOfPoly'. -/
def fnExactMapOfPolyCard : Claim7 := { stood := { row := fnExactMapOfPolyRow, standIns := [], harness := (true, "5536c0046486681e01e5fab92ac8ee6f74011625c2a97f4c05a73b11d6c6542c"), looks := false }, kinds := [], alts := [], laidByText := true, laidKinds := [.data, .data], laidTests := true, laidLooks := .later }
def FnExactMapOfPolyCardSaid : Prop := Claim7.holds Tryd.pinned (.plain (OpenSpec.ofChange fnExactMapOfPolySpec)) fnExactMapOfPolyCard

/-- THE TIED CARD OF 'laws.FnExactMinimalPoly'. -/
def fnExactMinimalPolyCard : Claim7 := { stood := { row := fnExactMinimalPolyRow, standIns := [], harness := (true, "5536c0046486681e01e5fab92ac8ee6f74011625c2a97f4c05a73b11d6c6542c"), looks := false }, kinds := [], alts := [], laidByText := true, laidKinds := [.data, .data], laidTests := true, laidLooks := .later }
def FnExactMinimalPolyCardSaid : Prop := Claim7.holds Tryd.pinned (.plain (OpenSpec.ofChange fnExactMinimalPolySpec)) fnExactMinimalPolyCard

/-- THE TIED CARD OF 'laws.FnExactPathProduct'. -/
def fnExactPathProductCard : Claim7 := { stood := { row := fnExactPathProductRow, standIns := [], harness := (true, "5536c0046486681e01e5fab92ac8ee6f74011625c2a97f4c05a73b11d6c6542c"), looks := false }, kinds := [], alts := [], laidByText := true, laidKinds := [.data, .data], laidTests := true, laidLooks := .later }
def FnExactPathProductCardSaid : Prop := Claim7.holds Tryd.pinned (.plain (OpenSpec.ofChange fnExactPathProductSpec)) fnExactPathProductCard

/-- THE TIED CARD OF 'laws.FnExactCircleProduct'. -/
def fnExactCircleProductCard : Claim7 := { stood := { row := fnExactCircleProductRow, standIns := [], harness := (true, "5536c0046486681e01e5fab92ac8ee6f74011625c2a97f4c05a73b11d6c6542c"), looks := false }, kinds := [], alts := [], laidByText := true, laidKinds := [.data, .data], laidTests := true, laidLooks := .later }
def FnExactCircleProductCardSaid : Prop := Claim7.holds Tryd.pinned (.plain (OpenSpec.ofChange fnExactCircleProductSpec)) fnExactCircleProductCard

/-- THE TIED CARD OF 'laws.FnExactTorusNullity'. -/
def fnExactTorusNullityCard : Claim7 := { stood := { row := fnExactTorusNullityRow, standIns := [], harness := (true, "5536c0046486681e01e5fab92ac8ee6f74011625c2a97f4c05a73b11d6c6542c"), looks := false }, kinds := [], alts := [], laidByText := true, laidKinds := [.data, .data], laidTests := true, laidLooks := .later }
def FnExactTorusNullityCardSaid : Prop := Claim7.holds Tryd.pinned (.plain (OpenSpec.ofChange fnExactTorusNullitySpec)) fnExactTorusNullityCard

/-- THE SECOND FORM's CARD OF 'laws.FnExactProductGraph'. -/
def fnExactProductGraphUptoCard : Claim7 := { stood := { row := fnExactProductGraphUptoRow, standIns := [], harness := (true, "5536c0046486681e01e5fab92ac8ee6f74011625c2a97f4c05a73b11d6c6542c"), looks := false }, kinds := [], alts := [], laidByText := true, laidKinds := [.data, .data], laidTests := true, laidLooks := .later }
def FnExactProductGraphUptoCardSaid : Prop := Claim7.holds Tryd.pinned (.plain (OpenSpec.upto fnExactProductGraphSpec)) fnExactProductGraphUptoCard

/-- THE SECOND FORM's CARD OF 'laws.FnExactApplyMap'. -/
def fnExactApplyMapUptoCard : Claim7 := { stood := { row := fnExactApplyMapUptoRow, standIns := [], harness := (true, "5536c0046486681e01e5fab92ac8ee6f74011625c2a97f4c05a73b11d6c6542c"), looks := false }, kinds := [], alts := [], laidByText := true, laidKinds := [.data, .data], laidTests := true, laidLooks := .later }
def FnExactApplyMapUptoCardSaid : Prop := Claim7.holds Tryd.pinned (.plain (OpenSpec.upto fnExactApplyMapSpec)) fnExactApplyMapUptoCard

/-- THE SECOND FORM's CARD OF 'laws.FnExactComposeMaps'. -/
def fnExactComposeMapsUptoCard : Claim7 := { stood := { row := fnExactComposeMapsUptoRow, standIns := [], harness := (true, "5536c0046486681e01e5fab92ac8ee6f74011625c2a97f4c05a73b11d6c6542c"), looks := false }, kinds := [], alts := [], laidByText := true, laidKinds := [.data, .data], laidTests := true, laidLooks := .later }
def FnExactComposeMapsUptoCardSaid : Prop := Claim7.holds Tryd.pinned (.plain (OpenSpec.upto fnExactComposeMapsSpec)) fnExactComposeMapsUptoCard

/-- THE SECOND FORM's CARD OF 'laws.FnExactMapOfPoly'. -/
def fnExactMapOfPolyUptoCard : Claim7 := { stood := { row := fnExactMapOfPolyUptoRow, standIns := [], harness := (true, "5536c0046486681e01e5fab92ac8ee6f74011625c2a97f4c05a73b11d6c6542c"), looks := false }, kinds := [], alts := [], laidByText := true, laidKinds := [.data, .data], laidTests := true, laidLooks := .later }
def FnExactMapOfPolyUptoCardSaid : Prop := Claim7.holds Tryd.pinned (.plain (OpenSpec.upto fnExactMapOfPolySpec)) fnExactMapOfPolyUptoCard

/-- THE SECOND FORM's CARD OF 'laws.FnExactMinimalPoly'. -/
def fnExactMinimalPolyUptoCard : Claim7 := { stood := { row := fnExactMinimalPolyUptoRow, standIns := [], harness := (true, "5536c0046486681e01e5fab92ac8ee6f74011625c2a97f4c05a73b11d6c6542c"), looks := false }, kinds := [], alts := [], laidByText := true, laidKinds := [.data, .data], laidTests := true, laidLooks := .later }
def FnExactMinimalPolyUptoCardSaid : Prop := Claim7.holds Tryd.pinned (.plain (OpenSpec.upto fnExactMinimalPolySpec)) fnExactMinimalPolyUptoCard

/-- THE SECOND FORM's CARD OF 'laws.FnExactPathProduct'. -/
def fnExactPathProductUptoCard : Claim7 := { stood := { row := fnExactPathProductUptoRow, standIns := [], harness := (true, "5536c0046486681e01e5fab92ac8ee6f74011625c2a97f4c05a73b11d6c6542c"), looks := false }, kinds := [], alts := [], laidByText := true, laidKinds := [.data, .data], laidTests := true, laidLooks := .later }
def FnExactPathProductUptoCardSaid : Prop := Claim7.holds Tryd.pinned (.plain (OpenSpec.upto fnExactPathProductSpec)) fnExactPathProductUptoCard

/-- THE SECOND FORM's CARD OF 'laws.FnExactCircleProduct'. -/
def fnExactCircleProductUptoCard : Claim7 := { stood := { row := fnExactCircleProductUptoRow, standIns := [], harness := (true, "5536c0046486681e01e5fab92ac8ee6f74011625c2a97f4c05a73b11d6c6542c"), looks := false }, kinds := [], alts := [], laidByText := true, laidKinds := [.data, .data], laidTests := true, laidLooks := .later }
def FnExactCircleProductUptoCardSaid : Prop := Claim7.holds Tryd.pinned (.plain (OpenSpec.upto fnExactCircleProductSpec)) fnExactCircleProductUptoCard

/-- THE SECOND FORM's CARD OF 'laws.FnExactTorusNullity'. -/
def fnExactTorusNullityUptoCard : Claim7 := { stood := { row := fnExactTorusNullityUptoRow, standIns := [], harness := (true, "5536c0046486681e01e5fab92ac8ee6f74011625c2a97f4c05a73b11d6c6542c"), looks := false }, kinds := [], alts := [], laidByText := true, laidKinds := [.data, .data], laidTests := true, laidLooks := .later }
def FnExactTorusNullityUptoCardSaid : Prop := Claim7.holds Tryd.pinned (.plain (OpenSpec.upto fnExactTorusNullitySpec)) fnExactTorusNullityUptoCard
end Rows
end Go.Proofs.YtdpoceijnbbmgaaDoor
