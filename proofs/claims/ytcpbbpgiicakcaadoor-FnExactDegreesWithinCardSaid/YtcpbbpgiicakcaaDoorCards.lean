/-
  DERIVED. GIVEN WITH THE SEED: THE CARDS: each row of YtcpbbpgiicakcaaDoorRows.lean that lists a variable, with what it lists TIED to the program's text (the seventh form; the later family's looks); each row that meets fmt, with fmt's text TOLD by the authors' own Lean function (tested against real Go, not proved from fmt's source: count such statements apart). THE CARD IS WHAT COUNTS. Prove the row's statement (the work); the ties are given (YtcpbbpgiicakcaaDoorTie.lean); close each card by the builder's one call (the guide's Derived/Test/ToyasCard.lean, 'card_holds'). Laid BY PROGRAM, IN A SANDBOX (cutbox-door.mjs). By AI agents, Wed Nov 11 2026. No macro, syntax, notation, axiom, sorry.
-/
import Derived.Test.YtcpbbpgiicakcaaDoorRows
import GoSem.ClaimSeven
namespace Go.Proofs.YtcpbbpgiicakcaaDoor
namespace Rows

/-- THE TIED CARD OF 'laws.FnExactIsEvenSet'. -/
def fnExactIsEvenSetCard : Claim7 := { stood := { row := fnExactIsEvenSetRow, standIns := [], harness := (true, "2bf769ff8554f504ce872839c904d000c62d9f06a6746626841eabfbc026d0bc"), looks := false }, kinds := [], alts := [], laidByText := true, laidKinds := [.data, .data], laidTests := true, laidLooks := .later }
def FnExactIsEvenSetCardSaid : Prop := Claim7.holds Tryd.pinned (.plain (OpenSpec.ofChange fnExactIsEvenSetSpec)) fnExactIsEvenSetCard

/-- THE TIED CARD OF 'laws.FnExactIsOddSet'. -/
def fnExactIsOddSetCard : Claim7 := { stood := { row := fnExactIsOddSetRow, standIns := [], harness := (true, "2bf769ff8554f504ce872839c904d000c62d9f06a6746626841eabfbc026d0bc"), looks := false }, kinds := [], alts := [], laidByText := true, laidKinds := [.data, .data], laidTests := true, laidLooks := .later }
def FnExactIsOddSetCardSaid : Prop := Claim7.holds Tryd.pinned (.plain (OpenSpec.ofChange fnExactIsOddSetSpec)) fnExactIsOddSetCard

/-- THE TIED CARD OF 'laws.FnExactDegreesWithin'. -/
def fnExactDegreesWithinCard : Claim7 := { stood := { row := fnExactDegreesWithinRow, standIns := [], harness := (true, "2bf769ff8554f504ce872839c904d000c62d9f06a6746626841eabfbc026d0bc"), looks := false }, kinds := [], alts := [], laidByText := true, laidKinds := [.data, .data], laidTests := true, laidLooks := .later }
def FnExactDegreesWithinCardSaid : Prop := Claim7.holds Tryd.pinned (.plain (OpenSpec.ofChange fnExactDegreesWithinSpec)) fnExactDegreesWithinCard

/-- THE TIED CARD OF 'laws.FnExactPartsOf'. -/
def fnExactPartsOfCard : Claim7 := { stood := { row := fnExactPartsOfRow, standIns := [], harness := (true, "2bf769ff8554f504ce872839c904d000c62d9f06a6746626841eabfbc026d0bc"), looks := false }, kinds := [], alts := [], laidByText := true, laidKinds := [.data, .data], laidTests := true, laidLooks := .later }
def FnExactPartsOfCardSaid : Prop := Claim7.holds Tryd.pinned (.plain (OpenSpec.ofChange fnExactPartsOfSpec)) fnExactPartsOfCard

/-- THE TIED CARD OF 'laws.FnExactCountEvenCuts'. -/
def fnExactCountEvenCutsCard : Claim7 := { stood := { row := fnExactCountEvenCutsRow, standIns := [], harness := (true, "2bf769ff8554f504ce872839c904d000c62d9f06a6746626841eabfbc026d0bc"), looks := false }, kinds := [], alts := [], laidByText := true, laidKinds := [.data, .data], laidTests := true, laidLooks := .later }
def FnExactCountEvenCutsCardSaid : Prop := Claim7.holds Tryd.pinned (.plain (OpenSpec.ofChange fnExactCountEvenCutsSpec)) fnExactCountEvenCutsCard

/-- THE TIED CARD OF 'laws.FnExactCountEvenEdges'. -/
def fnExactCountEvenEdgesCard : Claim7 := { stood := { row := fnExactCountEvenEdgesRow, standIns := [], harness := (true, "2bf769ff8554f504ce872839c904d000c62d9f06a6746626841eabfbc026d0bc"), looks := false }, kinds := [], alts := [], laidByText := true, laidKinds := [.data, .data], laidTests := true, laidLooks := .later }
def FnExactCountEvenEdgesCardSaid : Prop := Claim7.holds Tryd.pinned (.plain (OpenSpec.ofChange fnExactCountEvenEdgesSpec)) fnExactCountEvenEdgesCard

/-- THE SECOND FORM's CARD OF 'laws.FnExactIsEvenSet'. -/
def fnExactIsEvenSetUptoCard : Claim7 := { stood := { row := fnExactIsEvenSetUptoRow, standIns := [], harness := (true, "2bf769ff8554f504ce872839c904d000c62d9f06a6746626841eabfbc026d0bc"), looks := false }, kinds := [], alts := [], laidByText := true, laidKinds := [.data, .data], laidTests := true, laidLooks := .later }
def FnExactIsEvenSetUptoCardSaid : Prop := Claim7.holds Tryd.pinned (.plain (OpenSpec.upto fnExactIsEvenSetSpec)) fnExactIsEvenSetUptoCard

/-- THE SECOND FORM's CARD OF 'laws.FnExactIsOddSet'. -/
def fnExactIsOddSetUptoCard : Claim7 := { stood := { row := fnExactIsOddSetUptoRow, standIns := [], harness := (true, "2bf769ff8554f504ce872839c904d000c62d9f06a6746626841eabfbc026d0bc"), looks := false }, kinds := [], alts := [], laidByText := true, laidKinds := [.data, .data], laidTests := true, laidLooks := .later }
def FnExactIsOddSetUptoCardSaid : Prop := Claim7.holds Tryd.pinned (.plain (OpenSpec.upto fnExactIsOddSetSpec)) fnExactIsOddSetUptoCard

/-- THE SECOND FORM's CARD OF 'laws.FnExactDegreesWithin'. -/
def fnExactDegreesWithinUptoCard : Claim7 := { stood := { row := fnExactDegreesWithinUptoRow, standIns := [], harness := (true, "2bf769ff8554f504ce872839c904d000c62d9f06a6746626841eabfbc026d0bc"), looks := false }, kinds := [], alts := [], laidByText := true, laidKinds := [.data, .data], laidTests := true, laidLooks := .later }
def FnExactDegreesWithinUptoCardSaid : Prop := Claim7.holds Tryd.pinned (.plain (OpenSpec.upto fnExactDegreesWithinSpec)) fnExactDegreesWithinUptoCard

/-- THE SECOND FORM's CARD OF 'laws.FnExactPartsOf'. -/
def fnExactPartsOfUptoCard : Claim7 := { stood := { row := fnExactPartsOfUptoRow, standIns := [], harness := (true, "2bf769ff8554f504ce872839c904d000c62d9f06a6746626841eabfbc026d0bc"), looks := false }, kinds := [], alts := [], laidByText := true, laidKinds := [.data, .data], laidTests := true, laidLooks := .later }
def FnExactPartsOfUptoCardSaid : Prop := Claim7.holds Tryd.pinned (.plain (OpenSpec.upto fnExactPartsOfSpec)) fnExactPartsOfUptoCard

/-- THE SECOND FORM's CARD OF 'laws.FnExactCountEvenCuts'. -/
def fnExactCountEvenCutsUptoCard : Claim7 := { stood := { row := fnExactCountEvenCutsUptoRow, standIns := [], harness := (true, "2bf769ff8554f504ce872839c904d000c62d9f06a6746626841eabfbc026d0bc"), looks := false }, kinds := [], alts := [], laidByText := true, laidKinds := [.data, .data], laidTests := true, laidLooks := .later }
def FnExactCountEvenCutsUptoCardSaid : Prop := Claim7.holds Tryd.pinned (.plain (OpenSpec.upto fnExactCountEvenCutsSpec)) fnExactCountEvenCutsUptoCard

/-- THE SECOND FORM's CARD OF 'laws.FnExactCountEvenEdges'. -/
def fnExactCountEvenEdgesUptoCard : Claim7 := { stood := { row := fnExactCountEvenEdgesUptoRow, standIns := [], harness := (true, "2bf769ff8554f504ce872839c904d000c62d9f06a6746626841eabfbc026d0bc"), looks := false }, kinds := [], alts := [], laidByText := true, laidKinds := [.data, .data], laidTests := true, laidLooks := .later }
def FnExactCountEvenEdgesUptoCardSaid : Prop := Claim7.holds Tryd.pinned (.plain (OpenSpec.upto fnExactCountEvenEdgesSpec)) fnExactCountEvenEdgesUptoCard
end Rows
end Go.Proofs.YtcpbbpgiicakcaaDoor
