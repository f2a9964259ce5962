/-
  DERIVED. GIVEN WITH THE SEED: THE CARDS: each row of YtmcimfblhpflnaaDoorRows.lean that lists a variable, with what it lists TIED to the program's text (the seventh form; the later family's looks); each row that meets fmt, with fmt's text TOLD by the authors' own Lean function (tested against real Go, not proved from fmt's source: count such statements apart). THE CARD IS WHAT COUNTS. Prove the row's statement (the work); the ties are given (YtmcimfblhpflnaaDoorTie.lean); close each card by the builder's one call (the guide's Derived/Test/ToyasCard.lean, 'card_holds'). Laid BY PROGRAM, IN A SANDBOX (cutbox-door.mjs). By AI agents, Wed Nov 11 2026. No macro, syntax, notation, axiom, sorry.
-/
import Derived.Test.YtmcimfblhpflnaaDoorRows
import GoSem.ClaimSeven
namespace Go.Proofs.YtmcimfblhpflnaaDoor
namespace Rows

/-- THE TIED CARD OF 'laws.FnExactPartsOf'. -/
def fnExactPartsOfCard : Claim7 := { stood := { row := fnExactPartsOfRow, standIns := [], harness := (true, "d9f68eeca04446aeb59a10a6381a8f5e3305cfa5fea7ce90659e0ad35415a417"), looks := false }, kinds := [], alts := [], laidByText := true, laidKinds := [.data, .data], laidTests := true, laidLooks := .later }
def FnExactPartsOfCardSaid : Prop := Claim7.holds Tryd.pinned (.plain (OpenSpec.ofChange fnExactPartsOfSpec)) fnExactPartsOfCard

/-- THE TIED CARD OF 'laws.FnExactIsForest'. -/
def fnExactIsForestCard : Claim7 := { stood := { row := fnExactIsForestRow, standIns := [], harness := (true, "d9f68eeca04446aeb59a10a6381a8f5e3305cfa5fea7ce90659e0ad35415a417"), looks := false }, kinds := [], alts := [], laidByText := true, laidKinds := [.data, .data], laidTests := true, laidLooks := .later }
def FnExactIsForestCardSaid : Prop := Claim7.holds Tryd.pinned (.plain (OpenSpec.ofChange fnExactIsForestSpec)) fnExactIsForestCard

/-- THE TIED CARD OF 'laws.FnExactLeavesOf'. -/
def fnExactLeavesOfCard : Claim7 := { stood := { row := fnExactLeavesOfRow, standIns := [], harness := (true, "d9f68eeca04446aeb59a10a6381a8f5e3305cfa5fea7ce90659e0ad35415a417"), looks := false }, kinds := [], alts := [], laidByText := true, laidKinds := [.data, .data], laidTests := true, laidLooks := .later }
def FnExactLeavesOfCardSaid : Prop := Claim7.holds Tryd.pinned (.plain (OpenSpec.ofChange fnExactLeavesOfSpec)) fnExactLeavesOfCard

/-- THE TIED CARD OF 'laws.FnExactCountEvenEdges'. -/
def fnExactCountEvenEdgesCard : Claim7 := { stood := { row := fnExactCountEvenEdgesRow, standIns := [], harness := (true, "d9f68eeca04446aeb59a10a6381a8f5e3305cfa5fea7ce90659e0ad35415a417"), looks := false }, kinds := [], alts := [], laidByText := true, laidKinds := [.data, .data], laidTests := true, laidLooks := .later }
def FnExactCountEvenEdgesCardSaid : Prop := Claim7.holds Tryd.pinned (.plain (OpenSpec.ofChange fnExactCountEvenEdgesSpec)) fnExactCountEvenEdgesCard

/-- THE TIED CARD OF 'laws.FnExactParentsOf'. -/
def fnExactParentsOfCard : Claim7 := { stood := { row := fnExactParentsOfRow, standIns := [], harness := (true, "d9f68eeca04446aeb59a10a6381a8f5e3305cfa5fea7ce90659e0ad35415a417"), looks := false }, kinds := [], alts := [], laidByText := true, laidKinds := [.data, .data], laidTests := true, laidLooks := .later }
def FnExactParentsOfCardSaid : Prop := Claim7.holds Tryd.pinned (.plain (OpenSpec.ofChange fnExactParentsOfSpec)) fnExactParentsOfCard

/-- THE TIED CARD OF 'laws.FnExactMatchingOf'. -/
def fnExactMatchingOfCard : Claim7 := { stood := { row := fnExactMatchingOfRow, standIns := [], harness := (true, "d9f68eeca04446aeb59a10a6381a8f5e3305cfa5fea7ce90659e0ad35415a417"), looks := false }, kinds := [], alts := [], laidByText := true, laidKinds := [.data, .data], laidTests := true, laidLooks := .later }
def FnExactMatchingOfCardSaid : Prop := Claim7.holds Tryd.pinned (.plain (OpenSpec.ofChange fnExactMatchingOfSpec)) fnExactMatchingOfCard

/-- THE TIED CARD OF 'laws.FnExactMatchingSize'. -/
def fnExactMatchingSizeCard : Claim7 := { stood := { row := fnExactMatchingSizeRow, standIns := [], harness := (true, "d9f68eeca04446aeb59a10a6381a8f5e3305cfa5fea7ce90659e0ad35415a417"), looks := false }, kinds := [], alts := [], laidByText := true, laidKinds := [.data, .data], laidTests := true, laidLooks := .later }
def FnExactMatchingSizeCardSaid : Prop := Claim7.holds Tryd.pinned (.plain (OpenSpec.ofChange fnExactMatchingSizeSpec)) fnExactMatchingSizeCard

/-- THE TIED CARD OF 'laws.FnExactCountByStates'. -/
def fnExactCountByStatesCard : Claim7 := { stood := { row := fnExactCountByStatesRow, standIns := [], harness := (true, "d9f68eeca04446aeb59a10a6381a8f5e3305cfa5fea7ce90659e0ad35415a417"), looks := false }, kinds := [], alts := [], laidByText := true, laidKinds := [.data, .data], laidTests := true, laidLooks := .later }
def FnExactCountByStatesCardSaid : Prop := Claim7.holds Tryd.pinned (.plain (OpenSpec.ofChange fnExactCountByStatesSpec)) fnExactCountByStatesCard

/-- THE TIED CARD OF 'laws.FnExactLeastByStates'. -/
def fnExactLeastByStatesCard : Claim7 := { stood := { row := fnExactLeastByStatesRow, standIns := [], harness := (true, "d9f68eeca04446aeb59a10a6381a8f5e3305cfa5fea7ce90659e0ad35415a417"), looks := false }, kinds := [], alts := [], laidByText := true, laidKinds := [.data, .data], laidTests := true, laidLooks := .later }
def FnExactLeastByStatesCardSaid : Prop := Claim7.holds Tryd.pinned (.plain (OpenSpec.ofChange fnExactLeastByStatesSpec)) fnExactLeastByStatesCard

/-- THE TIED CARD OF 'laws.FnExactNullityByStates'. -/
def fnExactNullityByStatesCard : Claim7 := { stood := { row := fnExactNullityByStatesRow, standIns := [], harness := (true, "d9f68eeca04446aeb59a10a6381a8f5e3305cfa5fea7ce90659e0ad35415a417"), looks := false }, kinds := [], alts := [], laidByText := true, laidKinds := [.data, .data], laidTests := true, laidLooks := .later }
def FnExactNullityByStatesCardSaid : Prop := Claim7.holds Tryd.pinned (.plain (OpenSpec.ofChange fnExactNullityByStatesSpec)) fnExactNullityByStatesCard

/-- THE TIED CARD OF 'laws.FnExactCountEvenCuts'. -/
def fnExactCountEvenCutsCard : Claim7 := { stood := { row := fnExactCountEvenCutsRow, standIns := [], harness := (true, "d9f68eeca04446aeb59a10a6381a8f5e3305cfa5fea7ce90659e0ad35415a417"), looks := false }, kinds := [], alts := [], laidByText := true, laidKinds := [.data, .data], laidTests := true, laidLooks := .later }
def FnExactCountEvenCutsCardSaid : Prop := Claim7.holds Tryd.pinned (.plain (OpenSpec.ofChange fnExactCountEvenCutsSpec)) fnExactCountEvenCutsCard

/-- THE SECOND FORM's CARD OF 'laws.FnExactPartsOf'. -/
def fnExactPartsOfUptoCard : Claim7 := { stood := { row := fnExactPartsOfUptoRow, standIns := [], harness := (true, "d9f68eeca04446aeb59a10a6381a8f5e3305cfa5fea7ce90659e0ad35415a417"), looks := false }, kinds := [], alts := [], laidByText := true, laidKinds := [.data, .data], laidTests := true, laidLooks := .later }
def FnExactPartsOfUptoCardSaid : Prop := Claim7.holds Tryd.pinned (.plain (OpenSpec.upto fnExactPartsOfSpec)) fnExactPartsOfUptoCard

/-- THE SECOND FORM's CARD OF 'laws.FnExactIsForest'. -/
def fnExactIsForestUptoCard : Claim7 := { stood := { row := fnExactIsForestUptoRow, standIns := [], harness := (true, "d9f68eeca04446aeb59a10a6381a8f5e3305cfa5fea7ce90659e0ad35415a417"), looks := false }, kinds := [], alts := [], laidByText := true, laidKinds := [.data, .data], laidTests := true, laidLooks := .later }
def FnExactIsForestUptoCardSaid : Prop := Claim7.holds Tryd.pinned (.plain (OpenSpec.upto fnExactIsForestSpec)) fnExactIsForestUptoCard

/-- THE SECOND FORM's CARD OF 'laws.FnExactLeavesOf'. -/
def fnExactLeavesOfUptoCard : Claim7 := { stood := { row := fnExactLeavesOfUptoRow, standIns := [], harness := (true, "d9f68eeca04446aeb59a10a6381a8f5e3305cfa5fea7ce90659e0ad35415a417"), looks := false }, kinds := [], alts := [], laidByText := true, laidKinds := [.data, .data], laidTests := true, laidLooks := .later }
def FnExactLeavesOfUptoCardSaid : Prop := Claim7.holds Tryd.pinned (.plain (OpenSpec.upto fnExactLeavesOfSpec)) fnExactLeavesOfUptoCard

/-- THE SECOND FORM's CARD OF 'laws.FnExactCountEvenEdges'. -/
def fnExactCountEvenEdgesUptoCard : Claim7 := { stood := { row := fnExactCountEvenEdgesUptoRow, standIns := [], harness := (true, "d9f68eeca04446aeb59a10a6381a8f5e3305cfa5fea7ce90659e0ad35415a417"), looks := false }, kinds := [], alts := [], laidByText := true, laidKinds := [.data, .data], laidTests := true, laidLooks := .later }
def FnExactCountEvenEdgesUptoCardSaid : Prop := Claim7.holds Tryd.pinned (.plain (OpenSpec.upto fnExactCountEvenEdgesSpec)) fnExactCountEvenEdgesUptoCard

/-- THE SECOND FORM's CARD OF 'laws.FnExactParentsOf'. -/
def fnExactParentsOfUptoCard : Claim7 := { stood := { row := fnExactParentsOfUptoRow, standIns := [], harness := (true, "d9f68eeca04446aeb59a10a6381a8f5e3305cfa5fea7ce90659e0ad35415a417"), looks := false }, kinds := [], alts := [], laidByText := true, laidKinds := [.data, .data], laidTests := true, laidLooks := .later }
def FnExactParentsOfUptoCardSaid : Prop := Claim7.holds Tryd.pinned (.plain (OpenSpec.upto fnExactParentsOfSpec)) fnExactParentsOfUptoCard

/-- THE SECOND FORM's CARD OF 'laws.FnExactMatchingOf'. -/
def fnExactMatchingOfUptoCard : Claim7 := { stood := { row := fnExactMatchingOfUptoRow, standIns := [], harness := (true, "d9f68eeca04446aeb59a10a6381a8f5e3305cfa5fea7ce90659e0ad35415a417"), looks := false }, kinds := [], alts := [], laidByText := true, laidKinds := [.data, .data], laidTests := true, laidLooks := .later }
def FnExactMatchingOfUptoCardSaid : Prop := Claim7.holds Tryd.pinned (.plain (OpenSpec.upto fnExactMatchingOfSpec)) fnExactMatchingOfUptoCard

/-- THE SECOND FORM's CARD OF 'laws.FnExactMatchingSize'. -/
def fnExactMatchingSizeUptoCard : Claim7 := { stood := { row := fnExactMatchingSizeUptoRow, standIns := [], harness := (true, "d9f68eeca04446aeb59a10a6381a8f5e3305cfa5fea7ce90659e0ad35415a417"), looks := false }, kinds := [], alts := [], laidByText := true, laidKinds := [.data, .data], laidTests := true, laidLooks := .later }
def FnExactMatchingSizeUptoCardSaid : Prop := Claim7.holds Tryd.pinned (.plain (OpenSpec.upto fnExactMatchingSizeSpec)) fnExactMatchingSizeUptoCard

/-- THE SECOND FORM's CARD OF 'laws.FnExactCountByStates'. -/
def fnExactCountByStatesUptoCard : Claim7 := { stood := { row := fnExactCountByStatesUptoRow, standIns := [], harness := (true, "d9f68eeca04446aeb59a10a6381a8f5e3305cfa5fea7ce90659e0ad35415a417"), looks := false }, kinds := [], alts := [], laidByText := true, laidKinds := [.data, .data], laidTests := true, laidLooks := .later }
def FnExactCountByStatesUptoCardSaid : Prop := Claim7.holds Tryd.pinned (.plain (OpenSpec.upto fnExactCountByStatesSpec)) fnExactCountByStatesUptoCard

/-- THE SECOND FORM's CARD OF 'laws.FnExactLeastByStates'. -/
def fnExactLeastByStatesUptoCard : Claim7 := { stood := { row := fnExactLeastByStatesUptoRow, standIns := [], harness := (true, "d9f68eeca04446aeb59a10a6381a8f5e3305cfa5fea7ce90659e0ad35415a417"), looks := false }, kinds := [], alts := [], laidByText := true, laidKinds := [.data, .data], laidTests := true, laidLooks := .later }
def FnExactLeastByStatesUptoCardSaid : Prop := Claim7.holds Tryd.pinned (.plain (OpenSpec.upto fnExactLeastByStatesSpec)) fnExactLeastByStatesUptoCard

/-- THE SECOND FORM's CARD OF 'laws.FnExactNullityByStates'. -/
def fnExactNullityByStatesUptoCard : Claim7 := { stood := { row := fnExactNullityByStatesUptoRow, standIns := [], harness := (true, "d9f68eeca04446aeb59a10a6381a8f5e3305cfa5fea7ce90659e0ad35415a417"), looks := false }, kinds := [], alts := [], laidByText := true, laidKinds := [.data, .data], laidTests := true, laidLooks := .later }
def FnExactNullityByStatesUptoCardSaid : Prop := Claim7.holds Tryd.pinned (.plain (OpenSpec.upto fnExactNullityByStatesSpec)) fnExactNullityByStatesUptoCard

/-- THE SECOND FORM's CARD OF 'laws.FnExactCountEvenCuts'. -/
def fnExactCountEvenCutsUptoCard : Claim7 := { stood := { row := fnExactCountEvenCutsUptoRow, standIns := [], harness := (true, "d9f68eeca04446aeb59a10a6381a8f5e3305cfa5fea7ce90659e0ad35415a417"), looks := false }, kinds := [], alts := [], laidByText := true, laidKinds := [.data, .data], laidTests := true, laidLooks := .later }
def FnExactCountEvenCutsUptoCardSaid : Prop := Claim7.holds Tryd.pinned (.plain (OpenSpec.upto fnExactCountEvenCutsSpec)) fnExactCountEvenCutsUptoCard
end Rows
end Go.Proofs.YtmcimfblhpflnaaDoor
