/-
  DERIVED. GIVEN WITH THE SEED: THE CARDS: each row of YtmkdikoogbedkaaDoorRows.lean that lists a variable, with what it lists TIED to the program's text (the seventh form; the later family's looks); each row that meets fmt, with fmt's text TOLD by the authors' own Lean function (tested against real Go, not proved from fmt's source: count such statements apart). THE CARD IS WHAT COUNTS. Prove the row's statement (the work); the ties are given (YtmkdikoogbedkaaDoorTie.lean); close each card by the builder's one call (the guide's Derived/Test/ToyasCard.lean, 'card_holds'). Laid BY PROGRAM, IN A SANDBOX (cutbox-door.mjs). By AI agents, Wed Nov 11 2026. No macro, syntax, notation, axiom, sorry.
-/
import Derived.Test.YtmkdikoogbedkaaDoorRows
import GoSem.ClaimSeven
namespace Go.Proofs.YtmkdikoogbedkaaDoor
namespace Rows

/-- THE TIED CARD OF 'laws.FnExactTimesPoly'. -/
def fnExactTimesPolyCard : Claim7 := { stood := { row := fnExactTimesPolyRow, standIns := [], harness := (true, "388ee0ae145d23ac1ab759b6700f2552c05dba57c60f8ab68331fd4cfaa8879b"), looks := false }, kinds := [], alts := [], laidByText := true, laidKinds := [.data, .data], laidTests := true, laidLooks := .later }
def FnExactTimesPolyCardSaid : Prop := Claim7.holds Tryd.pinned (.plain (OpenSpec.ofChange fnExactTimesPolySpec)) fnExactTimesPolyCard

/-- THE TIED CARD OF 'laws.FnExactPowerModulo'. -/
def fnExactPowerModuloCard : Claim7 := { stood := { row := fnExactPowerModuloRow, standIns := [], harness := (true, "388ee0ae145d23ac1ab759b6700f2552c05dba57c60f8ab68331fd4cfaa8879b"), looks := false }, kinds := [], alts := [], laidByText := true, laidKinds := [.data, .data], laidTests := true, laidLooks := .later }
def FnExactPowerModuloCardSaid : Prop := Claim7.holds Tryd.pinned (.plain (OpenSpec.ofChange fnExactPowerModuloSpec)) fnExactPowerModuloCard

/-- THE TIED CARD OF 'laws.FnExactRenameGraph'. -/
def fnExactRenameGraphCard : Claim7 := { stood := { row := fnExactRenameGraphRow, standIns := [], harness := (true, "388ee0ae145d23ac1ab759b6700f2552c05dba57c60f8ab68331fd4cfaa8879b"), looks := false }, kinds := [], alts := [], laidByText := true, laidKinds := [.data, .data], laidTests := true, laidLooks := .later }
def FnExactRenameGraphCardSaid : Prop := Claim7.holds Tryd.pinned (.plain (OpenSpec.ofChange fnExactRenameGraphSpec)) fnExactRenameGraphCard

/-- THE SECOND FORM's CARD OF 'laws.FnExactTimesPoly'. -/
def fnExactTimesPolyUptoCard : Claim7 := { stood := { row := fnExactTimesPolyUptoRow, standIns := [], harness := (true, "388ee0ae145d23ac1ab759b6700f2552c05dba57c60f8ab68331fd4cfaa8879b"), looks := false }, kinds := [], alts := [], laidByText := true, laidKinds := [.data, .data], laidTests := true, laidLooks := .later }
def FnExactTimesPolyUptoCardSaid : Prop := Claim7.holds Tryd.pinned (.plain (OpenSpec.upto fnExactTimesPolySpec)) fnExactTimesPolyUptoCard

/-- THE SECOND FORM's CARD OF 'laws.FnExactPowerModulo'. -/
def fnExactPowerModuloUptoCard : Claim7 := { stood := { row := fnExactPowerModuloUptoRow, standIns := [], harness := (true, "388ee0ae145d23ac1ab759b6700f2552c05dba57c60f8ab68331fd4cfaa8879b"), looks := false }, kinds := [], alts := [], laidByText := true, laidKinds := [.data, .data], laidTests := true, laidLooks := .later }
def FnExactPowerModuloUptoCardSaid : Prop := Claim7.holds Tryd.pinned (.plain (OpenSpec.upto fnExactPowerModuloSpec)) fnExactPowerModuloUptoCard

/-- THE SECOND FORM's CARD OF 'laws.FnExactRenameGraph'. -/
def fnExactRenameGraphUptoCard : Claim7 := { stood := { row := fnExactRenameGraphUptoRow, standIns := [], harness := (true, "388ee0ae145d23ac1ab759b6700f2552c05dba57c60f8ab68331fd4cfaa8879b"), looks := false }, kinds := [], alts := [], laidByText := true, laidKinds := [.data, .data], laidTests := true, laidLooks := .later }
def FnExactRenameGraphUptoCardSaid : Prop := Claim7.holds Tryd.pinned (.plain (OpenSpec.upto fnExactRenameGraphSpec)) fnExactRenameGraphUptoCard
end Rows
end Go.Proofs.YtmkdikoogbedkaaDoor
