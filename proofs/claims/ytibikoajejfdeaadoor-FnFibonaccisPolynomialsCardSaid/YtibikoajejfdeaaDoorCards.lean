/-
  DERIVED. GIVEN WITH THE SEED: THE CARDS: each row of YtibikoajejfdeaaDoorRows.lean that lists a variable, with what it lists TIED to the program's text (the seventh form; the later family's looks); each row that meets fmt, with fmt's text TOLD by the authors' own Lean function (tested against real Go, not proved from fmt's source: count such statements apart). THE CARD IS WHAT COUNTS. Prove the row's statement (the work); the ties are given (YtibikoajejfdeaaDoorTie.lean); close each card by the builder's one call (the guide's Derived/Test/ToyasCard.lean, 'card_holds'). Laid BY PROGRAM, IN A SANDBOX (cutbox-door.mjs). By AI agents, Wed Nov 11 2026. No macro, syntax, notation, axiom, sorry.
-/
import Derived.Test.YtibikoajejfdeaaDoorRows
import GoSem.ClaimSeven
namespace Go.Proofs.YtibikoajejfdeaaDoor
namespace Rows

/-- THE TIED CARD OF 'laws.FnFibonaccisPolynomials'. -/
def fnFibonaccisPolynomialsCard : Claim7 := { stood := { row := fnFibonaccisPolynomialsRow, standIns := [], harness := (true, "232ea79f767611a9e292b4757913f870b7966922cc58bb3d8da2221f1a8fd94f"), looks := false }, kinds := [], alts := [], laidByText := true, laidKinds := [.data, .data], laidTests := true, laidLooks := .later }
def FnFibonaccisPolynomialsCardSaid : Prop := Claim7.holds Tryd.pinned (.plain (OpenSpec.ofChange fnFibonaccisPolynomialsSpec)) fnFibonaccisPolynomialsCard

/-- THE SECOND FORM's CARD OF 'laws.FnFibonaccisPolynomials'. -/
def fnFibonaccisPolynomialsUptoCard : Claim7 := { stood := { row := fnFibonaccisPolynomialsUptoRow, standIns := [], harness := (true, "232ea79f767611a9e292b4757913f870b7966922cc58bb3d8da2221f1a8fd94f"), looks := false }, kinds := [], alts := [], laidByText := true, laidKinds := [.data, .data], laidTests := true, laidLooks := .later }
def FnFibonaccisPolynomialsUptoCardSaid : Prop := Claim7.holds Tryd.pinned (.plain (OpenSpec.upto fnFibonaccisPolynomialsSpec)) fnFibonaccisPolynomialsUptoCard
end Rows
end Go.Proofs.YtibikoajejfdeaaDoor
