/-
  DERIVED. GIVEN WITH THE SEED: THE CARDS: each row of YtggcjmdadomlaaaDoorRows.lean that lists a variable, with what it lists TIED to the program's text (the seventh form; the later family's looks); each row that meets fmt, with fmt's text TOLD by the authors' own Lean function (tested against real Go, not proved from fmt's source: count such statements apart). THE CARD IS WHAT COUNTS. Prove the row's statement (the work); the ties are given (YtggcjmdadomlaaaDoorTie.lean); close each card by the builder's one call (the guide's Derived/Test/ToyasCard.lean, 'card_holds'). Laid BY PROGRAM, IN A SANDBOX (cutbox-door.mjs). By AI agents, Wed Nov 11 2026. No macro, syntax, notation, axiom, sorry.
-/
import Derived.Test.YtggcjmdadomlaaaDoorRows
import GoSem.ClaimSeven
namespace Go.Proofs.YtggcjmdadomlaaaDoor
namespace Rows

/-- THE TIED CARD OF 'laws.FnExactIsQuiet'. -/
def fnExactIsQuietCard : Claim7 := { stood := { row := fnExactIsQuietRow, standIns := [], harness := (true, "3f8a1423e5779e91608be9c67ff980609063b3bbf05a4f17d5691a63b4b9596e"), looks := false }, kinds := [], alts := [], laidByText := true, laidKinds := [.data, .data], laidTests := true, laidLooks := .later }
def FnExactIsQuietCardSaid : Prop := Claim7.holds Tryd.pinned (.plain (OpenSpec.ofChange fnExactIsQuietSpec)) fnExactIsQuietCard

/-- THE TIED CARD OF 'laws.FnExactPressAll'. -/
def fnExactPressAllCard : Claim7 := { stood := { row := fnExactPressAllRow, standIns := [], harness := (true, "3f8a1423e5779e91608be9c67ff980609063b3bbf05a4f17d5691a63b4b9596e"), looks := false }, kinds := [], alts := [], laidByText := true, laidKinds := [.data, .data], laidTests := true, laidLooks := .later }
def FnExactPressAllCardSaid : Prop := Claim7.holds Tryd.pinned (.plain (OpenSpec.ofChange fnExactPressAllSpec)) fnExactPressAllCard

/-- THE TIED CARD OF 'laws.FnExactEffectOf'. -/
def fnExactEffectOfCard : Claim7 := { stood := { row := fnExactEffectOfRow, standIns := [], harness := (true, "3f8a1423e5779e91608be9c67ff980609063b3bbf05a4f17d5691a63b4b9596e"), looks := false }, kinds := [], alts := [], laidByText := true, laidKinds := [.data, .data], laidTests := true, laidLooks := .later }
def FnExactEffectOfCardSaid : Prop := Claim7.holds Tryd.pinned (.plain (OpenSpec.ofChange fnExactEffectOfSpec)) fnExactEffectOfCard

/-- THE TIED CARD OF 'laws.FnExactRenameGraph'. -/
def fnExactRenameGraphCard : Claim7 := { stood := { row := fnExactRenameGraphRow, standIns := [], harness := (true, "3f8a1423e5779e91608be9c67ff980609063b3bbf05a4f17d5691a63b4b9596e"), looks := false }, kinds := [], alts := [], laidByText := true, laidKinds := [.data, .data], laidTests := true, laidLooks := .later }
def FnExactRenameGraphCardSaid : Prop := Claim7.holds Tryd.pinned (.plain (OpenSpec.ofChange fnExactRenameGraphSpec)) fnExactRenameGraphCard

/-- THE SECOND FORM's CARD OF 'laws.FnExactIsQuiet'. -/
def fnExactIsQuietUptoCard : Claim7 := { stood := { row := fnExactIsQuietUptoRow, standIns := [], harness := (true, "3f8a1423e5779e91608be9c67ff980609063b3bbf05a4f17d5691a63b4b9596e"), looks := false }, kinds := [], alts := [], laidByText := true, laidKinds := [.data, .data], laidTests := true, laidLooks := .later }
def FnExactIsQuietUptoCardSaid : Prop := Claim7.holds Tryd.pinned (.plain (OpenSpec.upto fnExactIsQuietSpec)) fnExactIsQuietUptoCard

/-- THE SECOND FORM's CARD OF 'laws.FnExactPressAll'. -/
def fnExactPressAllUptoCard : Claim7 := { stood := { row := fnExactPressAllUptoRow, standIns := [], harness := (true, "3f8a1423e5779e91608be9c67ff980609063b3bbf05a4f17d5691a63b4b9596e"), looks := false }, kinds := [], alts := [], laidByText := true, laidKinds := [.data, .data], laidTests := true, laidLooks := .later }
def FnExactPressAllUptoCardSaid : Prop := Claim7.holds Tryd.pinned (.plain (OpenSpec.upto fnExactPressAllSpec)) fnExactPressAllUptoCard

/-- THE SECOND FORM's CARD OF 'laws.FnExactEffectOf'. -/
def fnExactEffectOfUptoCard : Claim7 := { stood := { row := fnExactEffectOfUptoRow, standIns := [], harness := (true, "3f8a1423e5779e91608be9c67ff980609063b3bbf05a4f17d5691a63b4b9596e"), looks := false }, kinds := [], alts := [], laidByText := true, laidKinds := [.data, .data], laidTests := true, laidLooks := .later }
def FnExactEffectOfUptoCardSaid : Prop := Claim7.holds Tryd.pinned (.plain (OpenSpec.upto fnExactEffectOfSpec)) fnExactEffectOfUptoCard

/-- THE SECOND FORM's CARD OF 'laws.FnExactRenameGraph'. -/
def fnExactRenameGraphUptoCard : Claim7 := { stood := { row := fnExactRenameGraphUptoRow, standIns := [], harness := (true, "3f8a1423e5779e91608be9c67ff980609063b3bbf05a4f17d5691a63b4b9596e"), looks := false }, kinds := [], alts := [], laidByText := true, laidKinds := [.data, .data], laidTests := true, laidLooks := .later }
def FnExactRenameGraphUptoCardSaid : Prop := Claim7.holds Tryd.pinned (.plain (OpenSpec.upto fnExactRenameGraphSpec)) fnExactRenameGraphUptoCard
end Rows
end Go.Proofs.YtggcjmdadomlaaaDoor
