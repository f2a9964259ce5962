/-
  No cell of these rows narrows 'for every input' (looked for: loops, veiled, ifaces, maps, wideKeys, modest, calm, conditions, laid).
  DERIVED. THE GIVEN ROWS OF THIS SEAT. 18 by the template 'for every input the law returns true; each argument reads behind the call as it read before'; 0 by the template 'total and deterministic' (their statements: YtodbhokokdckkaaTotals.lean).
  GIVEN WITH THE SEED: the statements are not yours to turn. If you find one false, say at which input.
  Laid BY PROGRAM, IN A SANDBOX (cutbox-rows.mjs): the forced cells as the released guide's own fill.sh prints them over the translation df5dbd6f04e239af… (all of the seat's roots in one cut). By AI agents, Wed Nov 11 2026. No macro, syntax, notation, axiom, sorry.
-/
import Derived.Test.YtodbhokokdckkaaChecked
import GoSem.Claim
import GoSem.ClaimJoined
import GoSem.ClaimMapViews
import Derived.JoinedTies
import Derived.KernelRfl
namespace Go.Proofs.Ytodbhokokdckkaa
/- THE CELL 'sum', in the pinned program and in every row, IS THE sha256 OF THE DUMP (.gsa) THAT YtodbhokokdckkaaProg.lean LOADS. Nothing in Lean hashes anything: it is a label: what it is worth is what the hold of that sum in a sandbox is worth. -/
noncomputable def Try.pinned : Pinned := { name := "ytodbhokokdckkaa", sum := "df5dbd6f04e239af23f7b5443e918c78079e99f73d61df8223cc37918c5be177", checked := Try.checked }
namespace Rows
def none {H : Type} : Left H := { results := [], args := [] }

/-- 'laws.FnExactJoinGraphs': WHATEVER THE INPUT: true; the input reads as it did. -/
def fnExactJoinGraphsSpec : ChangeSpec := { name := "fnExactJoinGraphs", fn := fun _ => fun
  | [d1, d2] => { results := [.lit (.bool true)], args := [d1, d2] }
  | _ => none }
def fnExactJoinGraphsRow : OpenClaim := { program := "ytodbhokokdckkaa", sum := "df5dbd6f04e239af23f7b5443e918c78079e99f73d61df8223cc37918c5be177", func := "loop.example/g01146/laws.FnExactJoinGraphs", spec := "fnExactJoinGraphs", apart := false }
def FnExactJoinGraphsSaid : Prop := fnExactJoinGraphsRow.holds Try.pinned (OpenSpec.ofChange fnExactJoinGraphsSpec)

/-- ITS FALSE NEIGHBOUR: 'it returns false'. Refute it at one input. -/
def fnExactJoinGraphsWrong : ChangeSpec := { name := "fnExactJoinGraphs", fn := fun _ => fun
  | [d1, d2] => { results := [.lit (.bool false)], args := [d1, d2] }
  | _ => none }
def FnExactJoinGraphsWrongFalsely : Prop := fnExactJoinGraphsRow.holds Try.pinned (OpenSpec.ofChange fnExactJoinGraphsWrong)

/-- 'laws.FnExactGraphOf': WHATEVER THE INPUT: true; the input reads as it did. -/
def fnExactGraphOfSpec : ChangeSpec := { name := "fnExactGraphOf", fn := fun _ => fun
  | [d1, d2, d3] => { results := [.lit (.bool true)], args := [d1, d2, d3] }
  | _ => none }
def fnExactGraphOfRow : OpenClaim := { program := "ytodbhokokdckkaa", sum := "df5dbd6f04e239af23f7b5443e918c78079e99f73d61df8223cc37918c5be177", func := "loop.example/g01146/laws.FnExactGraphOf", spec := "fnExactGraphOf", apart := false }
def FnExactGraphOfSaid : Prop := fnExactGraphOfRow.holds Try.pinned (OpenSpec.ofChange fnExactGraphOfSpec)

/-- ITS FALSE NEIGHBOUR: 'it returns false'. Refute it at one input. -/
def fnExactGraphOfWrong : ChangeSpec := { name := "fnExactGraphOf", fn := fun _ => fun
  | [d1, d2, d3] => { results := [.lit (.bool false)], args := [d1, d2, d3] }
  | _ => none }
def FnExactGraphOfWrongFalsely : Prop := fnExactGraphOfRow.holds Try.pinned (OpenSpec.ofChange fnExactGraphOfWrong)

/-- 'laws.FnExactEdgesOf': WHATEVER THE INPUT: true; the input reads as it did. -/
def fnExactEdgesOfSpec : ChangeSpec := { name := "fnExactEdgesOf", fn := fun _ => fun
  | [d] => { results := [.lit (.bool true)], args := [d] }
  | _ => none }
def fnExactEdgesOfRow : OpenClaim := { program := "ytodbhokokdckkaa", sum := "df5dbd6f04e239af23f7b5443e918c78079e99f73d61df8223cc37918c5be177", func := "loop.example/g01146/laws.FnExactEdgesOf", spec := "fnExactEdgesOf", apart := false }
def FnExactEdgesOfSaid : Prop := fnExactEdgesOfRow.holds Try.pinned (OpenSpec.ofChange fnExactEdgesOfSpec)

/-- ITS FALSE NEIGHBOUR: 'it returns false'. Refute it at one input. -/
def fnExactEdgesOfWrong : ChangeSpec := { name := "fnExactEdgesOf", fn := fun _ => fun
  | [d] => { results := [.lit (.bool false)], args := [d] }
  | _ => none }
def FnExactEdgesOfWrongFalsely : Prop := fnExactEdgesOfRow.holds Try.pinned (OpenSpec.ofChange fnExactEdgesOfWrong)

/-- 'laws.FnExactRankOf': WHATEVER THE INPUT: true; the input reads as it did. -/
def fnExactRankOfSpec : ChangeSpec := { name := "fnExactRankOf", fn := fun _ => fun
  | [d] => { results := [.lit (.bool true)], args := [d] }
  | _ => none }
def fnExactRankOfRow : OpenClaim := { program := "ytodbhokokdckkaa", sum := "df5dbd6f04e239af23f7b5443e918c78079e99f73d61df8223cc37918c5be177", func := "loop.example/g01146/laws.FnExactRankOf", spec := "fnExactRankOf", inPlace := ["slices.overlaps[int]"], unfollowed := true, recurses := true, apart := false }
def FnExactRankOfSaid : Prop := fnExactRankOfRow.holds Try.pinned (OpenSpec.ofChange fnExactRankOfSpec)

/-- ITS FALSE NEIGHBOUR: 'it returns false'. Refute it at one input. -/
def fnExactRankOfWrong : ChangeSpec := { name := "fnExactRankOf", fn := fun _ => fun
  | [d] => { results := [.lit (.bool false)], args := [d] }
  | _ => none }
def FnExactRankOfWrongFalsely : Prop := fnExactRankOfRow.holds Try.pinned (OpenSpec.ofChange fnExactRankOfWrong)

/-- 'laws.FnExactNullityOf': WHATEVER THE INPUT: true; the input reads as it did. -/
def fnExactNullityOfSpec : ChangeSpec := { name := "fnExactNullityOf", fn := fun _ => fun
  | [d] => { results := [.lit (.bool true)], args := [d] }
  | _ => none }
def fnExactNullityOfRow : OpenClaim := { program := "ytodbhokokdckkaa", sum := "df5dbd6f04e239af23f7b5443e918c78079e99f73d61df8223cc37918c5be177", func := "loop.example/g01146/laws.FnExactNullityOf", spec := "fnExactNullityOf", inPlace := ["slices.overlaps[int]"], unfollowed := true, recurses := true, apart := false }
def FnExactNullityOfSaid : Prop := fnExactNullityOfRow.holds Try.pinned (OpenSpec.ofChange fnExactNullityOfSpec)

/-- ITS FALSE NEIGHBOUR: 'it returns false'. Refute it at one input. -/
def fnExactNullityOfWrong : ChangeSpec := { name := "fnExactNullityOf", fn := fun _ => fun
  | [d] => { results := [.lit (.bool false)], args := [d] }
  | _ => none }
def FnExactNullityOfWrongFalsely : Prop := fnExactNullityOfRow.holds Try.pinned (OpenSpec.ofChange fnExactNullityOfWrong)

/-- 'laws.FnExactQuietBasis': WHATEVER THE INPUT: true; the input reads as it did. -/
def fnExactQuietBasisSpec : ChangeSpec := { name := "fnExactQuietBasis", fn := fun _ => fun
  | [d] => { results := [.lit (.bool true)], args := [d] }
  | _ => none }
def fnExactQuietBasisRow : OpenClaim := { program := "ytodbhokokdckkaa", sum := "df5dbd6f04e239af23f7b5443e918c78079e99f73d61df8223cc37918c5be177", func := "loop.example/g01146/laws.FnExactQuietBasis", spec := "fnExactQuietBasis", inPlace := ["slices.overlaps[int]"], unfollowed := true, recurses := true, apart := false }
def FnExactQuietBasisSaid : Prop := fnExactQuietBasisRow.holds Try.pinned (OpenSpec.ofChange fnExactQuietBasisSpec)

/-- ITS FALSE NEIGHBOUR: 'it returns false'. Refute it at one input. -/
def fnExactQuietBasisWrong : ChangeSpec := { name := "fnExactQuietBasis", fn := fun _ => fun
  | [d] => { results := [.lit (.bool false)], args := [d] }
  | _ => none }
def FnExactQuietBasisWrongFalsely : Prop := fnExactQuietBasisRow.holds Try.pinned (OpenSpec.ofChange fnExactQuietBasisWrong)

/-- 'laws.FnExactQuietPatterns': WHATEVER THE INPUT: true; the input reads as it did. -/
def fnExactQuietPatternsSpec : ChangeSpec := { name := "fnExactQuietPatterns", fn := fun _ => fun
  | [d] => { results := [.lit (.bool true)], args := [d] }
  | _ => none }
def fnExactQuietPatternsRow : OpenClaim := { program := "ytodbhokokdckkaa", sum := "df5dbd6f04e239af23f7b5443e918c78079e99f73d61df8223cc37918c5be177", func := "loop.example/g01146/laws.FnExactQuietPatterns", spec := "fnExactQuietPatterns", inPlace := ["slices.overlaps[int]"], unfollowed := true, recurses := true, apart := false }
def FnExactQuietPatternsSaid : Prop := fnExactQuietPatternsRow.holds Try.pinned (OpenSpec.ofChange fnExactQuietPatternsSpec)

/-- ITS FALSE NEIGHBOUR: 'it returns false'. Refute it at one input. -/
def fnExactQuietPatternsWrong : ChangeSpec := { name := "fnExactQuietPatterns", fn := fun _ => fun
  | [d] => { results := [.lit (.bool false)], args := [d] }
  | _ => none }
def FnExactQuietPatternsWrongFalsely : Prop := fnExactQuietPatternsRow.holds Try.pinned (OpenSpec.ofChange fnExactQuietPatternsWrong)

/-- 'laws.FnExactImageBasis': WHATEVER THE INPUT: true; the input reads as it did. -/
def fnExactImageBasisSpec : ChangeSpec := { name := "fnExactImageBasis", fn := fun _ => fun
  | [d] => { results := [.lit (.bool true)], args := [d] }
  | _ => none }
def fnExactImageBasisRow : OpenClaim := { program := "ytodbhokokdckkaa", sum := "df5dbd6f04e239af23f7b5443e918c78079e99f73d61df8223cc37918c5be177", func := "loop.example/g01146/laws.FnExactImageBasis", spec := "fnExactImageBasis", inPlace := ["slices.overlaps[int]"], unfollowed := true, recurses := true, apart := false }
def FnExactImageBasisSaid : Prop := fnExactImageBasisRow.holds Try.pinned (OpenSpec.ofChange fnExactImageBasisSpec)

/-- ITS FALSE NEIGHBOUR: 'it returns false'. Refute it at one input. -/
def fnExactImageBasisWrong : ChangeSpec := { name := "fnExactImageBasis", fn := fun _ => fun
  | [d] => { results := [.lit (.bool false)], args := [d] }
  | _ => none }
def FnExactImageBasisWrongFalsely : Prop := fnExactImageBasisRow.holds Try.pinned (OpenSpec.ofChange fnExactImageBasisWrong)

/-- 'laws.FnExactCanSolve': WHATEVER THE INPUT: true; the input reads as it did. -/
def fnExactCanSolveSpec : ChangeSpec := { name := "fnExactCanSolve", fn := fun _ => fun
  | [d1, d2] => { results := [.lit (.bool true)], args := [d1, d2] }
  | _ => none }
def fnExactCanSolveRow : OpenClaim := { program := "ytodbhokokdckkaa", sum := "df5dbd6f04e239af23f7b5443e918c78079e99f73d61df8223cc37918c5be177", func := "loop.example/g01146/laws.FnExactCanSolve", spec := "fnExactCanSolve", inPlace := ["slices.overlaps[int]"], unfollowed := true, recurses := true, apart := false }
def FnExactCanSolveSaid : Prop := fnExactCanSolveRow.holds Try.pinned (OpenSpec.ofChange fnExactCanSolveSpec)

/-- ITS FALSE NEIGHBOUR: 'it returns false'. Refute it at one input. -/
def fnExactCanSolveWrong : ChangeSpec := { name := "fnExactCanSolve", fn := fun _ => fun
  | [d1, d2] => { results := [.lit (.bool false)], args := [d1, d2] }
  | _ => none }
def FnExactCanSolveWrongFalsely : Prop := fnExactCanSolveRow.holds Try.pinned (OpenSpec.ofChange fnExactCanSolveWrong)

/-- 'laws.FnExactSolveBoard': WHATEVER THE INPUT: true; the input reads as it did. -/
def fnExactSolveBoardSpec : ChangeSpec := { name := "fnExactSolveBoard", fn := fun _ => fun
  | [d1, d2] => { results := [.lit (.bool true)], args := [d1, d2] }
  | _ => none }
def fnExactSolveBoardRow : OpenClaim := { program := "ytodbhokokdckkaa", sum := "df5dbd6f04e239af23f7b5443e918c78079e99f73d61df8223cc37918c5be177", func := "loop.example/g01146/laws.FnExactSolveBoard", spec := "fnExactSolveBoard", inPlace := ["slices.overlaps[int]"], unfollowed := true, recurses := true, apart := false }
def FnExactSolveBoardSaid : Prop := fnExactSolveBoardRow.holds Try.pinned (OpenSpec.ofChange fnExactSolveBoardSpec)

/-- ITS FALSE NEIGHBOUR: 'it returns false'. Refute it at one input. -/
def fnExactSolveBoardWrong : ChangeSpec := { name := "fnExactSolveBoard", fn := fun _ => fun
  | [d1, d2] => { results := [.lit (.bool false)], args := [d1, d2] }
  | _ => none }
def FnExactSolveBoardWrongFalsely : Prop := fnExactSolveBoardRow.holds Try.pinned (OpenSpec.ofChange fnExactSolveBoardWrong)

/-- 'laws.FnExactWitnessOf': WHATEVER THE INPUT: true; the input reads as it did. -/
def fnExactWitnessOfSpec : ChangeSpec := { name := "fnExactWitnessOf", fn := fun _ => fun
  | [d1, d2] => { results := [.lit (.bool true)], args := [d1, d2] }
  | _ => none }
def fnExactWitnessOfRow : OpenClaim := { program := "ytodbhokokdckkaa", sum := "df5dbd6f04e239af23f7b5443e918c78079e99f73d61df8223cc37918c5be177", func := "loop.example/g01146/laws.FnExactWitnessOf", spec := "fnExactWitnessOf", inPlace := ["slices.overlaps[int]"], unfollowed := true, recurses := true, apart := false }
def FnExactWitnessOfSaid : Prop := fnExactWitnessOfRow.holds Try.pinned (OpenSpec.ofChange fnExactWitnessOfSpec)

/-- ITS FALSE NEIGHBOUR: 'it returns false'. Refute it at one input. -/
def fnExactWitnessOfWrong : ChangeSpec := { name := "fnExactWitnessOf", fn := fun _ => fun
  | [d1, d2] => { results := [.lit (.bool false)], args := [d1, d2] }
  | _ => none }
def FnExactWitnessOfWrongFalsely : Prop := fnExactWitnessOfRow.holds Try.pinned (OpenSpec.ofChange fnExactWitnessOfWrong)

/-- 'laws.FnExactCountSolutions': WHATEVER THE INPUT: true; the input reads as it did. -/
def fnExactCountSolutionsSpec : ChangeSpec := { name := "fnExactCountSolutions", fn := fun _ => fun
  | [d1, d2] => { results := [.lit (.bool true)], args := [d1, d2] }
  | _ => none }
def fnExactCountSolutionsRow : OpenClaim := { program := "ytodbhokokdckkaa", sum := "df5dbd6f04e239af23f7b5443e918c78079e99f73d61df8223cc37918c5be177", func := "loop.example/g01146/laws.FnExactCountSolutions", spec := "fnExactCountSolutions", inPlace := ["slices.overlaps[int]"], unfollowed := true, recurses := true, apart := false }
def FnExactCountSolutionsSaid : Prop := fnExactCountSolutionsRow.holds Try.pinned (OpenSpec.ofChange fnExactCountSolutionsSpec)

/-- ITS FALSE NEIGHBOUR: 'it returns false'. Refute it at one input. -/
def fnExactCountSolutionsWrong : ChangeSpec := { name := "fnExactCountSolutions", fn := fun _ => fun
  | [d1, d2] => { results := [.lit (.bool false)], args := [d1, d2] }
  | _ => none }
def FnExactCountSolutionsWrongFalsely : Prop := fnExactCountSolutionsRow.holds Try.pinned (OpenSpec.ofChange fnExactCountSolutionsWrong)

/-- 'laws.FnExactLeastSolution': WHATEVER THE INPUT: true; the input reads as it did. -/
def fnExactLeastSolutionSpec : ChangeSpec := { name := "fnExactLeastSolution", fn := fun _ => fun
  | [d1, d2] => { results := [.lit (.bool true)], args := [d1, d2] }
  | _ => none }
def fnExactLeastSolutionRow : OpenClaim := { program := "ytodbhokokdckkaa", sum := "df5dbd6f04e239af23f7b5443e918c78079e99f73d61df8223cc37918c5be177", func := "loop.example/g01146/laws.FnExactLeastSolution", spec := "fnExactLeastSolution", inPlace := ["slices.overlaps[int]"], unfollowed := true, recurses := true, apart := false }
def FnExactLeastSolutionSaid : Prop := fnExactLeastSolutionRow.holds Try.pinned (OpenSpec.ofChange fnExactLeastSolutionSpec)

/-- ITS FALSE NEIGHBOUR: 'it returns false'. Refute it at one input. -/
def fnExactLeastSolutionWrong : ChangeSpec := { name := "fnExactLeastSolution", fn := fun _ => fun
  | [d1, d2] => { results := [.lit (.bool false)], args := [d1, d2] }
  | _ => none }
def FnExactLeastSolutionWrongFalsely : Prop := fnExactLeastSolutionRow.holds Try.pinned (OpenSpec.ofChange fnExactLeastSolutionWrong)

/-- 'laws.FnExactAllOn': WHATEVER THE INPUT: true; the input reads as it did. -/
def fnExactAllOnSpec : ChangeSpec := { name := "fnExactAllOn", fn := fun _ => fun
  | [d] => { results := [.lit (.bool true)], args := [d] }
  | _ => none }
def fnExactAllOnRow : OpenClaim := { program := "ytodbhokokdckkaa", sum := "df5dbd6f04e239af23f7b5443e918c78079e99f73d61df8223cc37918c5be177", func := "loop.example/g01146/laws.FnExactAllOn", spec := "fnExactAllOn", inPlace := ["slices.overlaps[int]"], unfollowed := true, recurses := true, apart := false }
def FnExactAllOnSaid : Prop := fnExactAllOnRow.holds Try.pinned (OpenSpec.ofChange fnExactAllOnSpec)

/-- ITS FALSE NEIGHBOUR: 'it returns false'. Refute it at one input. -/
def fnExactAllOnWrong : ChangeSpec := { name := "fnExactAllOn", fn := fun _ => fun
  | [d] => { results := [.lit (.bool false)], args := [d] }
  | _ => none }
def FnExactAllOnWrongFalsely : Prop := fnExactAllOnRow.holds Try.pinned (OpenSpec.ofChange fnExactAllOnWrong)

/-- 'laws.FnExactCountSolvable': WHATEVER THE INPUT: true; the input reads as it did. -/
def fnExactCountSolvableSpec : ChangeSpec := { name := "fnExactCountSolvable", fn := fun _ => fun
  | [d] => { results := [.lit (.bool true)], args := [d] }
  | _ => none }
def fnExactCountSolvableRow : OpenClaim := { program := "ytodbhokokdckkaa", sum := "df5dbd6f04e239af23f7b5443e918c78079e99f73d61df8223cc37918c5be177", func := "loop.example/g01146/laws.FnExactCountSolvable", spec := "fnExactCountSolvable", inPlace := ["slices.overlaps[int]"], unfollowed := true, recurses := true, apart := false }
def FnExactCountSolvableSaid : Prop := fnExactCountSolvableRow.holds Try.pinned (OpenSpec.ofChange fnExactCountSolvableSpec)

/-- ITS FALSE NEIGHBOUR: 'it returns false'. Refute it at one input. -/
def fnExactCountSolvableWrong : ChangeSpec := { name := "fnExactCountSolvable", fn := fun _ => fun
  | [d] => { results := [.lit (.bool false)], args := [d] }
  | _ => none }
def FnExactCountSolvableWrongFalsely : Prop := fnExactCountSolvableRow.holds Try.pinned (OpenSpec.ofChange fnExactCountSolvableWrong)

/-- 'laws.FnExactFarthestBoard': WHATEVER THE INPUT: true; the input reads as it did. -/
def fnExactFarthestBoardSpec : ChangeSpec := { name := "fnExactFarthestBoard", fn := fun _ => fun
  | [d] => { results := [.lit (.bool true)], args := [d] }
  | _ => none }
def fnExactFarthestBoardRow : OpenClaim := { program := "ytodbhokokdckkaa", sum := "df5dbd6f04e239af23f7b5443e918c78079e99f73d61df8223cc37918c5be177", func := "loop.example/g01146/laws.FnExactFarthestBoard", spec := "fnExactFarthestBoard", inPlace := ["slices.overlaps[int]"], unfollowed := true, recurses := true, apart := false }
def FnExactFarthestBoardSaid : Prop := fnExactFarthestBoardRow.holds Try.pinned (OpenSpec.ofChange fnExactFarthestBoardSpec)

/-- ITS FALSE NEIGHBOUR: 'it returns false'. Refute it at one input. -/
def fnExactFarthestBoardWrong : ChangeSpec := { name := "fnExactFarthestBoard", fn := fun _ => fun
  | [d] => { results := [.lit (.bool false)], args := [d] }
  | _ => none }
def FnExactFarthestBoardWrongFalsely : Prop := fnExactFarthestBoardRow.holds Try.pinned (OpenSpec.ofChange fnExactFarthestBoardWrong)

/-- 'laws.FnExactSolutionsBySize': WHATEVER THE INPUT: true; the input reads as it did. -/
def fnExactSolutionsBySizeSpec : ChangeSpec := { name := "fnExactSolutionsBySize", fn := fun _ => fun
  | [d1, d2] => { results := [.lit (.bool true)], args := [d1, d2] }
  | _ => none }
def fnExactSolutionsBySizeRow : OpenClaim := { program := "ytodbhokokdckkaa", sum := "df5dbd6f04e239af23f7b5443e918c78079e99f73d61df8223cc37918c5be177", func := "loop.example/g01146/laws.FnExactSolutionsBySize", spec := "fnExactSolutionsBySize", inPlace := ["slices.overlaps[int]"], unfollowed := true, recurses := true, apart := false }
def FnExactSolutionsBySizeSaid : Prop := fnExactSolutionsBySizeRow.holds Try.pinned (OpenSpec.ofChange fnExactSolutionsBySizeSpec)

/-- ITS FALSE NEIGHBOUR: 'it returns false'. Refute it at one input. -/
def fnExactSolutionsBySizeWrong : ChangeSpec := { name := "fnExactSolutionsBySize", fn := fun _ => fun
  | [d1, d2] => { results := [.lit (.bool false)], args := [d1, d2] }
  | _ => none }
def FnExactSolutionsBySizeWrongFalsely : Prop := fnExactSolutionsBySizeRow.holds Try.pinned (OpenSpec.ofChange fnExactSolutionsBySizeWrong)

/-- 'laws.FnExactReducedSet': WHATEVER THE INPUT: true; the input reads as it did. -/
def fnExactReducedSetSpec : ChangeSpec := { name := "fnExactReducedSet", fn := fun _ => fun
  | [d1, d2] => { results := [.lit (.bool true)], args := [d1, d2] }
  | _ => none }
def fnExactReducedSetRow : OpenClaim := { program := "ytodbhokokdckkaa", sum := "df5dbd6f04e239af23f7b5443e918c78079e99f73d61df8223cc37918c5be177", func := "loop.example/g01146/laws.FnExactReducedSet", spec := "fnExactReducedSet", inPlace := ["slices.overlaps[int]"], unfollowed := true, recurses := true, apart := false }
def FnExactReducedSetSaid : Prop := fnExactReducedSetRow.holds Try.pinned (OpenSpec.ofChange fnExactReducedSetSpec)

/-- ITS FALSE NEIGHBOUR: 'it returns false'. Refute it at one input. -/
def fnExactReducedSetWrong : ChangeSpec := { name := "fnExactReducedSet", fn := fun _ => fun
  | [d1, d2] => { results := [.lit (.bool false)], args := [d1, d2] }
  | _ => none }
def FnExactReducedSetWrongFalsely : Prop := fnExactReducedSetRow.holds Try.pinned (OpenSpec.ofChange fnExactReducedSetWrong)

/- THE SECOND FORM. 'bulk': how many values and letters a reading holds, each counted each time it is reached (what is shared counts as often as it is met; a slice's spare places count too). A statement '..UptoSaid' is the law's where the arguments, and the package variables that the reading takes, are together of bulk at most 1048576: NARROWER than '..Said'. Prove '..Said' where nothing that the law and all that it calls make is longer than what came in: it says more and counts as full. Else prove '..UptoSaid'. A law counts once. -/
mutual
def uptoBulk {H : Type} : DataW H → Nat
  | .lit (.string bytes) => bytes.length + 1
  | .lit _ => 1
  | .nil => 1
  | .ptr d => uptoBulk d + 1
  | .slice elems spare => uptoBulkAll elems + uptoBulkAll spare + 1
  | .agg parts => uptoBulkAll parts + 1
  | .iface _ d => uptoBulk d + 1
  | .map entries => uptoBulkEntries entries + 1
  | .held _ => 1
def uptoBulkAll {H : Type} : List (DataW H) → Nat
  | [] => 0
  | d :: r => uptoBulk d + uptoBulkAll r
def uptoBulkEntries {H : Type} : List (Lit × DataW H) → Nat
  | [] => 0
  | x :: r => uptoBulkEntry x + uptoBulkEntries r
def uptoBulkEntry {H : Type} : Lit × DataW H → Nat
  | (.string bytes, d) => bytes.length + uptoBulk d + 1
  | (_, d) => uptoBulk d + 1
 end
def uptoSmall : (H : Type) → List (DataW H) → Bool := fun _ ds => decide (uptoBulkAll ds ≤ 1048576)
def OpenSpec.upto (s : _root_.Go.ChangeSpec) : _root_.Go.OpenSpec := { _root_.Go.OpenSpec.ofChange s with cond := some uptoSmall }

/-- 'laws.FnExactJoinGraphs', WHERE WHAT IT READS IS OF BULK AT MOST 1048576: true; the input reads as it did. -/
def fnExactJoinGraphsUptoRow : OpenClaim := { program := "ytodbhokokdckkaa", sum := "df5dbd6f04e239af23f7b5443e918c78079e99f73d61df8223cc37918c5be177", func := "loop.example/g01146/laws.FnExactJoinGraphs", spec := "fnExactJoinGraphs", apart := false, narrowed := true }
def FnExactJoinGraphsUptoSaid : Prop := fnExactJoinGraphsUptoRow.holds Try.pinned (OpenSpec.upto fnExactJoinGraphsSpec)

/-- 'laws.FnExactGraphOf', WHERE WHAT IT READS IS OF BULK AT MOST 1048576: true; the input reads as it did. -/
def fnExactGraphOfUptoRow : OpenClaim := { program := "ytodbhokokdckkaa", sum := "df5dbd6f04e239af23f7b5443e918c78079e99f73d61df8223cc37918c5be177", func := "loop.example/g01146/laws.FnExactGraphOf", spec := "fnExactGraphOf", apart := false, narrowed := true }
def FnExactGraphOfUptoSaid : Prop := fnExactGraphOfUptoRow.holds Try.pinned (OpenSpec.upto fnExactGraphOfSpec)

/-- 'laws.FnExactEdgesOf', WHERE WHAT IT READS IS OF BULK AT MOST 1048576: true; the input reads as it did. -/
def fnExactEdgesOfUptoRow : OpenClaim := { program := "ytodbhokokdckkaa", sum := "df5dbd6f04e239af23f7b5443e918c78079e99f73d61df8223cc37918c5be177", func := "loop.example/g01146/laws.FnExactEdgesOf", spec := "fnExactEdgesOf", apart := false, narrowed := true }
def FnExactEdgesOfUptoSaid : Prop := fnExactEdgesOfUptoRow.holds Try.pinned (OpenSpec.upto fnExactEdgesOfSpec)

/-- 'laws.FnExactRankOf', WHERE WHAT IT READS IS OF BULK AT MOST 1048576: true; the input reads as it did. -/
def fnExactRankOfUptoRow : OpenClaim := { program := "ytodbhokokdckkaa", sum := "df5dbd6f04e239af23f7b5443e918c78079e99f73d61df8223cc37918c5be177", func := "loop.example/g01146/laws.FnExactRankOf", spec := "fnExactRankOf", inPlace := ["slices.overlaps[int]"], unfollowed := true, recurses := true, apart := false, narrowed := true }
def FnExactRankOfUptoSaid : Prop := fnExactRankOfUptoRow.holds Try.pinned (OpenSpec.upto fnExactRankOfSpec)

/-- 'laws.FnExactNullityOf', WHERE WHAT IT READS IS OF BULK AT MOST 1048576: true; the input reads as it did. -/
def fnExactNullityOfUptoRow : OpenClaim := { program := "ytodbhokokdckkaa", sum := "df5dbd6f04e239af23f7b5443e918c78079e99f73d61df8223cc37918c5be177", func := "loop.example/g01146/laws.FnExactNullityOf", spec := "fnExactNullityOf", inPlace := ["slices.overlaps[int]"], unfollowed := true, recurses := true, apart := false, narrowed := true }
def FnExactNullityOfUptoSaid : Prop := fnExactNullityOfUptoRow.holds Try.pinned (OpenSpec.upto fnExactNullityOfSpec)

/-- 'laws.FnExactQuietBasis', WHERE WHAT IT READS IS OF BULK AT MOST 1048576: true; the input reads as it did. -/
def fnExactQuietBasisUptoRow : OpenClaim := { program := "ytodbhokokdckkaa", sum := "df5dbd6f04e239af23f7b5443e918c78079e99f73d61df8223cc37918c5be177", func := "loop.example/g01146/laws.FnExactQuietBasis", spec := "fnExactQuietBasis", inPlace := ["slices.overlaps[int]"], unfollowed := true, recurses := true, apart := false, narrowed := true }
def FnExactQuietBasisUptoSaid : Prop := fnExactQuietBasisUptoRow.holds Try.pinned (OpenSpec.upto fnExactQuietBasisSpec)

/-- 'laws.FnExactQuietPatterns', WHERE WHAT IT READS IS OF BULK AT MOST 1048576: true; the input reads as it did. -/
def fnExactQuietPatternsUptoRow : OpenClaim := { program := "ytodbhokokdckkaa", sum := "df5dbd6f04e239af23f7b5443e918c78079e99f73d61df8223cc37918c5be177", func := "loop.example/g01146/laws.FnExactQuietPatterns", spec := "fnExactQuietPatterns", inPlace := ["slices.overlaps[int]"], unfollowed := true, recurses := true, apart := false, narrowed := true }
def FnExactQuietPatternsUptoSaid : Prop := fnExactQuietPatternsUptoRow.holds Try.pinned (OpenSpec.upto fnExactQuietPatternsSpec)

/-- 'laws.FnExactImageBasis', WHERE WHAT IT READS IS OF BULK AT MOST 1048576: true; the input reads as it did. -/
def fnExactImageBasisUptoRow : OpenClaim := { program := "ytodbhokokdckkaa", sum := "df5dbd6f04e239af23f7b5443e918c78079e99f73d61df8223cc37918c5be177", func := "loop.example/g01146/laws.FnExactImageBasis", spec := "fnExactImageBasis", inPlace := ["slices.overlaps[int]"], unfollowed := true, recurses := true, apart := false, narrowed := true }
def FnExactImageBasisUptoSaid : Prop := fnExactImageBasisUptoRow.holds Try.pinned (OpenSpec.upto fnExactImageBasisSpec)

/-- 'laws.FnExactCanSolve', WHERE WHAT IT READS IS OF BULK AT MOST 1048576: true; the input reads as it did. -/
def fnExactCanSolveUptoRow : OpenClaim := { program := "ytodbhokokdckkaa", sum := "df5dbd6f04e239af23f7b5443e918c78079e99f73d61df8223cc37918c5be177", func := "loop.example/g01146/laws.FnExactCanSolve", spec := "fnExactCanSolve", inPlace := ["slices.overlaps[int]"], unfollowed := true, recurses := true, apart := false, narrowed := true }
def FnExactCanSolveUptoSaid : Prop := fnExactCanSolveUptoRow.holds Try.pinned (OpenSpec.upto fnExactCanSolveSpec)

/-- 'laws.FnExactSolveBoard', WHERE WHAT IT READS IS OF BULK AT MOST 1048576: true; the input reads as it did. -/
def fnExactSolveBoardUptoRow : OpenClaim := { program := "ytodbhokokdckkaa", sum := "df5dbd6f04e239af23f7b5443e918c78079e99f73d61df8223cc37918c5be177", func := "loop.example/g01146/laws.FnExactSolveBoard", spec := "fnExactSolveBoard", inPlace := ["slices.overlaps[int]"], unfollowed := true, recurses := true, apart := false, narrowed := true }
def FnExactSolveBoardUptoSaid : Prop := fnExactSolveBoardUptoRow.holds Try.pinned (OpenSpec.upto fnExactSolveBoardSpec)

/-- 'laws.FnExactWitnessOf', WHERE WHAT IT READS IS OF BULK AT MOST 1048576: true; the input reads as it did. -/
def fnExactWitnessOfUptoRow : OpenClaim := { program := "ytodbhokokdckkaa", sum := "df5dbd6f04e239af23f7b5443e918c78079e99f73d61df8223cc37918c5be177", func := "loop.example/g01146/laws.FnExactWitnessOf", spec := "fnExactWitnessOf", inPlace := ["slices.overlaps[int]"], unfollowed := true, recurses := true, apart := false, narrowed := true }
def FnExactWitnessOfUptoSaid : Prop := fnExactWitnessOfUptoRow.holds Try.pinned (OpenSpec.upto fnExactWitnessOfSpec)

/-- 'laws.FnExactCountSolutions', WHERE WHAT IT READS IS OF BULK AT MOST 1048576: true; the input reads as it did. -/
def fnExactCountSolutionsUptoRow : OpenClaim := { program := "ytodbhokokdckkaa", sum := "df5dbd6f04e239af23f7b5443e918c78079e99f73d61df8223cc37918c5be177", func := "loop.example/g01146/laws.FnExactCountSolutions", spec := "fnExactCountSolutions", inPlace := ["slices.overlaps[int]"], unfollowed := true, recurses := true, apart := false, narrowed := true }
def FnExactCountSolutionsUptoSaid : Prop := fnExactCountSolutionsUptoRow.holds Try.pinned (OpenSpec.upto fnExactCountSolutionsSpec)

/-- 'laws.FnExactLeastSolution', WHERE WHAT IT READS IS OF BULK AT MOST 1048576: true; the input reads as it did. -/
def fnExactLeastSolutionUptoRow : OpenClaim := { program := "ytodbhokokdckkaa", sum := "df5dbd6f04e239af23f7b5443e918c78079e99f73d61df8223cc37918c5be177", func := "loop.example/g01146/laws.FnExactLeastSolution", spec := "fnExactLeastSolution", inPlace := ["slices.overlaps[int]"], unfollowed := true, recurses := true, apart := false, narrowed := true }
def FnExactLeastSolutionUptoSaid : Prop := fnExactLeastSolutionUptoRow.holds Try.pinned (OpenSpec.upto fnExactLeastSolutionSpec)

/-- 'laws.FnExactAllOn', WHERE WHAT IT READS IS OF BULK AT MOST 1048576: true; the input reads as it did. -/
def fnExactAllOnUptoRow : OpenClaim := { program := "ytodbhokokdckkaa", sum := "df5dbd6f04e239af23f7b5443e918c78079e99f73d61df8223cc37918c5be177", func := "loop.example/g01146/laws.FnExactAllOn", spec := "fnExactAllOn", inPlace := ["slices.overlaps[int]"], unfollowed := true, recurses := true, apart := false, narrowed := true }
def FnExactAllOnUptoSaid : Prop := fnExactAllOnUptoRow.holds Try.pinned (OpenSpec.upto fnExactAllOnSpec)

/-- 'laws.FnExactCountSolvable', WHERE WHAT IT READS IS OF BULK AT MOST 1048576: true; the input reads as it did. -/
def fnExactCountSolvableUptoRow : OpenClaim := { program := "ytodbhokokdckkaa", sum := "df5dbd6f04e239af23f7b5443e918c78079e99f73d61df8223cc37918c5be177", func := "loop.example/g01146/laws.FnExactCountSolvable", spec := "fnExactCountSolvable", inPlace := ["slices.overlaps[int]"], unfollowed := true, recurses := true, apart := false, narrowed := true }
def FnExactCountSolvableUptoSaid : Prop := fnExactCountSolvableUptoRow.holds Try.pinned (OpenSpec.upto fnExactCountSolvableSpec)

/-- 'laws.FnExactFarthestBoard', WHERE WHAT IT READS IS OF BULK AT MOST 1048576: true; the input reads as it did. -/
def fnExactFarthestBoardUptoRow : OpenClaim := { program := "ytodbhokokdckkaa", sum := "df5dbd6f04e239af23f7b5443e918c78079e99f73d61df8223cc37918c5be177", func := "loop.example/g01146/laws.FnExactFarthestBoard", spec := "fnExactFarthestBoard", inPlace := ["slices.overlaps[int]"], unfollowed := true, recurses := true, apart := false, narrowed := true }
def FnExactFarthestBoardUptoSaid : Prop := fnExactFarthestBoardUptoRow.holds Try.pinned (OpenSpec.upto fnExactFarthestBoardSpec)

/-- 'laws.FnExactSolutionsBySize', WHERE WHAT IT READS IS OF BULK AT MOST 1048576: true; the input reads as it did. -/
def fnExactSolutionsBySizeUptoRow : OpenClaim := { program := "ytodbhokokdckkaa", sum := "df5dbd6f04e239af23f7b5443e918c78079e99f73d61df8223cc37918c5be177", func := "loop.example/g01146/laws.FnExactSolutionsBySize", spec := "fnExactSolutionsBySize", inPlace := ["slices.overlaps[int]"], unfollowed := true, recurses := true, apart := false, narrowed := true }
def FnExactSolutionsBySizeUptoSaid : Prop := fnExactSolutionsBySizeUptoRow.holds Try.pinned (OpenSpec.upto fnExactSolutionsBySizeSpec)

/-- 'laws.FnExactReducedSet', WHERE WHAT IT READS IS OF BULK AT MOST 1048576: true; the input reads as it did. -/
def fnExactReducedSetUptoRow : OpenClaim := { program := "ytodbhokokdckkaa", sum := "df5dbd6f04e239af23f7b5443e918c78079e99f73d61df8223cc37918c5be177", func := "loop.example/g01146/laws.FnExactReducedSet", spec := "fnExactReducedSet", inPlace := ["slices.overlaps[int]"], unfollowed := true, recurses := true, apart := false, narrowed := true }
def FnExactReducedSetUptoSaid : Prop := fnExactReducedSetUptoRow.holds Try.pinned (OpenSpec.upto fnExactReducedSetSpec)

end Rows
end Go.Proofs.Ytodbhokokdckkaa
