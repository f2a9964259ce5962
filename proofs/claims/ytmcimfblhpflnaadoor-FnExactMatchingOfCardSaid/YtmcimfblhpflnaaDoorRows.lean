/-
  NARROWER THAN 'FOR EVERY INPUT', by the rows' own cells (each row's printed sentence says how): FnExactPartsOf: laid · FnExactIsForest: laid · FnExactLeavesOf: laid · FnExactCountEvenEdges: laid · FnExactParentsOf: laid · FnExactMatchingOf: laid · FnExactMatchingSize: laid · FnExactCountByStates: laid · FnExactLeastByStates: laid · FnExactNullityByStates: laid · FnExactCountEvenCuts: laid.
  DERIVED. THE GIVEN ROWS OF THIS SEAT. 11 by the template 'for every input the law returns true; each argument reads behind the call as it read before'; 0 by the template 'total and deterministic' (their statements: YtmcimfblhpflnaaDoorTotals.lean).
  GIVEN WITH THE SEED: the statements are not yours to turn. If you find one false, say at which input.
  Laid BY PROGRAM, IN A SANDBOX (cutbox-rows.mjs): the forced cells as the released guide's own fill.sh prints them over the translation 339ecb845bbd7871… (all of the seat's roots in one cut). By AI agents, Wed Nov 11 2026. No macro, syntax, notation, axiom, sorry.
-/
import Derived.Test.YtmcimfblhpflnaaDoorChecked
import GoSem.Claim
import GoSem.ClaimJoined
import GoSem.ClaimMapViews
import Derived.JoinedTies
import Derived.KernelRfl
namespace Go.Proofs.YtmcimfblhpflnaaDoor
/- THE CELL 'sum', in the pinned program and in every row, IS THE sha256 OF THE DUMP (.gsa) THAT YtmcimfblhpflnaaDoorProg.lean LOADS. Nothing in Lean hashes anything: it is a label: what it is worth is what the hold of that sum in a sandbox is worth. -/
noncomputable def Tryd.pinned : Pinned := { name := "ytmcimfblhpflnaadoor", sum := "339ecb845bbd7871b42ca24c2c22b5913b81736f7736f71ce8395c1150675713", checked := Tryd.checked }
namespace Rows
def none {H : Type} : Left H := { results := [], args := [] }

/- WHAT THE LISTED PACKAGE-LEVEL VARIABLES READ AS WHEN THE CALL BEGINS. Each datum BY PROGRAM (the guide's laid-datum.mjs) off the statement by which the dump's own 'gosem.cut.vars' lays the variable. In a bare row this is a premise. The card (YtmcimfblhpflnaaDoorCards.lean) ties it to the program's text. -/
def laid_math_bits_deBruijn32tab {H : Type} : DataW H := .agg [.lit (.int .u8 0), .lit (.int .u8 1), .lit (.int .u8 28), .lit (.int .u8 2), .lit (.int .u8 29), .lit (.int .u8 14), .lit (.int .u8 24), .lit (.int .u8 3), .lit (.int .u8 30), .lit (.int .u8 22), .lit (.int .u8 20), .lit (.int .u8 15), .lit (.int .u8 25), .lit (.int .u8 17), .lit (.int .u8 4), .lit (.int .u8 8), .lit (.int .u8 31), .lit (.int .u8 27), .lit (.int .u8 13), .lit (.int .u8 23), .lit (.int .u8 21), .lit (.int .u8 19), .lit (.int .u8 16), .lit (.int .u8 7), .lit (.int .u8 26), .lit (.int .u8 12), .lit (.int .u8 18), .lit (.int .u8 6), .lit (.int .u8 11), .lit (.int .u8 5), .lit (.int .u8 10), .lit (.int .u8 9)]
def laid_math_bits_deBruijn64tab {H : Type} : DataW H := .agg [.lit (.int .u8 0), .lit (.int .u8 1), .lit (.int .u8 56), .lit (.int .u8 2), .lit (.int .u8 57), .lit (.int .u8 49), .lit (.int .u8 28), .lit (.int .u8 3), .lit (.int .u8 61), .lit (.int .u8 58), .lit (.int .u8 42), .lit (.int .u8 50), .lit (.int .u8 38), .lit (.int .u8 29), .lit (.int .u8 17), .lit (.int .u8 4), .lit (.int .u8 62), .lit (.int .u8 47), .lit (.int .u8 59), .lit (.int .u8 36), .lit (.int .u8 45), .lit (.int .u8 43), .lit (.int .u8 51), .lit (.int .u8 22), .lit (.int .u8 53), .lit (.int .u8 39), .lit (.int .u8 33), .lit (.int .u8 30), .lit (.int .u8 24), .lit (.int .u8 18), .lit (.int .u8 12), .lit (.int .u8 5), .lit (.int .u8 63), .lit (.int .u8 55), .lit (.int .u8 48), .lit (.int .u8 27), .lit (.int .u8 60), .lit (.int .u8 41), .lit (.int .u8 37), .lit (.int .u8 16), .lit (.int .u8 46), .lit (.int .u8 35), .lit (.int .u8 44), .lit (.int .u8 21), .lit (.int .u8 52), .lit (.int .u8 32), .lit (.int .u8 23), .lit (.int .u8 11), .lit (.int .u8 54), .lit (.int .u8 26), .lit (.int .u8 40), .lit (.int .u8 15), .lit (.int .u8 34), .lit (.int .u8 20), .lit (.int .u8 31), .lit (.int .u8 10), .lit (.int .u8 25), .lit (.int .u8 14), .lit (.int .u8 19), .lit (.int .u8 9), .lit (.int .u8 13), .lit (.int .u8 8), .lit (.int .u8 7), .lit (.int .u8 6)]

/-- 'laws.FnExactPartsOf': WHATEVER THE INPUT: true; the input reads as it did. -/
def fnExactPartsOfSpec : ChangeSpec := { name := "fnExactPartsOf", fn := fun _ => fun
  | [d] => { results := [.lit (.bool true)], args := [d] }
  | _ => none }
def fnExactPartsOfRow : OpenClaim := { program := "ytmcimfblhpflnaadoor", sum := "339ecb845bbd7871b42ca24c2c22b5913b81736f7736f71ce8395c1150675713", func := "loop.example/g01146/laws.FnExactPartsOf", spec := "fnExactPartsOf", named := ["math/bits.deBruijn32tab", "math/bits.deBruijn64tab"], apart := false, laid := [("math/bits.deBruijn32tab", laid_math_bits_deBruijn32tab), ("math/bits.deBruijn64tab", laid_math_bits_deBruijn64tab)] }
def FnExactPartsOfSaid : Prop := fnExactPartsOfRow.holds Tryd.pinned (OpenSpec.ofChange fnExactPartsOfSpec)

/-- ITS FALSE NEIGHBOUR: 'it returns false'. Refute it at one input. -/
def fnExactPartsOfWrong : ChangeSpec := { name := "fnExactPartsOf", fn := fun _ => fun
  | [d] => { results := [.lit (.bool false)], args := [d] }
  | _ => none }
def FnExactPartsOfWrongFalsely : Prop := fnExactPartsOfRow.holds Tryd.pinned (OpenSpec.ofChange fnExactPartsOfWrong)

/-- 'laws.FnExactIsForest': WHATEVER THE INPUT: true; the input reads as it did. -/
def fnExactIsForestSpec : ChangeSpec := { name := "fnExactIsForest", fn := fun _ => fun
  | [d] => { results := [.lit (.bool true)], args := [d] }
  | _ => none }
def fnExactIsForestRow : OpenClaim := { program := "ytmcimfblhpflnaadoor", sum := "339ecb845bbd7871b42ca24c2c22b5913b81736f7736f71ce8395c1150675713", func := "loop.example/g01146/laws.FnExactIsForest", spec := "fnExactIsForest", named := ["math/bits.deBruijn32tab", "math/bits.deBruijn64tab"], apart := false, laid := [("math/bits.deBruijn32tab", laid_math_bits_deBruijn32tab), ("math/bits.deBruijn64tab", laid_math_bits_deBruijn64tab)] }
def FnExactIsForestSaid : Prop := fnExactIsForestRow.holds Tryd.pinned (OpenSpec.ofChange fnExactIsForestSpec)

/-- ITS FALSE NEIGHBOUR: 'it returns false'. Refute it at one input. -/
def fnExactIsForestWrong : ChangeSpec := { name := "fnExactIsForest", fn := fun _ => fun
  | [d] => { results := [.lit (.bool false)], args := [d] }
  | _ => none }
def FnExactIsForestWrongFalsely : Prop := fnExactIsForestRow.holds Tryd.pinned (OpenSpec.ofChange fnExactIsForestWrong)

/-- 'laws.FnExactLeavesOf': WHATEVER THE INPUT: true; the input reads as it did. -/
def fnExactLeavesOfSpec : ChangeSpec := { name := "fnExactLeavesOf", fn := fun _ => fun
  | [d] => { results := [.lit (.bool true)], args := [d] }
  | _ => none }
def fnExactLeavesOfRow : OpenClaim := { program := "ytmcimfblhpflnaadoor", sum := "339ecb845bbd7871b42ca24c2c22b5913b81736f7736f71ce8395c1150675713", func := "loop.example/g01146/laws.FnExactLeavesOf", spec := "fnExactLeavesOf", named := ["math/bits.deBruijn32tab", "math/bits.deBruijn64tab"], apart := false, laid := [("math/bits.deBruijn32tab", laid_math_bits_deBruijn32tab), ("math/bits.deBruijn64tab", laid_math_bits_deBruijn64tab)] }
def FnExactLeavesOfSaid : Prop := fnExactLeavesOfRow.holds Tryd.pinned (OpenSpec.ofChange fnExactLeavesOfSpec)

/-- ITS FALSE NEIGHBOUR: 'it returns false'. Refute it at one input. -/
def fnExactLeavesOfWrong : ChangeSpec := { name := "fnExactLeavesOf", fn := fun _ => fun
  | [d] => { results := [.lit (.bool false)], args := [d] }
  | _ => none }
def FnExactLeavesOfWrongFalsely : Prop := fnExactLeavesOfRow.holds Tryd.pinned (OpenSpec.ofChange fnExactLeavesOfWrong)

/-- 'laws.FnExactCountEvenEdges': WHATEVER THE INPUT: true; the input reads as it did. -/
def fnExactCountEvenEdgesSpec : ChangeSpec := { name := "fnExactCountEvenEdges", fn := fun _ => fun
  | [d] => { results := [.lit (.bool true)], args := [d] }
  | _ => none }
def fnExactCountEvenEdgesRow : OpenClaim := { program := "ytmcimfblhpflnaadoor", sum := "339ecb845bbd7871b42ca24c2c22b5913b81736f7736f71ce8395c1150675713", func := "loop.example/g01146/laws.FnExactCountEvenEdges", spec := "fnExactCountEvenEdges", named := ["math/bits.deBruijn32tab", "math/bits.deBruijn64tab"], apart := false, laid := [("math/bits.deBruijn32tab", laid_math_bits_deBruijn32tab), ("math/bits.deBruijn64tab", laid_math_bits_deBruijn64tab)] }
def FnExactCountEvenEdgesSaid : Prop := fnExactCountEvenEdgesRow.holds Tryd.pinned (OpenSpec.ofChange fnExactCountEvenEdgesSpec)

/-- ITS FALSE NEIGHBOUR: 'it returns false'. Refute it at one input. -/
def fnExactCountEvenEdgesWrong : ChangeSpec := { name := "fnExactCountEvenEdges", fn := fun _ => fun
  | [d] => { results := [.lit (.bool false)], args := [d] }
  | _ => none }
def FnExactCountEvenEdgesWrongFalsely : Prop := fnExactCountEvenEdgesRow.holds Tryd.pinned (OpenSpec.ofChange fnExactCountEvenEdgesWrong)

/-- 'laws.FnExactParentsOf': WHATEVER THE INPUT: true; the input reads as it did. -/
def fnExactParentsOfSpec : ChangeSpec := { name := "fnExactParentsOf", fn := fun _ => fun
  | [d] => { results := [.lit (.bool true)], args := [d] }
  | _ => none }
def fnExactParentsOfRow : OpenClaim := { program := "ytmcimfblhpflnaadoor", sum := "339ecb845bbd7871b42ca24c2c22b5913b81736f7736f71ce8395c1150675713", func := "loop.example/g01146/laws.FnExactParentsOf", spec := "fnExactParentsOf", unfollowed := true, recurses := true, named := ["math/bits.deBruijn32tab", "math/bits.deBruijn64tab"], apart := false, laid := [("math/bits.deBruijn32tab", laid_math_bits_deBruijn32tab), ("math/bits.deBruijn64tab", laid_math_bits_deBruijn64tab)] }
def FnExactParentsOfSaid : Prop := fnExactParentsOfRow.holds Tryd.pinned (OpenSpec.ofChange fnExactParentsOfSpec)

/-- ITS FALSE NEIGHBOUR: 'it returns false'. Refute it at one input. -/
def fnExactParentsOfWrong : ChangeSpec := { name := "fnExactParentsOf", fn := fun _ => fun
  | [d] => { results := [.lit (.bool false)], args := [d] }
  | _ => none }
def FnExactParentsOfWrongFalsely : Prop := fnExactParentsOfRow.holds Tryd.pinned (OpenSpec.ofChange fnExactParentsOfWrong)

/-- 'laws.FnExactMatchingOf': WHATEVER THE INPUT: true; the input reads as it did. -/
def fnExactMatchingOfSpec : ChangeSpec := { name := "fnExactMatchingOf", fn := fun _ => fun
  | [d] => { results := [.lit (.bool true)], args := [d] }
  | _ => none }
def fnExactMatchingOfRow : OpenClaim := { program := "ytmcimfblhpflnaadoor", sum := "339ecb845bbd7871b42ca24c2c22b5913b81736f7736f71ce8395c1150675713", func := "loop.example/g01146/laws.FnExactMatchingOf", spec := "fnExactMatchingOf", unfollowed := true, recurses := true, named := ["math/bits.deBruijn32tab", "math/bits.deBruijn64tab"], apart := false, laid := [("math/bits.deBruijn32tab", laid_math_bits_deBruijn32tab), ("math/bits.deBruijn64tab", laid_math_bits_deBruijn64tab)] }
def FnExactMatchingOfSaid : Prop := fnExactMatchingOfRow.holds Tryd.pinned (OpenSpec.ofChange fnExactMatchingOfSpec)

/-- ITS FALSE NEIGHBOUR: 'it returns false'. Refute it at one input. -/
def fnExactMatchingOfWrong : ChangeSpec := { name := "fnExactMatchingOf", fn := fun _ => fun
  | [d] => { results := [.lit (.bool false)], args := [d] }
  | _ => none }
def FnExactMatchingOfWrongFalsely : Prop := fnExactMatchingOfRow.holds Tryd.pinned (OpenSpec.ofChange fnExactMatchingOfWrong)

/-- 'laws.FnExactMatchingSize': WHATEVER THE INPUT: true; the input reads as it did. -/
def fnExactMatchingSizeSpec : ChangeSpec := { name := "fnExactMatchingSize", fn := fun _ => fun
  | [d] => { results := [.lit (.bool true)], args := [d] }
  | _ => none }
def fnExactMatchingSizeRow : OpenClaim := { program := "ytmcimfblhpflnaadoor", sum := "339ecb845bbd7871b42ca24c2c22b5913b81736f7736f71ce8395c1150675713", func := "loop.example/g01146/laws.FnExactMatchingSize", spec := "fnExactMatchingSize", unfollowed := true, recurses := true, named := ["math/bits.deBruijn32tab", "math/bits.deBruijn64tab"], apart := false, laid := [("math/bits.deBruijn32tab", laid_math_bits_deBruijn32tab), ("math/bits.deBruijn64tab", laid_math_bits_deBruijn64tab)] }
def FnExactMatchingSizeSaid : Prop := fnExactMatchingSizeRow.holds Tryd.pinned (OpenSpec.ofChange fnExactMatchingSizeSpec)

/-- ITS FALSE NEIGHBOUR: 'it returns false'. Refute it at one input. -/
def fnExactMatchingSizeWrong : ChangeSpec := { name := "fnExactMatchingSize", fn := fun _ => fun
  | [d] => { results := [.lit (.bool false)], args := [d] }
  | _ => none }
def FnExactMatchingSizeWrongFalsely : Prop := fnExactMatchingSizeRow.holds Tryd.pinned (OpenSpec.ofChange fnExactMatchingSizeWrong)

/-- 'laws.FnExactCountByStates': WHATEVER THE INPUT: true; the input reads as it did. -/
def fnExactCountByStatesSpec : ChangeSpec := { name := "fnExactCountByStates", fn := fun _ => fun
  | [d1, d2] => { results := [.lit (.bool true)], args := [d1, d2] }
  | _ => none }
def fnExactCountByStatesRow : OpenClaim := { program := "ytmcimfblhpflnaadoor", sum := "339ecb845bbd7871b42ca24c2c22b5913b81736f7736f71ce8395c1150675713", func := "loop.example/g01146/laws.FnExactCountByStates", spec := "fnExactCountByStates", unfollowed := true, recurses := true, named := ["math/bits.deBruijn32tab", "math/bits.deBruijn64tab"], apart := false, laid := [("math/bits.deBruijn32tab", laid_math_bits_deBruijn32tab), ("math/bits.deBruijn64tab", laid_math_bits_deBruijn64tab)] }
def FnExactCountByStatesSaid : Prop := fnExactCountByStatesRow.holds Tryd.pinned (OpenSpec.ofChange fnExactCountByStatesSpec)

/-- ITS FALSE NEIGHBOUR: 'it returns false'. Refute it at one input. -/
def fnExactCountByStatesWrong : ChangeSpec := { name := "fnExactCountByStates", fn := fun _ => fun
  | [d1, d2] => { results := [.lit (.bool false)], args := [d1, d2] }
  | _ => none }
def FnExactCountByStatesWrongFalsely : Prop := fnExactCountByStatesRow.holds Tryd.pinned (OpenSpec.ofChange fnExactCountByStatesWrong)

/-- 'laws.FnExactLeastByStates': WHATEVER THE INPUT: true; the input reads as it did. -/
def fnExactLeastByStatesSpec : ChangeSpec := { name := "fnExactLeastByStates", fn := fun _ => fun
  | [d1, d2] => { results := [.lit (.bool true)], args := [d1, d2] }
  | _ => none }
def fnExactLeastByStatesRow : OpenClaim := { program := "ytmcimfblhpflnaadoor", sum := "339ecb845bbd7871b42ca24c2c22b5913b81736f7736f71ce8395c1150675713", func := "loop.example/g01146/laws.FnExactLeastByStates", spec := "fnExactLeastByStates", unfollowed := true, recurses := true, named := ["math/bits.deBruijn32tab", "math/bits.deBruijn64tab"], apart := false, laid := [("math/bits.deBruijn32tab", laid_math_bits_deBruijn32tab), ("math/bits.deBruijn64tab", laid_math_bits_deBruijn64tab)] }
def FnExactLeastByStatesSaid : Prop := fnExactLeastByStatesRow.holds Tryd.pinned (OpenSpec.ofChange fnExactLeastByStatesSpec)

/-- ITS FALSE NEIGHBOUR: 'it returns false'. Refute it at one input. -/
def fnExactLeastByStatesWrong : ChangeSpec := { name := "fnExactLeastByStates", fn := fun _ => fun
  | [d1, d2] => { results := [.lit (.bool false)], args := [d1, d2] }
  | _ => none }
def FnExactLeastByStatesWrongFalsely : Prop := fnExactLeastByStatesRow.holds Tryd.pinned (OpenSpec.ofChange fnExactLeastByStatesWrong)

/-- 'laws.FnExactNullityByStates': WHATEVER THE INPUT: true; the input reads as it did. -/
def fnExactNullityByStatesSpec : ChangeSpec := { name := "fnExactNullityByStates", fn := fun _ => fun
  | [d] => { results := [.lit (.bool true)], args := [d] }
  | _ => none }
def fnExactNullityByStatesRow : OpenClaim := { program := "ytmcimfblhpflnaadoor", sum := "339ecb845bbd7871b42ca24c2c22b5913b81736f7736f71ce8395c1150675713", func := "loop.example/g01146/laws.FnExactNullityByStates", spec := "fnExactNullityByStates", unfollowed := true, recurses := true, named := ["math/bits.deBruijn32tab", "math/bits.deBruijn64tab"], apart := false, laid := [("math/bits.deBruijn32tab", laid_math_bits_deBruijn32tab), ("math/bits.deBruijn64tab", laid_math_bits_deBruijn64tab)] }
def FnExactNullityByStatesSaid : Prop := fnExactNullityByStatesRow.holds Tryd.pinned (OpenSpec.ofChange fnExactNullityByStatesSpec)

/-- ITS FALSE NEIGHBOUR: 'it returns false'. Refute it at one input. -/
def fnExactNullityByStatesWrong : ChangeSpec := { name := "fnExactNullityByStates", fn := fun _ => fun
  | [d] => { results := [.lit (.bool false)], args := [d] }
  | _ => none }
def FnExactNullityByStatesWrongFalsely : Prop := fnExactNullityByStatesRow.holds Tryd.pinned (OpenSpec.ofChange fnExactNullityByStatesWrong)

/-- 'laws.FnExactCountEvenCuts': WHATEVER THE INPUT: true; the input reads as it did. -/
def fnExactCountEvenCutsSpec : ChangeSpec := { name := "fnExactCountEvenCuts", fn := fun _ => fun
  | [d] => { results := [.lit (.bool true)], args := [d] }
  | _ => none }
def fnExactCountEvenCutsRow : OpenClaim := { program := "ytmcimfblhpflnaadoor", sum := "339ecb845bbd7871b42ca24c2c22b5913b81736f7736f71ce8395c1150675713", func := "loop.example/g01146/laws.FnExactCountEvenCuts", spec := "fnExactCountEvenCuts", inPlace := ["slices.overlaps[int]"], unfollowed := true, recurses := true, named := ["math/bits.deBruijn32tab", "math/bits.deBruijn64tab"], apart := false, laid := [("math/bits.deBruijn32tab", laid_math_bits_deBruijn32tab), ("math/bits.deBruijn64tab", laid_math_bits_deBruijn64tab)] }
def FnExactCountEvenCutsSaid : Prop := fnExactCountEvenCutsRow.holds Tryd.pinned (OpenSpec.ofChange fnExactCountEvenCutsSpec)

/-- ITS FALSE NEIGHBOUR: 'it returns false'. Refute it at one input. -/
def fnExactCountEvenCutsWrong : ChangeSpec := { name := "fnExactCountEvenCuts", fn := fun _ => fun
  | [d] => { results := [.lit (.bool false)], args := [d] }
  | _ => none }
def FnExactCountEvenCutsWrongFalsely : Prop := fnExactCountEvenCutsRow.holds Tryd.pinned (OpenSpec.ofChange fnExactCountEvenCutsWrong)

/- THE SECOND FORM. 'bulk': how many values and letters a reading holds, each counted each time it is reached (what is shared counts as often as it is met; a slice's spare places count too). A statement '..UptoSaid' is the law's where the arguments, and the package variables that the reading takes, are together of bulk at most 1048576: NARROWER than '..Said'. Prove '..Said' where nothing that the law and all that it calls make is longer than what came in: it says more and counts as full. Else prove '..UptoSaid'. A law counts once. -/
mutual
def uptoBulk {H : Type} : DataW H → Nat
  | .lit (.string bytes) => bytes.length + 1
  | .lit _ => 1
  | .nil => 1
  | .ptr d => uptoBulk d + 1
  | .slice elems spare => uptoBulkAll elems + uptoBulkAll spare + 1
  | .agg parts => uptoBulkAll parts + 1
  | .iface _ d => uptoBulk d + 1
  | .map entries => uptoBulkEntries entries + 1
  | .held _ => 1
def uptoBulkAll {H : Type} : List (DataW H) → Nat
  | [] => 0
  | d :: r => uptoBulk d + uptoBulkAll r
def uptoBulkEntries {H : Type} : List (Lit × DataW H) → Nat
  | [] => 0
  | x :: r => uptoBulkEntry x + uptoBulkEntries r
def uptoBulkEntry {H : Type} : Lit × DataW H → Nat
  | (.string bytes, d) => bytes.length + uptoBulk d + 1
  | (_, d) => uptoBulk d + 1
 end
def uptoSmall : (H : Type) → List (DataW H) → Bool := fun _ ds => decide (uptoBulkAll ds ≤ 1048576)
def OpenSpec.upto (s : _root_.Go.ChangeSpec) : _root_.Go.OpenSpec := { _root_.Go.OpenSpec.ofChange s with cond := some uptoSmall }

/-- 'laws.FnExactPartsOf', WHERE WHAT IT READS IS OF BULK AT MOST 1048576: true; the input reads as it did. -/
def fnExactPartsOfUptoRow : OpenClaim := { program := "ytmcimfblhpflnaadoor", sum := "339ecb845bbd7871b42ca24c2c22b5913b81736f7736f71ce8395c1150675713", func := "loop.example/g01146/laws.FnExactPartsOf", spec := "fnExactPartsOf", named := ["math/bits.deBruijn32tab", "math/bits.deBruijn64tab"], apart := false, laid := [("math/bits.deBruijn32tab", laid_math_bits_deBruijn32tab), ("math/bits.deBruijn64tab", laid_math_bits_deBruijn64tab)], narrowed := true }
def FnExactPartsOfUptoSaid : Prop := fnExactPartsOfUptoRow.holds Tryd.pinned (OpenSpec.upto fnExactPartsOfSpec)

/-- 'laws.FnExactIsForest', WHERE WHAT IT READS IS OF BULK AT MOST 1048576: true; the input reads as it did. -/
def fnExactIsForestUptoRow : OpenClaim := { program := "ytmcimfblhpflnaadoor", sum := "339ecb845bbd7871b42ca24c2c22b5913b81736f7736f71ce8395c1150675713", func := "loop.example/g01146/laws.FnExactIsForest", spec := "fnExactIsForest", named := ["math/bits.deBruijn32tab", "math/bits.deBruijn64tab"], apart := false, laid := [("math/bits.deBruijn32tab", laid_math_bits_deBruijn32tab), ("math/bits.deBruijn64tab", laid_math_bits_deBruijn64tab)], narrowed := true }
def FnExactIsForestUptoSaid : Prop := fnExactIsForestUptoRow.holds Tryd.pinned (OpenSpec.upto fnExactIsForestSpec)

/-- 'laws.FnExactLeavesOf', WHERE WHAT IT READS IS OF BULK AT MOST 1048576: true; the input reads as it did. -/
def fnExactLeavesOfUptoRow : OpenClaim := { program := "ytmcimfblhpflnaadoor", sum := "339ecb845bbd7871b42ca24c2c22b5913b81736f7736f71ce8395c1150675713", func := "loop.example/g01146/laws.FnExactLeavesOf", spec := "fnExactLeavesOf", named := ["math/bits.deBruijn32tab", "math/bits.deBruijn64tab"], apart := false, laid := [("math/bits.deBruijn32tab", laid_math_bits_deBruijn32tab), ("math/bits.deBruijn64tab", laid_math_bits_deBruijn64tab)], narrowed := true }
def FnExactLeavesOfUptoSaid : Prop := fnExactLeavesOfUptoRow.holds Tryd.pinned (OpenSpec.upto fnExactLeavesOfSpec)

/-- 'laws.FnExactCountEvenEdges', WHERE WHAT IT READS IS OF BULK AT MOST 1048576: true; the input reads as it did. -/
def fnExactCountEvenEdgesUptoRow : OpenClaim := { program := "ytmcimfblhpflnaadoor", sum := "339ecb845bbd7871b42ca24c2c22b5913b81736f7736f71ce8395c1150675713", func := "loop.example/g01146/laws.FnExactCountEvenEdges", spec := "fnExactCountEvenEdges", named := ["math/bits.deBruijn32tab", "math/bits.deBruijn64tab"], apart := false, laid := [("math/bits.deBruijn32tab", laid_math_bits_deBruijn32tab), ("math/bits.deBruijn64tab", laid_math_bits_deBruijn64tab)], narrowed := true }
def FnExactCountEvenEdgesUptoSaid : Prop := fnExactCountEvenEdgesUptoRow.holds Tryd.pinned (OpenSpec.upto fnExactCountEvenEdgesSpec)

/-- 'laws.FnExactParentsOf', WHERE WHAT IT READS IS OF BULK AT MOST 1048576: true; the input reads as it did. -/
def fnExactParentsOfUptoRow : OpenClaim := { program := "ytmcimfblhpflnaadoor", sum := "339ecb845bbd7871b42ca24c2c22b5913b81736f7736f71ce8395c1150675713", func := "loop.example/g01146/laws.FnExactParentsOf", spec := "fnExactParentsOf", unfollowed := true, recurses := true, named := ["math/bits.deBruijn32tab", "math/bits.deBruijn64tab"], apart := false, laid := [("math/bits.deBruijn32tab", laid_math_bits_deBruijn32tab), ("math/bits.deBruijn64tab", laid_math_bits_deBruijn64tab)], narrowed := true }
def FnExactParentsOfUptoSaid : Prop := fnExactParentsOfUptoRow.holds Tryd.pinned (OpenSpec.upto fnExactParentsOfSpec)

/-- 'laws.FnExactMatchingOf', WHERE WHAT IT READS IS OF BULK AT MOST 1048576: true; the input reads as it did. -/
def fnExactMatchingOfUptoRow : OpenClaim := { program := "ytmcimfblhpflnaadoor", sum := "339ecb845bbd7871b42ca24c2c22b5913b81736f7736f71ce8395c1150675713", func := "loop.example/g01146/laws.FnExactMatchingOf", spec := "fnExactMatchingOf", unfollowed := true, recurses := true, named := ["math/bits.deBruijn32tab", "math/bits.deBruijn64tab"], apart := false, laid := [("math/bits.deBruijn32tab", laid_math_bits_deBruijn32tab), ("math/bits.deBruijn64tab", laid_math_bits_deBruijn64tab)], narrowed := true }
def FnExactMatchingOfUptoSaid : Prop := fnExactMatchingOfUptoRow.holds Tryd.pinned (OpenSpec.upto fnExactMatchingOfSpec)

/-- 'laws.FnExactMatchingSize', WHERE WHAT IT READS IS OF BULK AT MOST 1048576: true; the input reads as it did. -/
def fnExactMatchingSizeUptoRow : OpenClaim := { program := "ytmcimfblhpflnaadoor", sum := "339ecb845bbd7871b42ca24c2c22b5913b81736f7736f71ce8395c1150675713", func := "loop.example/g01146/laws.FnExactMatchingSize", spec := "fnExactMatchingSize", unfollowed := true, recurses := true, named := ["math/bits.deBruijn32tab", "math/bits.deBruijn64tab"], apart := false, laid := [("math/bits.deBruijn32tab", laid_math_bits_deBruijn32tab), ("math/bits.deBruijn64tab", laid_math_bits_deBruijn64tab)], narrowed := true }
def FnExactMatchingSizeUptoSaid : Prop := fnExactMatchingSizeUptoRow.holds Tryd.pinned (OpenSpec.upto fnExactMatchingSizeSpec)

/-- 'laws.FnExactCountByStates', WHERE WHAT IT READS IS OF BULK AT MOST 1048576: true; the input reads as it did. -/
def fnExactCountByStatesUptoRow : OpenClaim := { program := "ytmcimfblhpflnaadoor", sum := "339ecb845bbd7871b42ca24c2c22b5913b81736f7736f71ce8395c1150675713", func := "loop.example/g01146/laws.FnExactCountByStates", spec := "fnExactCountByStates", unfollowed := true, recurses := true, named := ["math/bits.deBruijn32tab", "math/bits.deBruijn64tab"], apart := false, laid := [("math/bits.deBruijn32tab", laid_math_bits_deBruijn32tab), ("math/bits.deBruijn64tab", laid_math_bits_deBruijn64tab)], narrowed := true }
def FnExactCountByStatesUptoSaid : Prop := fnExactCountByStatesUptoRow.holds Tryd.pinned (OpenSpec.upto fnExactCountByStatesSpec)

/-- 'laws.FnExactLeastByStates', WHERE WHAT IT READS IS OF BULK AT MOST 1048576: true; the input reads as it did. -/
def fnExactLeastByStatesUptoRow : OpenClaim := { program := "ytmcimfblhpflnaadoor", sum := "339ecb845bbd7871b42ca24c2c22b5913b81736f7736f71ce8395c1150675713", func := "loop.example/g01146/laws.FnExactLeastByStates", spec := "fnExactLeastByStates", unfollowed := true, recurses := true, named := ["math/bits.deBruijn32tab", "math/bits.deBruijn64tab"], apart := false, laid := [("math/bits.deBruijn32tab", laid_math_bits_deBruijn32tab), ("math/bits.deBruijn64tab", laid_math_bits_deBruijn64tab)], narrowed := true }
def FnExactLeastByStatesUptoSaid : Prop := fnExactLeastByStatesUptoRow.holds Tryd.pinned (OpenSpec.upto fnExactLeastByStatesSpec)

/-- 'laws.FnExactNullityByStates', WHERE WHAT IT READS IS OF BULK AT MOST 1048576: true; the input reads as it did. -/
def fnExactNullityByStatesUptoRow : OpenClaim := { program := "ytmcimfblhpflnaadoor", sum := "339ecb845bbd7871b42ca24c2c22b5913b81736f7736f71ce8395c1150675713", func := "loop.example/g01146/laws.FnExactNullityByStates", spec := "fnExactNullityByStates", unfollowed := true, recurses := true, named := ["math/bits.deBruijn32tab", "math/bits.deBruijn64tab"], apart := false, laid := [("math/bits.deBruijn32tab", laid_math_bits_deBruijn32tab), ("math/bits.deBruijn64tab", laid_math_bits_deBruijn64tab)], narrowed := true }
def FnExactNullityByStatesUptoSaid : Prop := fnExactNullityByStatesUptoRow.holds Tryd.pinned (OpenSpec.upto fnExactNullityByStatesSpec)

/-- 'laws.FnExactCountEvenCuts', WHERE WHAT IT READS IS OF BULK AT MOST 1048576: true; the input reads as it did. -/
def fnExactCountEvenCutsUptoRow : OpenClaim := { program := "ytmcimfblhpflnaadoor", sum := "339ecb845bbd7871b42ca24c2c22b5913b81736f7736f71ce8395c1150675713", func := "loop.example/g01146/laws.FnExactCountEvenCuts", spec := "fnExactCountEvenCuts", inPlace := ["slices.overlaps[int]"], unfollowed := true, recurses := true, named := ["math/bits.deBruijn32tab", "math/bits.deBruijn64tab"], apart := false, laid := [("math/bits.deBruijn32tab", laid_math_bits_deBruijn32tab), ("math/bits.deBruijn64tab", laid_math_bits_deBruijn64tab)], narrowed := true }
def FnExactCountEvenCutsUptoSaid : Prop := fnExactCountEvenCutsUptoRow.holds Tryd.pinned (OpenSpec.upto fnExactCountEvenCutsSpec)

end Rows
end Go.Proofs.YtmcimfblhpflnaaDoor
