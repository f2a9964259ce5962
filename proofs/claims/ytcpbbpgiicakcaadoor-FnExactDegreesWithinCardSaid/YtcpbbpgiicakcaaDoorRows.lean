/-
  NARROWER THAN 'FOR EVERY INPUT', by the rows' own cells (each row's printed sentence says how): FnExactIsEvenSet: laid · FnExactIsOddSet: laid · FnExactDegreesWithin: laid · FnExactPartsOf: laid · FnExactCountEvenCuts: laid · FnExactCountEvenEdges: laid.
  DERIVED. THE GIVEN ROWS OF THIS SEAT. 6 by the template 'for every input the law returns true; each argument reads behind the call as it read before'; 0 by the template 'total and deterministic' (their statements: YtcpbbpgiicakcaaDoorTotals.lean).
  GIVEN WITH THE SEED: the statements are not yours to turn. If you find one false, say at which input.
  Laid BY PROGRAM, IN A SANDBOX (cutbox-rows.mjs): the forced cells as the released guide's own fill.sh prints them over the translation af0f071c1087fc6c… (all of the seat's roots in one cut). By AI agents, Wed Nov 11 2026. No macro, syntax, notation, axiom, sorry.
-/
import Derived.Test.YtcpbbpgiicakcaaDoorChecked
import GoSem.Claim
import GoSem.ClaimJoined
import GoSem.ClaimMapViews
import Derived.JoinedTies
import Derived.KernelRfl
namespace Go.Proofs.YtcpbbpgiicakcaaDoor
/- THE CELL 'sum', in the pinned program and in every row, IS THE sha256 OF THE DUMP (.gsa) THAT YtcpbbpgiicakcaaDoorProg.lean LOADS. Nothing in Lean hashes anything: it is a label: what it is worth is what the hold of that sum in a sandbox is worth. -/
noncomputable def Tryd.pinned : Pinned := { name := "ytcpbbpgiicakcaadoor", sum := "af0f071c1087fc6c211cf9414dcd7a6c83330449e117e9511fa5c32715629630", checked := Tryd.checked }
namespace Rows
def none {H : Type} : Left H := { results := [], args := [] }

/- WHAT THE LISTED PACKAGE-LEVEL VARIABLES READ AS WHEN THE CALL BEGINS. Each datum BY PROGRAM (the guide's laid-datum.mjs) off the statement by which the dump's own 'gosem.cut.vars' lays the variable. In a bare row this is a premise. The card (YtcpbbpgiicakcaaDoorCards.lean) ties it to the program's text. -/
def laid_math_bits_deBruijn32tab {H : Type} : DataW H := .agg [.lit (.int .u8 0), .lit (.int .u8 1), .lit (.int .u8 28), .lit (.int .u8 2), .lit (.int .u8 29), .lit (.int .u8 14), .lit (.int .u8 24), .lit (.int .u8 3), .lit (.int .u8 30), .lit (.int .u8 22), .lit (.int .u8 20), .lit (.int .u8 15), .lit (.int .u8 25), .lit (.int .u8 17), .lit (.int .u8 4), .lit (.int .u8 8), .lit (.int .u8 31), .lit (.int .u8 27), .lit (.int .u8 13), .lit (.int .u8 23), .lit (.int .u8 21), .lit (.int .u8 19), .lit (.int .u8 16), .lit (.int .u8 7), .lit (.int .u8 26), .lit (.int .u8 12), .lit (.int .u8 18), .lit (.int .u8 6), .lit (.int .u8 11), .lit (.int .u8 5), .lit (.int .u8 10), .lit (.int .u8 9)]
def laid_math_bits_deBruijn64tab {H : Type} : DataW H := .agg [.lit (.int .u8 0), .lit (.int .u8 1), .lit (.int .u8 56), .lit (.int .u8 2), .lit (.int .u8 57), .lit (.int .u8 49), .lit (.int .u8 28), .lit (.int .u8 3), .lit (.int .u8 61), .lit (.int .u8 58), .lit (.int .u8 42), .lit (.int .u8 50), .lit (.int .u8 38), .lit (.int .u8 29), .lit (.int .u8 17), .lit (.int .u8 4), .lit (.int .u8 62), .lit (.int .u8 47), .lit (.int .u8 59), .lit (.int .u8 36), .lit (.int .u8 45), .lit (.int .u8 43), .lit (.int .u8 51), .lit (.int .u8 22), .lit (.int .u8 53), .lit (.int .u8 39), .lit (.int .u8 33), .lit (.int .u8 30), .lit (.int .u8 24), .lit (.int .u8 18), .lit (.int .u8 12), .lit (.int .u8 5), .lit (.int .u8 63), .lit (.int .u8 55), .lit (.int .u8 48), .lit (.int .u8 27), .lit (.int .u8 60), .lit (.int .u8 41), .lit (.int .u8 37), .lit (.int .u8 16), .lit (.int .u8 46), .lit (.int .u8 35), .lit (.int .u8 44), .lit (.int .u8 21), .lit (.int .u8 52), .lit (.int .u8 32), .lit (.int .u8 23), .lit (.int .u8 11), .lit (.int .u8 54), .lit (.int .u8 26), .lit (.int .u8 40), .lit (.int .u8 15), .lit (.int .u8 34), .lit (.int .u8 20), .lit (.int .u8 31), .lit (.int .u8 10), .lit (.int .u8 25), .lit (.int .u8 14), .lit (.int .u8 19), .lit (.int .u8 9), .lit (.int .u8 13), .lit (.int .u8 8), .lit (.int .u8 7), .lit (.int .u8 6)]

/-- 'laws.FnExactIsEvenSet': WHATEVER THE INPUT: true; the input reads as it did. -/
def fnExactIsEvenSetSpec : ChangeSpec := { name := "fnExactIsEvenSet", fn := fun _ => fun
  | [d1, d2] => { results := [.lit (.bool true)], args := [d1, d2] }
  | _ => none }
def fnExactIsEvenSetRow : OpenClaim := { program := "ytcpbbpgiicakcaadoor", sum := "af0f071c1087fc6c211cf9414dcd7a6c83330449e117e9511fa5c32715629630", func := "loop.example/g01146/laws.FnExactIsEvenSet", spec := "fnExactIsEvenSet", unfollowed := true, recurses := true, named := ["math/bits.deBruijn32tab", "math/bits.deBruijn64tab"], apart := false, laid := [("math/bits.deBruijn32tab", laid_math_bits_deBruijn32tab), ("math/bits.deBruijn64tab", laid_math_bits_deBruijn64tab)] }
def FnExactIsEvenSetSaid : Prop := fnExactIsEvenSetRow.holds Tryd.pinned (OpenSpec.ofChange fnExactIsEvenSetSpec)

/-- ITS FALSE NEIGHBOUR: 'it returns false'. Refute it at one input. -/
def fnExactIsEvenSetWrong : ChangeSpec := { name := "fnExactIsEvenSet", fn := fun _ => fun
  | [d1, d2] => { results := [.lit (.bool false)], args := [d1, d2] }
  | _ => none }
def FnExactIsEvenSetWrongFalsely : Prop := fnExactIsEvenSetRow.holds Tryd.pinned (OpenSpec.ofChange fnExactIsEvenSetWrong)

/-- 'laws.FnExactIsOddSet': WHATEVER THE INPUT: true; the input reads as it did. -/
def fnExactIsOddSetSpec : ChangeSpec := { name := "fnExactIsOddSet", fn := fun _ => fun
  | [d1, d2] => { results := [.lit (.bool true)], args := [d1, d2] }
  | _ => none }
def fnExactIsOddSetRow : OpenClaim := { program := "ytcpbbpgiicakcaadoor", sum := "af0f071c1087fc6c211cf9414dcd7a6c83330449e117e9511fa5c32715629630", func := "loop.example/g01146/laws.FnExactIsOddSet", spec := "fnExactIsOddSet", unfollowed := true, recurses := true, named := ["math/bits.deBruijn32tab", "math/bits.deBruijn64tab"], apart := false, laid := [("math/bits.deBruijn32tab", laid_math_bits_deBruijn32tab), ("math/bits.deBruijn64tab", laid_math_bits_deBruijn64tab)] }
def FnExactIsOddSetSaid : Prop := fnExactIsOddSetRow.holds Tryd.pinned (OpenSpec.ofChange fnExactIsOddSetSpec)

/-- ITS FALSE NEIGHBOUR: 'it returns false'. Refute it at one input. -/
def fnExactIsOddSetWrong : ChangeSpec := { name := "fnExactIsOddSet", fn := fun _ => fun
  | [d1, d2] => { results := [.lit (.bool false)], args := [d1, d2] }
  | _ => none }
def FnExactIsOddSetWrongFalsely : Prop := fnExactIsOddSetRow.holds Tryd.pinned (OpenSpec.ofChange fnExactIsOddSetWrong)

/-- 'laws.FnExactDegreesWithin': WHATEVER THE INPUT: true; the input reads as it did. -/
def fnExactDegreesWithinSpec : ChangeSpec := { name := "fnExactDegreesWithin", fn := fun _ => fun
  | [d1, d2] => { results := [.lit (.bool true)], args := [d1, d2] }
  | _ => none }
def fnExactDegreesWithinRow : OpenClaim := { program := "ytcpbbpgiicakcaadoor", sum := "af0f071c1087fc6c211cf9414dcd7a6c83330449e117e9511fa5c32715629630", func := "loop.example/g01146/laws.FnExactDegreesWithin", spec := "fnExactDegreesWithin", unfollowed := true, recurses := true, named := ["math/bits.deBruijn32tab", "math/bits.deBruijn64tab"], apart := false, laid := [("math/bits.deBruijn32tab", laid_math_bits_deBruijn32tab), ("math/bits.deBruijn64tab", laid_math_bits_deBruijn64tab)] }
def FnExactDegreesWithinSaid : Prop := fnExactDegreesWithinRow.holds Tryd.pinned (OpenSpec.ofChange fnExactDegreesWithinSpec)

/-- ITS FALSE NEIGHBOUR: 'it returns false'. Refute it at one input. -/
def fnExactDegreesWithinWrong : ChangeSpec := { name := "fnExactDegreesWithin", fn := fun _ => fun
  | [d1, d2] => { results := [.lit (.bool false)], args := [d1, d2] }
  | _ => none }
def FnExactDegreesWithinWrongFalsely : Prop := fnExactDegreesWithinRow.holds Tryd.pinned (OpenSpec.ofChange fnExactDegreesWithinWrong)

/-- 'laws.FnExactPartsOf': WHATEVER THE INPUT: true; the input reads as it did. -/
def fnExactPartsOfSpec : ChangeSpec := { name := "fnExactPartsOf", fn := fun _ => fun
  | [d] => { results := [.lit (.bool true)], args := [d] }
  | _ => none }
def fnExactPartsOfRow : OpenClaim := { program := "ytcpbbpgiicakcaadoor", sum := "af0f071c1087fc6c211cf9414dcd7a6c83330449e117e9511fa5c32715629630", func := "loop.example/g01146/laws.FnExactPartsOf", spec := "fnExactPartsOf", named := ["math/bits.deBruijn32tab", "math/bits.deBruijn64tab"], apart := false, laid := [("math/bits.deBruijn32tab", laid_math_bits_deBruijn32tab), ("math/bits.deBruijn64tab", laid_math_bits_deBruijn64tab)] }
def FnExactPartsOfSaid : Prop := fnExactPartsOfRow.holds Tryd.pinned (OpenSpec.ofChange fnExactPartsOfSpec)

/-- ITS FALSE NEIGHBOUR: 'it returns false'. Refute it at one input. -/
def fnExactPartsOfWrong : ChangeSpec := { name := "fnExactPartsOf", fn := fun _ => fun
  | [d] => { results := [.lit (.bool false)], args := [d] }
  | _ => none }
def FnExactPartsOfWrongFalsely : Prop := fnExactPartsOfRow.holds Tryd.pinned (OpenSpec.ofChange fnExactPartsOfWrong)

/-- 'laws.FnExactCountEvenCuts': WHATEVER THE INPUT: true; the input reads as it did. -/
def fnExactCountEvenCutsSpec : ChangeSpec := { name := "fnExactCountEvenCuts", fn := fun _ => fun
  | [d] => { results := [.lit (.bool true)], args := [d] }
  | _ => none }
def fnExactCountEvenCutsRow : OpenClaim := { program := "ytcpbbpgiicakcaadoor", sum := "af0f071c1087fc6c211cf9414dcd7a6c83330449e117e9511fa5c32715629630", func := "loop.example/g01146/laws.FnExactCountEvenCuts", spec := "fnExactCountEvenCuts", inPlace := ["slices.overlaps[int]"], unfollowed := true, recurses := true, named := ["math/bits.deBruijn32tab", "math/bits.deBruijn64tab"], apart := false, laid := [("math/bits.deBruijn32tab", laid_math_bits_deBruijn32tab), ("math/bits.deBruijn64tab", laid_math_bits_deBruijn64tab)] }
def FnExactCountEvenCutsSaid : Prop := fnExactCountEvenCutsRow.holds Tryd.pinned (OpenSpec.ofChange fnExactCountEvenCutsSpec)

/-- ITS FALSE NEIGHBOUR: 'it returns false'. Refute it at one input. -/
def fnExactCountEvenCutsWrong : ChangeSpec := { name := "fnExactCountEvenCuts", fn := fun _ => fun
  | [d] => { results := [.lit (.bool false)], args := [d] }
  | _ => none }
def FnExactCountEvenCutsWrongFalsely : Prop := fnExactCountEvenCutsRow.holds Tryd.pinned (OpenSpec.ofChange fnExactCountEvenCutsWrong)

/-- 'laws.FnExactCountEvenEdges': WHATEVER THE INPUT: true; the input reads as it did. -/
def fnExactCountEvenEdgesSpec : ChangeSpec := { name := "fnExactCountEvenEdges", fn := fun _ => fun
  | [d] => { results := [.lit (.bool true)], args := [d] }
  | _ => none }
def fnExactCountEvenEdgesRow : OpenClaim := { program := "ytcpbbpgiicakcaadoor", sum := "af0f071c1087fc6c211cf9414dcd7a6c83330449e117e9511fa5c32715629630", func := "loop.example/g01146/laws.FnExactCountEvenEdges", spec := "fnExactCountEvenEdges", named := ["math/bits.deBruijn32tab", "math/bits.deBruijn64tab"], apart := false, laid := [("math/bits.deBruijn32tab", laid_math_bits_deBruijn32tab), ("math/bits.deBruijn64tab", laid_math_bits_deBruijn64tab)] }
def FnExactCountEvenEdgesSaid : Prop := fnExactCountEvenEdgesRow.holds Tryd.pinned (OpenSpec.ofChange fnExactCountEvenEdgesSpec)

/-- ITS FALSE NEIGHBOUR: 'it returns false'. Refute it at one input. -/
def fnExactCountEvenEdgesWrong : ChangeSpec := { name := "fnExactCountEvenEdges", fn := fun _ => fun
  | [d] => { results := [.lit (.bool false)], args := [d] }
  | _ => none }
def FnExactCountEvenEdgesWrongFalsely : Prop := fnExactCountEvenEdgesRow.holds Tryd.pinned (OpenSpec.ofChange fnExactCountEvenEdgesWrong)

/- THE SECOND FORM. 'bulk': how many values and letters a reading holds, each counted each time it is reached (what is shared counts as often as it is met; a slice's spare places count too). A statement '..UptoSaid' is the law's where the arguments, and the package variables that the reading takes, are together of bulk at most 1048576: NARROWER than '..Said'. Prove '..Said' where nothing that the law and all that it calls make is longer than what came in: it says more and counts as full. Else prove '..UptoSaid'. A law counts once. -/
mutual
def uptoBulk {H : Type} : DataW H → Nat
  | .lit (.string bytes) => bytes.length + 1
  | .lit _ => 1
  | .nil => 1
  | .ptr d => uptoBulk d + 1
  | .slice elems spare => uptoBulkAll elems + uptoBulkAll spare + 1
  | .agg parts => uptoBulkAll parts + 1
  | .iface _ d => uptoBulk d + 1
  | .map entries => uptoBulkEntries entries + 1
  | .held _ => 1
def uptoBulkAll {H : Type} : List (DataW H) → Nat
  | [] => 0
  | d :: r => uptoBulk d + uptoBulkAll r
def uptoBulkEntries {H : Type} : List (Lit × DataW H) → Nat
  | [] => 0
  | x :: r => uptoBulkEntry x + uptoBulkEntries r
def uptoBulkEntry {H : Type} : Lit × DataW H → Nat
  | (.string bytes, d) => bytes.length + uptoBulk d + 1
  | (_, d) => uptoBulk d + 1
 end
def uptoSmall : (H : Type) → List (DataW H) → Bool := fun _ ds => decide (uptoBulkAll ds ≤ 1048576)
def OpenSpec.upto (s : _root_.Go.ChangeSpec) : _root_.Go.OpenSpec := { _root_.Go.OpenSpec.ofChange s with cond := some uptoSmall }

/-- 'laws.FnExactIsEvenSet', WHERE WHAT IT READS IS OF BULK AT MOST 1048576: true; the input reads as it did. -/
def fnExactIsEvenSetUptoRow : OpenClaim := { program := "ytcpbbpgiicakcaadoor", sum := "af0f071c1087fc6c211cf9414dcd7a6c83330449e117e9511fa5c32715629630", func := "loop.example/g01146/laws.FnExactIsEvenSet", spec := "fnExactIsEvenSet", unfollowed := true, recurses := true, named := ["math/bits.deBruijn32tab", "math/bits.deBruijn64tab"], apart := false, laid := [("math/bits.deBruijn32tab", laid_math_bits_deBruijn32tab), ("math/bits.deBruijn64tab", laid_math_bits_deBruijn64tab)], narrowed := true }
def FnExactIsEvenSetUptoSaid : Prop := fnExactIsEvenSetUptoRow.holds Tryd.pinned (OpenSpec.upto fnExactIsEvenSetSpec)

/-- 'laws.FnExactIsOddSet', WHERE WHAT IT READS IS OF BULK AT MOST 1048576: true; the input reads as it did. -/
def fnExactIsOddSetUptoRow : OpenClaim := { program := "ytcpbbpgiicakcaadoor", sum := "af0f071c1087fc6c211cf9414dcd7a6c83330449e117e9511fa5c32715629630", func := "loop.example/g01146/laws.FnExactIsOddSet", spec := "fnExactIsOddSet", unfollowed := true, recurses := true, named := ["math/bits.deBruijn32tab", "math/bits.deBruijn64tab"], apart := false, laid := [("math/bits.deBruijn32tab", laid_math_bits_deBruijn32tab), ("math/bits.deBruijn64tab", laid_math_bits_deBruijn64tab)], narrowed := true }
def FnExactIsOddSetUptoSaid : Prop := fnExactIsOddSetUptoRow.holds Tryd.pinned (OpenSpec.upto fnExactIsOddSetSpec)

/-- 'laws.FnExactDegreesWithin', WHERE WHAT IT READS IS OF BULK AT MOST 1048576: true; the input reads as it did. -/
def fnExactDegreesWithinUptoRow : OpenClaim := { program := "ytcpbbpgiicakcaadoor", sum := "af0f071c1087fc6c211cf9414dcd7a6c83330449e117e9511fa5c32715629630", func := "loop.example/g01146/laws.FnExactDegreesWithin", spec := "fnExactDegreesWithin", unfollowed := true, recurses := true, named := ["math/bits.deBruijn32tab", "math/bits.deBruijn64tab"], apart := false, laid := [("math/bits.deBruijn32tab", laid_math_bits_deBruijn32tab), ("math/bits.deBruijn64tab", laid_math_bits_deBruijn64tab)], narrowed := true }
def FnExactDegreesWithinUptoSaid : Prop := fnExactDegreesWithinUptoRow.holds Tryd.pinned (OpenSpec.upto fnExactDegreesWithinSpec)

/-- 'laws.FnExactPartsOf', WHERE WHAT IT READS IS OF BULK AT MOST 1048576: true; the input reads as it did. -/
def fnExactPartsOfUptoRow : OpenClaim := { program := "ytcpbbpgiicakcaadoor", sum := "af0f071c1087fc6c211cf9414dcd7a6c83330449e117e9511fa5c32715629630", func := "loop.example/g01146/laws.FnExactPartsOf", spec := "fnExactPartsOf", named := ["math/bits.deBruijn32tab", "math/bits.deBruijn64tab"], apart := false, laid := [("math/bits.deBruijn32tab", laid_math_bits_deBruijn32tab), ("math/bits.deBruijn64tab", laid_math_bits_deBruijn64tab)], narrowed := true }
def FnExactPartsOfUptoSaid : Prop := fnExactPartsOfUptoRow.holds Tryd.pinned (OpenSpec.upto fnExactPartsOfSpec)

/-- 'laws.FnExactCountEvenCuts', WHERE WHAT IT READS IS OF BULK AT MOST 1048576: true; the input reads as it did. -/
def fnExactCountEvenCutsUptoRow : OpenClaim := { program := "ytcpbbpgiicakcaadoor", sum := "af0f071c1087fc6c211cf9414dcd7a6c83330449e117e9511fa5c32715629630", func := "loop.example/g01146/laws.FnExactCountEvenCuts", spec := "fnExactCountEvenCuts", inPlace := ["slices.overlaps[int]"], unfollowed := true, recurses := true, named := ["math/bits.deBruijn32tab", "math/bits.deBruijn64tab"], apart := false, laid := [("math/bits.deBruijn32tab", laid_math_bits_deBruijn32tab), ("math/bits.deBruijn64tab", laid_math_bits_deBruijn64tab)], narrowed := true }
def FnExactCountEvenCutsUptoSaid : Prop := fnExactCountEvenCutsUptoRow.holds Tryd.pinned (OpenSpec.upto fnExactCountEvenCutsSpec)

/-- 'laws.FnExactCountEvenEdges', WHERE WHAT IT READS IS OF BULK AT MOST 1048576: true; the input reads as it did. -/
def fnExactCountEvenEdgesUptoRow : OpenClaim := { program := "ytcpbbpgiicakcaadoor", sum := "af0f071c1087fc6c211cf9414dcd7a6c83330449e117e9511fa5c32715629630", func := "loop.example/g01146/laws.FnExactCountEvenEdges", spec := "fnExactCountEvenEdges", named := ["math/bits.deBruijn32tab", "math/bits.deBruijn64tab"], apart := false, laid := [("math/bits.deBruijn32tab", laid_math_bits_deBruijn32tab), ("math/bits.deBruijn64tab", laid_math_bits_deBruijn64tab)], narrowed := true }
def FnExactCountEvenEdgesUptoSaid : Prop := fnExactCountEvenEdgesUptoRow.holds Tryd.pinned (OpenSpec.upto fnExactCountEvenEdgesSpec)

end Rows
end Go.Proofs.YtcpbbpgiicakcaaDoor
