/-
  NARROWER THAN 'FOR EVERY INPUT', by the rows' own cells (each row's printed sentence says how): FnExactProductGraph: laid · FnExactApplyMap: laid · FnExactComposeMaps: laid · FnExactMapOfPoly: laid · FnExactMinimalPoly: laid · FnExactPathProduct: laid · FnExactCircleProduct: laid · FnExactTorusNullity: laid.
  DERIVED. THE GIVEN ROWS OF THIS SEAT. 8 by the template 'for every input the law returns true; each argument reads behind the call as it read before'; 0 by the template 'total and deterministic' (their statements: YtdpoceijnbbmgaaDoorTotals.lean).
  GIVEN WITH THE SEED: the statements are not yours to turn. If you find one false, say at which input.
  Laid BY PROGRAM, IN A SANDBOX (cutbox-rows.mjs): the forced cells as the released guide's own fill.sh prints them over the translation 13821666c1e659eb… (all of the seat's roots in one cut). By AI agents, Wed Nov 11 2026. No macro, syntax, notation, axiom, sorry.
-/
import Derived.Test.YtdpoceijnbbmgaaDoorChecked
import GoSem.Claim
import GoSem.ClaimJoined
import GoSem.ClaimMapViews
import Derived.JoinedTies
import Derived.KernelRfl
namespace Go.Proofs.YtdpoceijnbbmgaaDoor
/- THE CELL 'sum', in the pinned program and in every row, IS THE sha256 OF THE DUMP (.gsa) THAT YtdpoceijnbbmgaaDoorProg.lean LOADS. Nothing in Lean hashes anything: it is a label: what it is worth is what the hold of that sum in a sandbox is worth. -/
noncomputable def Tryd.pinned : Pinned := { name := "ytdpoceijnbbmgaadoor", sum := "13821666c1e659eb7717d5dbc5b54625ab8017b5afd7d08eefac3d13caadaca7", checked := Tryd.checked }
namespace Rows
def none {H : Type} : Left H := { results := [], args := [] }

/- WHAT THE LISTED PACKAGE-LEVEL VARIABLES READ AS WHEN THE CALL BEGINS. Each datum BY PROGRAM (the guide's laid-datum.mjs) off the statement by which the dump's own 'gosem.cut.vars' lays the variable. In a bare row this is a premise. The card (YtdpoceijnbbmgaaDoorCards.lean) ties it to the program's text. -/
def laid_math_bits_deBruijn32tab {H : Type} : DataW H := .agg [.lit (.int .u8 0), .lit (.int .u8 1), .lit (.int .u8 28), .lit (.int .u8 2), .lit (.int .u8 29), .lit (.int .u8 14), .lit (.int .u8 24), .lit (.int .u8 3), .lit (.int .u8 30), .lit (.int .u8 22), .lit (.int .u8 20), .lit (.int .u8 15), .lit (.int .u8 25), .lit (.int .u8 17), .lit (.int .u8 4), .lit (.int .u8 8), .lit (.int .u8 31), .lit (.int .u8 27), .lit (.int .u8 13), .lit (.int .u8 23), .lit (.int .u8 21), .lit (.int .u8 19), .lit (.int .u8 16), .lit (.int .u8 7), .lit (.int .u8 26), .lit (.int .u8 12), .lit (.int .u8 18), .lit (.int .u8 6), .lit (.int .u8 11), .lit (.int .u8 5), .lit (.int .u8 10), .lit (.int .u8 9)]
def laid_math_bits_deBruijn64tab {H : Type} : DataW H := .agg [.lit (.int .u8 0), .lit (.int .u8 1), .lit (.int .u8 56), .lit (.int .u8 2), .lit (.int .u8 57), .lit (.int .u8 49), .lit (.int .u8 28), .lit (.int .u8 3), .lit (.int .u8 61), .lit (.int .u8 58), .lit (.int .u8 42), .lit (.int .u8 50), .lit (.int .u8 38), .lit (.int .u8 29), .lit (.int .u8 17), .lit (.int .u8 4), .lit (.int .u8 62), .lit (.int .u8 47), .lit (.int .u8 59), .lit (.int .u8 36), .lit (.int .u8 45), .lit (.int .u8 43), .lit (.int .u8 51), .lit (.int .u8 22), .lit (.int .u8 53), .lit (.int .u8 39), .lit (.int .u8 33), .lit (.int .u8 30), .lit (.int .u8 24), .lit (.int .u8 18), .lit (.int .u8 12), .lit (.int .u8 5), .lit (.int .u8 63), .lit (.int .u8 55), .lit (.int .u8 48), .lit (.int .u8 27), .lit (.int .u8 60), .lit (.int .u8 41), .lit (.int .u8 37), .lit (.int .u8 16), .lit (.int .u8 46), .lit (.int .u8 35), .lit (.int .u8 44), .lit (.int .u8 21), .lit (.int .u8 52), .lit (.int .u8 32), .lit (.int .u8 23), .lit (.int .u8 11), .lit (.int .u8 54), .lit (.int .u8 26), .lit (.int .u8 40), .lit (.int .u8 15), .lit (.int .u8 34), .lit (.int .u8 20), .lit (.int .u8 31), .lit (.int .u8 10), .lit (.int .u8 25), .lit (.int .u8 14), .lit (.int .u8 19), .lit (.int .u8 9), .lit (.int .u8 13), .lit (.int .u8 8), .lit (.int .u8 7), .lit (.int .u8 6)]

/-- 'laws.FnExactProductGraph': WHATEVER THE INPUT: true; the input reads as it did. -/
def fnExactProductGraphSpec : ChangeSpec := { name := "fnExactProductGraph", fn := fun _ => fun
  | [d1, d2] => { results := [.lit (.bool true)], args := [d1, d2] }
  | _ => none }
def fnExactProductGraphRow : OpenClaim := { program := "ytdpoceijnbbmgaadoor", sum := "13821666c1e659eb7717d5dbc5b54625ab8017b5afd7d08eefac3d13caadaca7", func := "loop.example/g01146/laws.FnExactProductGraph", spec := "fnExactProductGraph", unfollowed := true, recurses := true, named := ["math/bits.deBruijn32tab", "math/bits.deBruijn64tab"], apart := false, laid := [("math/bits.deBruijn32tab", laid_math_bits_deBruijn32tab), ("math/bits.deBruijn64tab", laid_math_bits_deBruijn64tab)] }
def FnExactProductGraphSaid : Prop := fnExactProductGraphRow.holds Tryd.pinned (OpenSpec.ofChange fnExactProductGraphSpec)

/-- ITS FALSE NEIGHBOUR: 'it returns false'. Refute it at one input. -/
def fnExactProductGraphWrong : ChangeSpec := { name := "fnExactProductGraph", fn := fun _ => fun
  | [d1, d2] => { results := [.lit (.bool false)], args := [d1, d2] }
  | _ => none }
def FnExactProductGraphWrongFalsely : Prop := fnExactProductGraphRow.holds Tryd.pinned (OpenSpec.ofChange fnExactProductGraphWrong)

/-- 'laws.FnExactApplyMap': WHATEVER THE INPUT: true; the input reads as it did. -/
def fnExactApplyMapSpec : ChangeSpec := { name := "fnExactApplyMap", fn := fun _ => fun
  | [d1, d2] => { results := [.lit (.bool true)], args := [d1, d2] }
  | _ => none }
def fnExactApplyMapRow : OpenClaim := { program := "ytdpoceijnbbmgaadoor", sum := "13821666c1e659eb7717d5dbc5b54625ab8017b5afd7d08eefac3d13caadaca7", func := "loop.example/g01146/laws.FnExactApplyMap", spec := "fnExactApplyMap", unfollowed := true, recurses := true, named := ["math/bits.deBruijn32tab", "math/bits.deBruijn64tab"], apart := false, laid := [("math/bits.deBruijn32tab", laid_math_bits_deBruijn32tab), ("math/bits.deBruijn64tab", laid_math_bits_deBruijn64tab)] }
def FnExactApplyMapSaid : Prop := fnExactApplyMapRow.holds Tryd.pinned (OpenSpec.ofChange fnExactApplyMapSpec)

/-- ITS FALSE NEIGHBOUR: 'it returns false'. Refute it at one input. -/
def fnExactApplyMapWrong : ChangeSpec := { name := "fnExactApplyMap", fn := fun _ => fun
  | [d1, d2] => { results := [.lit (.bool false)], args := [d1, d2] }
  | _ => none }
def FnExactApplyMapWrongFalsely : Prop := fnExactApplyMapRow.holds Tryd.pinned (OpenSpec.ofChange fnExactApplyMapWrong)

/-- 'laws.FnExactComposeMaps': WHATEVER THE INPUT: true; the input reads as it did. -/
def fnExactComposeMapsSpec : ChangeSpec := { name := "fnExactComposeMaps", fn := fun _ => fun
  | [d1, d2] => { results := [.lit (.bool true)], args := [d1, d2] }
  | _ => none }
def fnExactComposeMapsRow : OpenClaim := { program := "ytdpoceijnbbmgaadoor", sum := "13821666c1e659eb7717d5dbc5b54625ab8017b5afd7d08eefac3d13caadaca7", func := "loop.example/g01146/laws.FnExactComposeMaps", spec := "fnExactComposeMaps", unfollowed := true, recurses := true, named := ["math/bits.deBruijn32tab", "math/bits.deBruijn64tab"], apart := false, laid := [("math/bits.deBruijn32tab", laid_math_bits_deBruijn32tab), ("math/bits.deBruijn64tab", laid_math_bits_deBruijn64tab)] }
def FnExactComposeMapsSaid : Prop := fnExactComposeMapsRow.holds Tryd.pinned (OpenSpec.ofChange fnExactComposeMapsSpec)

/-- ITS FALSE NEIGHBOUR: 'it returns false'. Refute it at one input. -/
def fnExactComposeMapsWrong : ChangeSpec := { name := "fnExactComposeMaps", fn := fun _ => fun
  | [d1, d2] => { results := [.lit (.bool false)], args := [d1, d2] }
  | _ => none }
def FnExactComposeMapsWrongFalsely : Prop := fnExactComposeMapsRow.holds Tryd.pinned (OpenSpec.ofChange fnExactComposeMapsWrong)

/-- 'laws.FnExactMapOfPoly': WHATEVER THE INPUT: true; the input reads as it did. -/
def fnExactMapOfPolySpec : ChangeSpec := { name := "fnExactMapOfPoly", fn := fun _ => fun
  | [d1, d2] => { results := [.lit (.bool true)], args := [d1, d2] }
  | _ => none }
def fnExactMapOfPolyRow : OpenClaim := { program := "ytdpoceijnbbmgaadoor", sum := "13821666c1e659eb7717d5dbc5b54625ab8017b5afd7d08eefac3d13caadaca7", func := "loop.example/g01146/laws.FnExactMapOfPoly", spec := "fnExactMapOfPoly", unfollowed := true, recurses := true, named := ["math/bits.deBruijn32tab", "math/bits.deBruijn64tab"], apart := false, laid := [("math/bits.deBruijn32tab", laid_math_bits_deBruijn32tab), ("math/bits.deBruijn64tab", laid_math_bits_deBruijn64tab)] }
def FnExactMapOfPolySaid : Prop := fnExactMapOfPolyRow.holds Tryd.pinned (OpenSpec.ofChange fnExactMapOfPolySpec)

/-- ITS FALSE NEIGHBOUR: 'it returns false'. Refute it at one input. -/
def fnExactMapOfPolyWrong : ChangeSpec := { name := "fnExactMapOfPoly", fn := fun _ => fun
  | [d1, d2] => { results := [.lit (.bool false)], args := [d1, d2] }
  | _ => none }
def FnExactMapOfPolyWrongFalsely : Prop := fnExactMapOfPolyRow.holds Tryd.pinned (OpenSpec.ofChange fnExactMapOfPolyWrong)

/-- 'laws.FnExactMinimalPoly': WHATEVER THE INPUT: true; the input reads as it did. -/
def fnExactMinimalPolySpec : ChangeSpec := { name := "fnExactMinimalPoly", fn := fun _ => fun
  | [d] => { results := [.lit (.bool true)], args := [d] }
  | _ => none }
def fnExactMinimalPolyRow : OpenClaim := { program := "ytdpoceijnbbmgaadoor", sum := "13821666c1e659eb7717d5dbc5b54625ab8017b5afd7d08eefac3d13caadaca7", func := "loop.example/g01146/laws.FnExactMinimalPoly", spec := "fnExactMinimalPoly", inPlace := ["slices.overlaps[int]"], unfollowed := true, recurses := true, named := ["math/bits.deBruijn32tab", "math/bits.deBruijn64tab"], apart := false, laid := [("math/bits.deBruijn32tab", laid_math_bits_deBruijn32tab), ("math/bits.deBruijn64tab", laid_math_bits_deBruijn64tab)] }
def FnExactMinimalPolySaid : Prop := fnExactMinimalPolyRow.holds Tryd.pinned (OpenSpec.ofChange fnExactMinimalPolySpec)

/-- ITS FALSE NEIGHBOUR: 'it returns false'. Refute it at one input. -/
def fnExactMinimalPolyWrong : ChangeSpec := { name := "fnExactMinimalPoly", fn := fun _ => fun
  | [d] => { results := [.lit (.bool false)], args := [d] }
  | _ => none }
def FnExactMinimalPolyWrongFalsely : Prop := fnExactMinimalPolyRow.holds Tryd.pinned (OpenSpec.ofChange fnExactMinimalPolyWrong)

/-- 'laws.FnExactPathProduct': WHATEVER THE INPUT: true; the input reads as it did. -/
def fnExactPathProductSpec : ChangeSpec := { name := "fnExactPathProduct", fn := fun _ => fun
  | [d1, d2] => { results := [.lit (.bool true)], args := [d1, d2] }
  | _ => none }
def fnExactPathProductRow : OpenClaim := { program := "ytdpoceijnbbmgaadoor", sum := "13821666c1e659eb7717d5dbc5b54625ab8017b5afd7d08eefac3d13caadaca7", func := "loop.example/g01146/laws.FnExactPathProduct", spec := "fnExactPathProduct", inPlace := ["slices.overlaps[int]"], unfollowed := true, recurses := true, named := ["math/bits.deBruijn32tab", "math/bits.deBruijn64tab"], apart := false, laid := [("math/bits.deBruijn32tab", laid_math_bits_deBruijn32tab), ("math/bits.deBruijn64tab", laid_math_bits_deBruijn64tab)] }
def FnExactPathProductSaid : Prop := fnExactPathProductRow.holds Tryd.pinned (OpenSpec.ofChange fnExactPathProductSpec)

/-- ITS FALSE NEIGHBOUR: 'it returns false'. Refute it at one input. -/
def fnExactPathProductWrong : ChangeSpec := { name := "fnExactPathProduct", fn := fun _ => fun
  | [d1, d2] => { results := [.lit (.bool false)], args := [d1, d2] }
  | _ => none }
def FnExactPathProductWrongFalsely : Prop := fnExactPathProductRow.holds Tryd.pinned (OpenSpec.ofChange fnExactPathProductWrong)

/-- 'laws.FnExactCircleProduct': WHATEVER THE INPUT: true; the input reads as it did. -/
def fnExactCircleProductSpec : ChangeSpec := { name := "fnExactCircleProduct", fn := fun _ => fun
  | [d1, d2] => { results := [.lit (.bool true)], args := [d1, d2] }
  | _ => none }
def fnExactCircleProductRow : OpenClaim := { program := "ytdpoceijnbbmgaadoor", sum := "13821666c1e659eb7717d5dbc5b54625ab8017b5afd7d08eefac3d13caadaca7", func := "loop.example/g01146/laws.FnExactCircleProduct", spec := "fnExactCircleProduct", inPlace := ["slices.overlaps[int]"], unfollowed := true, recurses := true, named := ["math/bits.deBruijn32tab", "math/bits.deBruijn64tab"], apart := false, laid := [("math/bits.deBruijn32tab", laid_math_bits_deBruijn32tab), ("math/bits.deBruijn64tab", laid_math_bits_deBruijn64tab)] }
def FnExactCircleProductSaid : Prop := fnExactCircleProductRow.holds Tryd.pinned (OpenSpec.ofChange fnExactCircleProductSpec)

/-- ITS FALSE NEIGHBOUR: 'it returns false'. Refute it at one input. -/
def fnExactCircleProductWrong : ChangeSpec := { name := "fnExactCircleProduct", fn := fun _ => fun
  | [d1, d2] => { results := [.lit (.bool false)], args := [d1, d2] }
  | _ => none }
def FnExactCircleProductWrongFalsely : Prop := fnExactCircleProductRow.holds Tryd.pinned (OpenSpec.ofChange fnExactCircleProductWrong)

/-- 'laws.FnExactTorusNullity': WHATEVER THE INPUT: true; the input reads as it did. -/
def fnExactTorusNullitySpec : ChangeSpec := { name := "fnExactTorusNullity", fn := fun _ => fun
  | [d1, d2, d3] => { results := [.lit (.bool true)], args := [d1, d2, d3] }
  | _ => none }
def fnExactTorusNullityRow : OpenClaim := { program := "ytdpoceijnbbmgaadoor", sum := "13821666c1e659eb7717d5dbc5b54625ab8017b5afd7d08eefac3d13caadaca7", func := "loop.example/g01146/laws.FnExactTorusNullity", spec := "fnExactTorusNullity", inPlace := ["slices.overlaps[int]"], unfollowed := true, recurses := true, named := ["math/bits.deBruijn32tab", "math/bits.deBruijn64tab"], apart := false, laid := [("math/bits.deBruijn32tab", laid_math_bits_deBruijn32tab), ("math/bits.deBruijn64tab", laid_math_bits_deBruijn64tab)] }
def FnExactTorusNullitySaid : Prop := fnExactTorusNullityRow.holds Tryd.pinned (OpenSpec.ofChange fnExactTorusNullitySpec)

/-- ITS FALSE NEIGHBOUR: 'it returns false'. Refute it at one input. -/
def fnExactTorusNullityWrong : ChangeSpec := { name := "fnExactTorusNullity", fn := fun _ => fun
  | [d1, d2, d3] => { results := [.lit (.bool false)], args := [d1, d2, d3] }
  | _ => none }
def FnExactTorusNullityWrongFalsely : Prop := fnExactTorusNullityRow.holds Tryd.pinned (OpenSpec.ofChange fnExactTorusNullityWrong)

/- THE SECOND FORM. 'bulk': how many values and letters a reading holds, each counted each time it is reached (what is shared counts as often as it is met; a slice's spare places count too). A statement '..UptoSaid' is the law's where the arguments, and the package variables that the reading takes, are together of bulk at most 1048576: NARROWER than '..Said'. Prove '..Said' where nothing that the law and all that it calls make is longer than what came in: it says more and counts as full. Else prove '..UptoSaid'. A law counts once. -/
mutual
def uptoBulk {H : Type} : DataW H → Nat
  | .lit (.string bytes) => bytes.length + 1
  | .lit _ => 1
  | .nil => 1
  | .ptr d => uptoBulk d + 1
  | .slice elems spare => uptoBulkAll elems + uptoBulkAll spare + 1
  | .agg parts => uptoBulkAll parts + 1
  | .iface _ d => uptoBulk d + 1
  | .map entries => uptoBulkEntries entries + 1
  | .held _ => 1
def uptoBulkAll {H : Type} : List (DataW H) → Nat
  | [] => 0
  | d :: r => uptoBulk d + uptoBulkAll r
def uptoBulkEntries {H : Type} : List (Lit × DataW H) → Nat
  | [] => 0
  | x :: r => uptoBulkEntry x + uptoBulkEntries r
def uptoBulkEntry {H : Type} : Lit × DataW H → Nat
  | (.string bytes, d) => bytes.length + uptoBulk d + 1
  | (_, d) => uptoBulk d + 1
 end
def uptoSmall : (H : Type) → List (DataW H) → Bool := fun _ ds => decide (uptoBulkAll ds ≤ 1048576)
def OpenSpec.upto (s : _root_.Go.ChangeSpec) : _root_.Go.OpenSpec := { _root_.Go.OpenSpec.ofChange s with cond := some uptoSmall }

/-- 'laws.FnExactProductGraph', WHERE WHAT IT READS IS OF BULK AT MOST 1048576: true; the input reads as it did. -/
def fnExactProductGraphUptoRow : OpenClaim := { program := "ytdpoceijnbbmgaadoor", sum := "13821666c1e659eb7717d5dbc5b54625ab8017b5afd7d08eefac3d13caadaca7", func := "loop.example/g01146/laws.FnExactProductGraph", spec := "fnExactProductGraph", unfollowed := true, recurses := true, named := ["math/bits.deBruijn32tab", "math/bits.deBruijn64tab"], apart := false, laid := [("math/bits.deBruijn32tab", laid_math_bits_deBruijn32tab), ("math/bits.deBruijn64tab", laid_math_bits_deBruijn64tab)], narrowed := true }
def FnExactProductGraphUptoSaid : Prop := fnExactProductGraphUptoRow.holds Tryd.pinned (OpenSpec.upto fnExactProductGraphSpec)

/-- 'laws.FnExactApplyMap', WHERE WHAT IT READS IS OF BULK AT MOST 1048576: true; the input reads as it did. -/
def fnExactApplyMapUptoRow : OpenClaim := { program := "ytdpoceijnbbmgaadoor", sum := "13821666c1e659eb7717d5dbc5b54625ab8017b5afd7d08eefac3d13caadaca7", func := "loop.example/g01146/laws.FnExactApplyMap", spec := "fnExactApplyMap", unfollowed := true, recurses := true, named := ["math/bits.deBruijn32tab", "math/bits.deBruijn64tab"], apart := false, laid := [("math/bits.deBruijn32tab", laid_math_bits_deBruijn32tab), ("math/bits.deBruijn64tab", laid_math_bits_deBruijn64tab)], narrowed := true }
def FnExactApplyMapUptoSaid : Prop := fnExactApplyMapUptoRow.holds Tryd.pinned (OpenSpec.upto fnExactApplyMapSpec)

/-- 'laws.FnExactComposeMaps', WHERE WHAT IT READS IS OF BULK AT MOST 1048576: true; the input reads as it did. -/
def fnExactComposeMapsUptoRow : OpenClaim := { program := "ytdpoceijnbbmgaadoor", sum := "13821666c1e659eb7717d5dbc5b54625ab8017b5afd7d08eefac3d13caadaca7", func := "loop.example/g01146/laws.FnExactComposeMaps", spec := "fnExactComposeMaps", unfollowed := true, recurses := true, named := ["math/bits.deBruijn32tab", "math/bits.deBruijn64tab"], apart := false, laid := [("math/bits.deBruijn32tab", laid_math_bits_deBruijn32tab), ("math/bits.deBruijn64tab", laid_math_bits_deBruijn64tab)], narrowed := true }
def FnExactComposeMapsUptoSaid : Prop := fnExactComposeMapsUptoRow.holds Tryd.pinned (OpenSpec.upto fnExactComposeMapsSpec)

/-- 'laws.FnExactMapOfPoly', WHERE WHAT IT READS IS OF BULK AT MOST 1048576: true; the input reads as it did. -/
def fnExactMapOfPolyUptoRow : OpenClaim := { program := "ytdpoceijnbbmgaadoor", sum := "13821666c1e659eb7717d5dbc5b54625ab8017b5afd7d08eefac3d13caadaca7", func := "loop.example/g01146/laws.FnExactMapOfPoly", spec := "fnExactMapOfPoly", unfollowed := true, recurses := true, named := ["math/bits.deBruijn32tab", "math/bits.deBruijn64tab"], apart := false, laid := [("math/bits.deBruijn32tab", laid_math_bits_deBruijn32tab), ("math/bits.deBruijn64tab", laid_math_bits_deBruijn64tab)], narrowed := true }
def FnExactMapOfPolyUptoSaid : Prop := fnExactMapOfPolyUptoRow.holds Tryd.pinned (OpenSpec.upto fnExactMapOfPolySpec)

/-- 'laws.FnExactMinimalPoly', WHERE WHAT IT READS IS OF BULK AT MOST 1048576: true; the input reads as it did. -/
def fnExactMinimalPolyUptoRow : OpenClaim := { program := "ytdpoceijnbbmgaadoor", sum := "13821666c1e659eb7717d5dbc5b54625ab8017b5afd7d08eefac3d13caadaca7", func := "loop.example/g01146/laws.FnExactMinimalPoly", spec := "fnExactMinimalPoly", inPlace := ["slices.overlaps[int]"], unfollowed := true, recurses := true, named := ["math/bits.deBruijn32tab", "math/bits.deBruijn64tab"], apart := false, laid := [("math/bits.deBruijn32tab", laid_math_bits_deBruijn32tab), ("math/bits.deBruijn64tab", laid_math_bits_deBruijn64tab)], narrowed := true }
def FnExactMinimalPolyUptoSaid : Prop := fnExactMinimalPolyUptoRow.holds Tryd.pinned (OpenSpec.upto fnExactMinimalPolySpec)

/-- 'laws.FnExactPathProduct', WHERE WHAT IT READS IS OF BULK AT MOST 1048576: true; the input reads as it did. -/
def fnExactPathProductUptoRow : OpenClaim := { program := "ytdpoceijnbbmgaadoor", sum := "13821666c1e659eb7717d5dbc5b54625ab8017b5afd7d08eefac3d13caadaca7", func := "loop.example/g01146/laws.FnExactPathProduct", spec := "fnExactPathProduct", inPlace := ["slices.overlaps[int]"], unfollowed := true, recurses := true, named := ["math/bits.deBruijn32tab", "math/bits.deBruijn64tab"], apart := false, laid := [("math/bits.deBruijn32tab", laid_math_bits_deBruijn32tab), ("math/bits.deBruijn64tab", laid_math_bits_deBruijn64tab)], narrowed := true }
def FnExactPathProductUptoSaid : Prop := fnExactPathProductUptoRow.holds Tryd.pinned (OpenSpec.upto fnExactPathProductSpec)

/-- 'laws.FnExactCircleProduct', WHERE WHAT IT READS IS OF BULK AT MOST 1048576: true; the input reads as it did. -/
def fnExactCircleProductUptoRow : OpenClaim := { program := "ytdpoceijnbbmgaadoor", sum := "13821666c1e659eb7717d5dbc5b54625ab8017b5afd7d08eefac3d13caadaca7", func := "loop.example/g01146/laws.FnExactCircleProduct", spec := "fnExactCircleProduct", inPlace := ["slices.overlaps[int]"], unfollowed := true, recurses := true, named := ["math/bits.deBruijn32tab", "math/bits.deBruijn64tab"], apart := false, laid := [("math/bits.deBruijn32tab", laid_math_bits_deBruijn32tab), ("math/bits.deBruijn64tab", laid_math_bits_deBruijn64tab)], narrowed := true }
def FnExactCircleProductUptoSaid : Prop := fnExactCircleProductUptoRow.holds Tryd.pinned (OpenSpec.upto fnExactCircleProductSpec)

/-- 'laws.FnExactTorusNullity', WHERE WHAT IT READS IS OF BULK AT MOST 1048576: true; the input reads as it did. -/
def fnExactTorusNullityUptoRow : OpenClaim := { program := "ytdpoceijnbbmgaadoor", sum := "13821666c1e659eb7717d5dbc5b54625ab8017b5afd7d08eefac3d13caadaca7", func := "loop.example/g01146/laws.FnExactTorusNullity", spec := "fnExactTorusNullity", inPlace := ["slices.overlaps[int]"], unfollowed := true, recurses := true, named := ["math/bits.deBruijn32tab", "math/bits.deBruijn64tab"], apart := false, laid := [("math/bits.deBruijn32tab", laid_math_bits_deBruijn32tab), ("math/bits.deBruijn64tab", laid_math_bits_deBruijn64tab)], narrowed := true }
def FnExactTorusNullityUptoSaid : Prop := fnExactTorusNullityUptoRow.holds Tryd.pinned (OpenSpec.upto fnExactTorusNullitySpec)

end Rows
end Go.Proofs.YtdpoceijnbbmgaaDoor
