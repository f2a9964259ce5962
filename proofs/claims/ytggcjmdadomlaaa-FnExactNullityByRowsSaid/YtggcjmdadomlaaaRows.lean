/-
  No cell of these rows narrows 'for every input' (looked for: loops, veiled, ifaces, maps, wideKeys, modest, calm, conditions, laid).
  DERIVED. THE GIVEN ROWS OF THIS SEAT. 14 by the template 'for every input the law returns true; each argument reads behind the call as it read before'; 0 by the template 'total and deterministic' (their statements: YtggcjmdadomlaaaTotals.lean).
  GIVEN WITH THE SEED: the statements are not yours to turn. If you find one false, say at which input.
  Laid BY PROGRAM, IN A SANDBOX (cutbox-rows.mjs): the forced cells as the released guide's own fill.sh prints them over the translation 3b202cbb4a71e465… (all of the seat's roots in one cut). By AI agents, Wed Nov 11 2026. No macro, syntax, notation, axiom, sorry.
-/
import Derived.Test.YtggcjmdadomlaaaChecked
import GoSem.Claim
import GoSem.ClaimJoined
import GoSem.ClaimMapViews
import Derived.JoinedTies
import Derived.KernelRfl
namespace Go.Proofs.Ytggcjmdadomlaaa
/- THE CELL 'sum', in the pinned program and in every row, IS THE sha256 OF THE DUMP (.gsa) THAT YtggcjmdadomlaaaProg.lean LOADS. Nothing in Lean hashes anything: it is a label: what it is worth is what the hold of that sum in a sandbox is worth. -/
noncomputable def Try.pinned : Pinned := { name := "ytggcjmdadomlaaa", sum := "3b202cbb4a71e4657214d7616d29883f653bf15af0246e9ecc460beecb577f27", checked := Try.checked }
namespace Rows
def none {H : Type} : Left H := { results := [], args := [] }

/-- 'laws.FnExactChasePresses': WHATEVER THE INPUT: true; the input reads as it did. -/
def fnExactChasePressesSpec : ChangeSpec := { name := "fnExactChasePresses", fn := fun _ => fun
  | [d1, d2, d3, d4, d5] => { results := [.lit (.bool true)], args := [d1, d2, d3, d4, d5] }
  | _ => none }
def fnExactChasePressesRow : OpenClaim := { program := "ytggcjmdadomlaaa", sum := "3b202cbb4a71e4657214d7616d29883f653bf15af0246e9ecc460beecb577f27", func := "loop.example/g01146/laws.FnExactChasePresses", spec := "fnExactChasePresses", unfollowed := true, recurses := true, apart := false }
def FnExactChasePressesSaid : Prop := fnExactChasePressesRow.holds Try.pinned (OpenSpec.ofChange fnExactChasePressesSpec)

/-- ITS FALSE NEIGHBOUR: 'it returns false'. Refute it at one input. -/
def fnExactChasePressesWrong : ChangeSpec := { name := "fnExactChasePresses", fn := fun _ => fun
  | [d1, d2, d3, d4, d5] => { results := [.lit (.bool false)], args := [d1, d2, d3, d4, d5] }
  | _ => none }
def FnExactChasePressesWrongFalsely : Prop := fnExactChasePressesRow.holds Try.pinned (OpenSpec.ofChange fnExactChasePressesWrong)

/-- 'laws.FnExactChaseLeft': WHATEVER THE INPUT: true; the input reads as it did. -/
def fnExactChaseLeftSpec : ChangeSpec := { name := "fnExactChaseLeft", fn := fun _ => fun
  | [d1, d2, d3, d4, d5] => { results := [.lit (.bool true)], args := [d1, d2, d3, d4, d5] }
  | _ => none }
def fnExactChaseLeftRow : OpenClaim := { program := "ytggcjmdadomlaaa", sum := "3b202cbb4a71e4657214d7616d29883f653bf15af0246e9ecc460beecb577f27", func := "loop.example/g01146/laws.FnExactChaseLeft", spec := "fnExactChaseLeft", unfollowed := true, recurses := true, apart := false }
def FnExactChaseLeftSaid : Prop := fnExactChaseLeftRow.holds Try.pinned (OpenSpec.ofChange fnExactChaseLeftSpec)

/-- ITS FALSE NEIGHBOUR: 'it returns false'. Refute it at one input. -/
def fnExactChaseLeftWrong : ChangeSpec := { name := "fnExactChaseLeft", fn := fun _ => fun
  | [d1, d2, d3, d4, d5] => { results := [.lit (.bool false)], args := [d1, d2, d3, d4, d5] }
  | _ => none }
def FnExactChaseLeftWrongFalsely : Prop := fnExactChaseLeftRow.holds Try.pinned (OpenSpec.ofChange fnExactChaseLeftWrong)

/-- 'laws.FnExactFirstRowMap': WHATEVER THE INPUT: true; the input reads as it did. -/
def fnExactFirstRowMapSpec : ChangeSpec := { name := "fnExactFirstRowMap", fn := fun _ => fun
  | [d1, d2, d3] => { results := [.lit (.bool true)], args := [d1, d2, d3] }
  | _ => none }
def fnExactFirstRowMapRow : OpenClaim := { program := "ytggcjmdadomlaaa", sum := "3b202cbb4a71e4657214d7616d29883f653bf15af0246e9ecc460beecb577f27", func := "loop.example/g01146/laws.FnExactFirstRowMap", spec := "fnExactFirstRowMap", unfollowed := true, recurses := true, apart := false }
def FnExactFirstRowMapSaid : Prop := fnExactFirstRowMapRow.holds Try.pinned (OpenSpec.ofChange fnExactFirstRowMapSpec)

/-- ITS FALSE NEIGHBOUR: 'it returns false'. Refute it at one input. -/
def fnExactFirstRowMapWrong : ChangeSpec := { name := "fnExactFirstRowMap", fn := fun _ => fun
  | [d1, d2, d3] => { results := [.lit (.bool false)], args := [d1, d2, d3] }
  | _ => none }
def FnExactFirstRowMapWrongFalsely : Prop := fnExactFirstRowMapRow.holds Try.pinned (OpenSpec.ofChange fnExactFirstRowMapWrong)

/-- 'laws.FnExactFirstRows': WHATEVER THE INPUT: true; the input reads as it did. -/
def fnExactFirstRowsSpec : ChangeSpec := { name := "fnExactFirstRows", fn := fun _ => fun
  | [d1, d2, d3, d4] => { results := [.lit (.bool true)], args := [d1, d2, d3, d4] }
  | _ => none }
def fnExactFirstRowsRow : OpenClaim := { program := "ytggcjmdadomlaaa", sum := "3b202cbb4a71e4657214d7616d29883f653bf15af0246e9ecc460beecb577f27", func := "loop.example/g01146/laws.FnExactFirstRows", spec := "fnExactFirstRows", unfollowed := true, recurses := true, apart := false }
def FnExactFirstRowsSaid : Prop := fnExactFirstRowsRow.holds Try.pinned (OpenSpec.ofChange fnExactFirstRowsSpec)

/-- ITS FALSE NEIGHBOUR: 'it returns false'. Refute it at one input. -/
def fnExactFirstRowsWrong : ChangeSpec := { name := "fnExactFirstRows", fn := fun _ => fun
  | [d1, d2, d3, d4] => { results := [.lit (.bool false)], args := [d1, d2, d3, d4] }
  | _ => none }
def FnExactFirstRowsWrongFalsely : Prop := fnExactFirstRowsRow.holds Try.pinned (OpenSpec.ofChange fnExactFirstRowsWrong)

/-- 'laws.FnExactSolveByChase': WHATEVER THE INPUT: true; the input reads as it did. -/
def fnExactSolveByChaseSpec : ChangeSpec := { name := "fnExactSolveByChase", fn := fun _ => fun
  | [d1, d2, d3, d4] => { results := [.lit (.bool true)], args := [d1, d2, d3, d4] }
  | _ => none }
def fnExactSolveByChaseRow : OpenClaim := { program := "ytggcjmdadomlaaa", sum := "3b202cbb4a71e4657214d7616d29883f653bf15af0246e9ecc460beecb577f27", func := "loop.example/g01146/laws.FnExactSolveByChase", spec := "fnExactSolveByChase", unfollowed := true, recurses := true, apart := false }
def FnExactSolveByChaseSaid : Prop := fnExactSolveByChaseRow.holds Try.pinned (OpenSpec.ofChange fnExactSolveByChaseSpec)

/-- ITS FALSE NEIGHBOUR: 'it returns false'. Refute it at one input. -/
def fnExactSolveByChaseWrong : ChangeSpec := { name := "fnExactSolveByChase", fn := fun _ => fun
  | [d1, d2, d3, d4] => { results := [.lit (.bool false)], args := [d1, d2, d3, d4] }
  | _ => none }
def FnExactSolveByChaseWrongFalsely : Prop := fnExactSolveByChaseRow.holds Try.pinned (OpenSpec.ofChange fnExactSolveByChaseWrong)

/-- 'laws.FnExactLastRowTable': WHATEVER THE INPUT: true; the input reads as it did. -/
def fnExactLastRowTableSpec : ChangeSpec := { name := "fnExactLastRowTable", fn := fun _ => fun
  | [d1, d2, d3] => { results := [.lit (.bool true)], args := [d1, d2, d3] }
  | _ => none }
def fnExactLastRowTableRow : OpenClaim := { program := "ytggcjmdadomlaaa", sum := "3b202cbb4a71e4657214d7616d29883f653bf15af0246e9ecc460beecb577f27", func := "loop.example/g01146/laws.FnExactLastRowTable", spec := "fnExactLastRowTable", unfollowed := true, recurses := true, apart := false }
def FnExactLastRowTableSaid : Prop := fnExactLastRowTableRow.holds Try.pinned (OpenSpec.ofChange fnExactLastRowTableSpec)

/-- ITS FALSE NEIGHBOUR: 'it returns false'. Refute it at one input. -/
def fnExactLastRowTableWrong : ChangeSpec := { name := "fnExactLastRowTable", fn := fun _ => fun
  | [d1, d2, d3] => { results := [.lit (.bool false)], args := [d1, d2, d3] }
  | _ => none }
def FnExactLastRowTableWrongFalsely : Prop := fnExactLastRowTableRow.holds Try.pinned (OpenSpec.ofChange fnExactLastRowTableWrong)

/-- 'laws.FnExactRowBehind': WHATEVER THE INPUT: true; the input reads as it did. -/
def fnExactRowBehindSpec : ChangeSpec := { name := "fnExactRowBehind", fn := fun _ => fun
  | [d1, d2, d3, d4] => { results := [.lit (.bool true)], args := [d1, d2, d3, d4] }
  | _ => none }
def fnExactRowBehindRow : OpenClaim := { program := "ytggcjmdadomlaaa", sum := "3b202cbb4a71e4657214d7616d29883f653bf15af0246e9ecc460beecb577f27", func := "loop.example/g01146/laws.FnExactRowBehind", spec := "fnExactRowBehind", unfollowed := true, recurses := true, apart := false }
def FnExactRowBehindSaid : Prop := fnExactRowBehindRow.holds Try.pinned (OpenSpec.ofChange fnExactRowBehindSpec)

/-- ITS FALSE NEIGHBOUR: 'it returns false'. Refute it at one input. -/
def fnExactRowBehindWrong : ChangeSpec := { name := "fnExactRowBehind", fn := fun _ => fun
  | [d1, d2, d3, d4] => { results := [.lit (.bool false)], args := [d1, d2, d3, d4] }
  | _ => none }
def FnExactRowBehindWrongFalsely : Prop := fnExactRowBehindRow.holds Try.pinned (OpenSpec.ofChange fnExactRowBehindWrong)

/-- 'laws.FnExactRowPeriod': WHATEVER THE INPUT: true; the input reads as it did. -/
def fnExactRowPeriodSpec : ChangeSpec := { name := "fnExactRowPeriod", fn := fun _ => fun
  | [d1, d2, d3] => { results := [.lit (.bool true)], args := [d1, d2, d3] }
  | _ => none }
def fnExactRowPeriodRow : OpenClaim := { program := "ytggcjmdadomlaaa", sum := "3b202cbb4a71e4657214d7616d29883f653bf15af0246e9ecc460beecb577f27", func := "loop.example/g01146/laws.FnExactRowPeriod", spec := "fnExactRowPeriod", unfollowed := true, recurses := true, apart := false }
def FnExactRowPeriodSaid : Prop := fnExactRowPeriodRow.holds Try.pinned (OpenSpec.ofChange fnExactRowPeriodSpec)

/-- ITS FALSE NEIGHBOUR: 'it returns false'. Refute it at one input. -/
def fnExactRowPeriodWrong : ChangeSpec := { name := "fnExactRowPeriod", fn := fun _ => fun
  | [d1, d2, d3] => { results := [.lit (.bool false)], args := [d1, d2, d3] }
  | _ => none }
def FnExactRowPeriodWrongFalsely : Prop := fnExactRowPeriodRow.holds Try.pinned (OpenSpec.ofChange fnExactRowPeriodWrong)

/-- 'laws.FnExactQuietRows': WHATEVER THE INPUT: true; the input reads as it did. -/
def fnExactQuietRowsSpec : ChangeSpec := { name := "fnExactQuietRows", fn := fun _ => fun
  | [d1, d2, d3, d4] => { results := [.lit (.bool true)], args := [d1, d2, d3, d4] }
  | _ => none }
def fnExactQuietRowsRow : OpenClaim := { program := "ytggcjmdadomlaaa", sum := "3b202cbb4a71e4657214d7616d29883f653bf15af0246e9ecc460beecb577f27", func := "loop.example/g01146/laws.FnExactQuietRows", spec := "fnExactQuietRows", unfollowed := true, recurses := true, apart := false }
def FnExactQuietRowsSaid : Prop := fnExactQuietRowsRow.holds Try.pinned (OpenSpec.ofChange fnExactQuietRowsSpec)

/-- ITS FALSE NEIGHBOUR: 'it returns false'. Refute it at one input. -/
def fnExactQuietRowsWrong : ChangeSpec := { name := "fnExactQuietRows", fn := fun _ => fun
  | [d1, d2, d3, d4] => { results := [.lit (.bool false)], args := [d1, d2, d3, d4] }
  | _ => none }
def FnExactQuietRowsWrongFalsely : Prop := fnExactQuietRowsRow.holds Try.pinned (OpenSpec.ofChange fnExactQuietRowsWrong)

/-- 'laws.FnExactNullityByRows': WHATEVER THE INPUT: true; the input reads as it did. -/
def fnExactNullityByRowsSpec : ChangeSpec := { name := "fnExactNullityByRows", fn := fun _ => fun
  | [d1, d2, d3] => { results := [.lit (.bool true)], args := [d1, d2, d3] }
  | _ => none }
def fnExactNullityByRowsRow : OpenClaim := { program := "ytggcjmdadomlaaa", sum := "3b202cbb4a71e4657214d7616d29883f653bf15af0246e9ecc460beecb577f27", func := "loop.example/g01146/laws.FnExactNullityByRows", spec := "fnExactNullityByRows", inPlace := ["slices.overlaps[int]"], unfollowed := true, recurses := true, apart := false }
def FnExactNullityByRowsSaid : Prop := fnExactNullityByRowsRow.holds Try.pinned (OpenSpec.ofChange fnExactNullityByRowsSpec)

/-- ITS FALSE NEIGHBOUR: 'it returns false'. Refute it at one input. -/
def fnExactNullityByRowsWrong : ChangeSpec := { name := "fnExactNullityByRows", fn := fun _ => fun
  | [d1, d2, d3] => { results := [.lit (.bool false)], args := [d1, d2, d3] }
  | _ => none }
def FnExactNullityByRowsWrongFalsely : Prop := fnExactNullityByRowsRow.holds Try.pinned (OpenSpec.ofChange fnExactNullityByRowsWrong)

/-- 'laws.FnExactNullitiesByRows': WHATEVER THE INPUT: true; the input reads as it did. -/
def fnExactNullitiesByRowsSpec : ChangeSpec := { name := "fnExactNullitiesByRows", fn := fun _ => fun
  | [d1, d2, d3] => { results := [.lit (.bool true)], args := [d1, d2, d3] }
  | _ => none }
def fnExactNullitiesByRowsRow : OpenClaim := { program := "ytggcjmdadomlaaa", sum := "3b202cbb4a71e4657214d7616d29883f653bf15af0246e9ecc460beecb577f27", func := "loop.example/g01146/laws.FnExactNullitiesByRows", spec := "fnExactNullitiesByRows", inPlace := ["slices.overlaps[int]"], unfollowed := true, recurses := true, apart := false }
def FnExactNullitiesByRowsSaid : Prop := fnExactNullitiesByRowsRow.holds Try.pinned (OpenSpec.ofChange fnExactNullitiesByRowsSpec)

/-- ITS FALSE NEIGHBOUR: 'it returns false'. Refute it at one input. -/
def fnExactNullitiesByRowsWrong : ChangeSpec := { name := "fnExactNullitiesByRows", fn := fun _ => fun
  | [d1, d2, d3] => { results := [.lit (.bool false)], args := [d1, d2, d3] }
  | _ => none }
def FnExactNullitiesByRowsWrongFalsely : Prop := fnExactNullitiesByRowsRow.holds Try.pinned (OpenSpec.ofChange fnExactNullitiesByRowsWrong)

/-- 'laws.FnExactRowToggles': WHATEVER THE INPUT: true; the input reads as it did. -/
def fnExactRowTogglesSpec : ChangeSpec := { name := "fnExactRowToggles", fn := fun _ => fun
  | [d1, d2, d3] => { results := [.lit (.bool true)], args := [d1, d2, d3] }
  | _ => none }
def fnExactRowTogglesRow : OpenClaim := { program := "ytggcjmdadomlaaa", sum := "3b202cbb4a71e4657214d7616d29883f653bf15af0246e9ecc460beecb577f27", func := "loop.example/g01146/laws.FnExactRowToggles", spec := "fnExactRowToggles", apart := false }
def FnExactRowTogglesSaid : Prop := fnExactRowTogglesRow.holds Try.pinned (OpenSpec.ofChange fnExactRowTogglesSpec)

/-- ITS FALSE NEIGHBOUR: 'it returns false'. Refute it at one input. -/
def fnExactRowTogglesWrong : ChangeSpec := { name := "fnExactRowToggles", fn := fun _ => fun
  | [d1, d2, d3] => { results := [.lit (.bool false)], args := [d1, d2, d3] }
  | _ => none }
def FnExactRowTogglesWrongFalsely : Prop := fnExactRowTogglesRow.holds Try.pinned (OpenSpec.ofChange fnExactRowTogglesWrong)

/-- 'laws.FnExactGraphOf': WHATEVER THE INPUT: true; the input reads as it did. -/
def fnExactGraphOfSpec : ChangeSpec := { name := "fnExactGraphOf", fn := fun _ => fun
  | [d1, d2, d3] => { results := [.lit (.bool true)], args := [d1, d2, d3] }
  | _ => none }
def fnExactGraphOfRow : OpenClaim := { program := "ytggcjmdadomlaaa", sum := "3b202cbb4a71e4657214d7616d29883f653bf15af0246e9ecc460beecb577f27", func := "loop.example/g01146/laws.FnExactGraphOf", spec := "fnExactGraphOf", apart := false }
def FnExactGraphOfSaid : Prop := fnExactGraphOfRow.holds Try.pinned (OpenSpec.ofChange fnExactGraphOfSpec)

/-- ITS FALSE NEIGHBOUR: 'it returns false'. Refute it at one input. -/
def fnExactGraphOfWrong : ChangeSpec := { name := "fnExactGraphOf", fn := fun _ => fun
  | [d1, d2, d3] => { results := [.lit (.bool false)], args := [d1, d2, d3] }
  | _ => none }
def FnExactGraphOfWrongFalsely : Prop := fnExactGraphOfRow.holds Try.pinned (OpenSpec.ofChange fnExactGraphOfWrong)

/-- 'laws.FnExactEdgesOf': WHATEVER THE INPUT: true; the input reads as it did. -/
def fnExactEdgesOfSpec : ChangeSpec := { name := "fnExactEdgesOf", fn := fun _ => fun
  | [d] => { results := [.lit (.bool true)], args := [d] }
  | _ => none }
def fnExactEdgesOfRow : OpenClaim := { program := "ytggcjmdadomlaaa", sum := "3b202cbb4a71e4657214d7616d29883f653bf15af0246e9ecc460beecb577f27", func := "loop.example/g01146/laws.FnExactEdgesOf", spec := "fnExactEdgesOf", apart := false }
def FnExactEdgesOfSaid : Prop := fnExactEdgesOfRow.holds Try.pinned (OpenSpec.ofChange fnExactEdgesOfSpec)

/-- ITS FALSE NEIGHBOUR: 'it returns false'. Refute it at one input. -/
def fnExactEdgesOfWrong : ChangeSpec := { name := "fnExactEdgesOf", fn := fun _ => fun
  | [d] => { results := [.lit (.bool false)], args := [d] }
  | _ => none }
def FnExactEdgesOfWrongFalsely : Prop := fnExactEdgesOfRow.holds Try.pinned (OpenSpec.ofChange fnExactEdgesOfWrong)

/- THE SECOND FORM. 'bulk': how many values and letters a reading holds, each counted each time it is reached (what is shared counts as often as it is met; a slice's spare places count too). A statement '..UptoSaid' is the law's where the arguments, and the package variables that the reading takes, are together of bulk at most 1048576: NARROWER than '..Said'. Prove '..Said' where nothing that the law and all that it calls make is longer than what came in: it says more and counts as full. Else prove '..UptoSaid'. A law counts once. -/
mutual
def uptoBulk {H : Type} : DataW H → Nat
  | .lit (.string bytes) => bytes.length + 1
  | .lit _ => 1
  | .nil => 1
  | .ptr d => uptoBulk d + 1
  | .slice elems spare => uptoBulkAll elems + uptoBulkAll spare + 1
  | .agg parts => uptoBulkAll parts + 1
  | .iface _ d => uptoBulk d + 1
  | .map entries => uptoBulkEntries entries + 1
  | .held _ => 1
def uptoBulkAll {H : Type} : List (DataW H) → Nat
  | [] => 0
  | d :: r => uptoBulk d + uptoBulkAll r
def uptoBulkEntries {H : Type} : List (Lit × DataW H) → Nat
  | [] => 0
  | x :: r => uptoBulkEntry x + uptoBulkEntries r
def uptoBulkEntry {H : Type} : Lit × DataW H → Nat
  | (.string bytes, d) => bytes.length + uptoBulk d + 1
  | (_, d) => uptoBulk d + 1
 end
def uptoSmall : (H : Type) → List (DataW H) → Bool := fun _ ds => decide (uptoBulkAll ds ≤ 1048576)
def OpenSpec.upto (s : _root_.Go.ChangeSpec) : _root_.Go.OpenSpec := { _root_.Go.OpenSpec.ofChange s with cond := some uptoSmall }

/-- 'laws.FnExactChasePresses', WHERE WHAT IT READS IS OF BULK AT MOST 1048576: true; the input reads as it did. -/
def fnExactChasePressesUptoRow : OpenClaim := { program := "ytggcjmdadomlaaa", sum := "3b202cbb4a71e4657214d7616d29883f653bf15af0246e9ecc460beecb577f27", func := "loop.example/g01146/laws.FnExactChasePresses", spec := "fnExactChasePresses", unfollowed := true, recurses := true, apart := false, narrowed := true }
def FnExactChasePressesUptoSaid : Prop := fnExactChasePressesUptoRow.holds Try.pinned (OpenSpec.upto fnExactChasePressesSpec)

/-- 'laws.FnExactChaseLeft', WHERE WHAT IT READS IS OF BULK AT MOST 1048576: true; the input reads as it did. -/
def fnExactChaseLeftUptoRow : OpenClaim := { program := "ytggcjmdadomlaaa", sum := "3b202cbb4a71e4657214d7616d29883f653bf15af0246e9ecc460beecb577f27", func := "loop.example/g01146/laws.FnExactChaseLeft", spec := "fnExactChaseLeft", unfollowed := true, recurses := true, apart := false, narrowed := true }
def FnExactChaseLeftUptoSaid : Prop := fnExactChaseLeftUptoRow.holds Try.pinned (OpenSpec.upto fnExactChaseLeftSpec)

/-- 'laws.FnExactFirstRowMap', WHERE WHAT IT READS IS OF BULK AT MOST 1048576: true; the input reads as it did. -/
def fnExactFirstRowMapUptoRow : OpenClaim := { program := "ytggcjmdadomlaaa", sum := "3b202cbb4a71e4657214d7616d29883f653bf15af0246e9ecc460beecb577f27", func := "loop.example/g01146/laws.FnExactFirstRowMap", spec := "fnExactFirstRowMap", unfollowed := true, recurses := true, apart := false, narrowed := true }
def FnExactFirstRowMapUptoSaid : Prop := fnExactFirstRowMapUptoRow.holds Try.pinned (OpenSpec.upto fnExactFirstRowMapSpec)

/-- 'laws.FnExactFirstRows', WHERE WHAT IT READS IS OF BULK AT MOST 1048576: true; the input reads as it did. -/
def fnExactFirstRowsUptoRow : OpenClaim := { program := "ytggcjmdadomlaaa", sum := "3b202cbb4a71e4657214d7616d29883f653bf15af0246e9ecc460beecb577f27", func := "loop.example/g01146/laws.FnExactFirstRows", spec := "fnExactFirstRows", unfollowed := true, recurses := true, apart := false, narrowed := true }
def FnExactFirstRowsUptoSaid : Prop := fnExactFirstRowsUptoRow.holds Try.pinned (OpenSpec.upto fnExactFirstRowsSpec)

/-- 'laws.FnExactSolveByChase', WHERE WHAT IT READS IS OF BULK AT MOST 1048576: true; the input reads as it did. -/
def fnExactSolveByChaseUptoRow : OpenClaim := { program := "ytggcjmdadomlaaa", sum := "3b202cbb4a71e4657214d7616d29883f653bf15af0246e9ecc460beecb577f27", func := "loop.example/g01146/laws.FnExactSolveByChase", spec := "fnExactSolveByChase", unfollowed := true, recurses := true, apart := false, narrowed := true }
def FnExactSolveByChaseUptoSaid : Prop := fnExactSolveByChaseUptoRow.holds Try.pinned (OpenSpec.upto fnExactSolveByChaseSpec)

/-- 'laws.FnExactLastRowTable', WHERE WHAT IT READS IS OF BULK AT MOST 1048576: true; the input reads as it did. -/
def fnExactLastRowTableUptoRow : OpenClaim := { program := "ytggcjmdadomlaaa", sum := "3b202cbb4a71e4657214d7616d29883f653bf15af0246e9ecc460beecb577f27", func := "loop.example/g01146/laws.FnExactLastRowTable", spec := "fnExactLastRowTable", unfollowed := true, recurses := true, apart := false, narrowed := true }
def FnExactLastRowTableUptoSaid : Prop := fnExactLastRowTableUptoRow.holds Try.pinned (OpenSpec.upto fnExactLastRowTableSpec)

/-- 'laws.FnExactRowBehind', WHERE WHAT IT READS IS OF BULK AT MOST 1048576: true; the input reads as it did. -/
def fnExactRowBehindUptoRow : OpenClaim := { program := "ytggcjmdadomlaaa", sum := "3b202cbb4a71e4657214d7616d29883f653bf15af0246e9ecc460beecb577f27", func := "loop.example/g01146/laws.FnExactRowBehind", spec := "fnExactRowBehind", unfollowed := true, recurses := true, apart := false, narrowed := true }
def FnExactRowBehindUptoSaid : Prop := fnExactRowBehindUptoRow.holds Try.pinned (OpenSpec.upto fnExactRowBehindSpec)

/-- 'laws.FnExactRowPeriod', WHERE WHAT IT READS IS OF BULK AT MOST 1048576: true; the input reads as it did. -/
def fnExactRowPeriodUptoRow : OpenClaim := { program := "ytggcjmdadomlaaa", sum := "3b202cbb4a71e4657214d7616d29883f653bf15af0246e9ecc460beecb577f27", func := "loop.example/g01146/laws.FnExactRowPeriod", spec := "fnExactRowPeriod", unfollowed := true, recurses := true, apart := false, narrowed := true }
def FnExactRowPeriodUptoSaid : Prop := fnExactRowPeriodUptoRow.holds Try.pinned (OpenSpec.upto fnExactRowPeriodSpec)

/-- 'laws.FnExactQuietRows', WHERE WHAT IT READS IS OF BULK AT MOST 1048576: true; the input reads as it did. -/
def fnExactQuietRowsUptoRow : OpenClaim := { program := "ytggcjmdadomlaaa", sum := "3b202cbb4a71e4657214d7616d29883f653bf15af0246e9ecc460beecb577f27", func := "loop.example/g01146/laws.FnExactQuietRows", spec := "fnExactQuietRows", unfollowed := true, recurses := true, apart := false, narrowed := true }
def FnExactQuietRowsUptoSaid : Prop := fnExactQuietRowsUptoRow.holds Try.pinned (OpenSpec.upto fnExactQuietRowsSpec)

/-- 'laws.FnExactNullityByRows', WHERE WHAT IT READS IS OF BULK AT MOST 1048576: true; the input reads as it did. -/
def fnExactNullityByRowsUptoRow : OpenClaim := { program := "ytggcjmdadomlaaa", sum := "3b202cbb4a71e4657214d7616d29883f653bf15af0246e9ecc460beecb577f27", func := "loop.example/g01146/laws.FnExactNullityByRows", spec := "fnExactNullityByRows", inPlace := ["slices.overlaps[int]"], unfollowed := true, recurses := true, apart := false, narrowed := true }
def FnExactNullityByRowsUptoSaid : Prop := fnExactNullityByRowsUptoRow.holds Try.pinned (OpenSpec.upto fnExactNullityByRowsSpec)

/-- 'laws.FnExactNullitiesByRows', WHERE WHAT IT READS IS OF BULK AT MOST 1048576: true; the input reads as it did. -/
def fnExactNullitiesByRowsUptoRow : OpenClaim := { program := "ytggcjmdadomlaaa", sum := "3b202cbb4a71e4657214d7616d29883f653bf15af0246e9ecc460beecb577f27", func := "loop.example/g01146/laws.FnExactNullitiesByRows", spec := "fnExactNullitiesByRows", inPlace := ["slices.overlaps[int]"], unfollowed := true, recurses := true, apart := false, narrowed := true }
def FnExactNullitiesByRowsUptoSaid : Prop := fnExactNullitiesByRowsUptoRow.holds Try.pinned (OpenSpec.upto fnExactNullitiesByRowsSpec)

/-- 'laws.FnExactRowToggles', WHERE WHAT IT READS IS OF BULK AT MOST 1048576: true; the input reads as it did. -/
def fnExactRowTogglesUptoRow : OpenClaim := { program := "ytggcjmdadomlaaa", sum := "3b202cbb4a71e4657214d7616d29883f653bf15af0246e9ecc460beecb577f27", func := "loop.example/g01146/laws.FnExactRowToggles", spec := "fnExactRowToggles", apart := false, narrowed := true }
def FnExactRowTogglesUptoSaid : Prop := fnExactRowTogglesUptoRow.holds Try.pinned (OpenSpec.upto fnExactRowTogglesSpec)

/-- 'laws.FnExactGraphOf', WHERE WHAT IT READS IS OF BULK AT MOST 1048576: true; the input reads as it did. -/
def fnExactGraphOfUptoRow : OpenClaim := { program := "ytggcjmdadomlaaa", sum := "3b202cbb4a71e4657214d7616d29883f653bf15af0246e9ecc460beecb577f27", func := "loop.example/g01146/laws.FnExactGraphOf", spec := "fnExactGraphOf", apart := false, narrowed := true }
def FnExactGraphOfUptoSaid : Prop := fnExactGraphOfUptoRow.holds Try.pinned (OpenSpec.upto fnExactGraphOfSpec)

/-- 'laws.FnExactEdgesOf', WHERE WHAT IT READS IS OF BULK AT MOST 1048576: true; the input reads as it did. -/
def fnExactEdgesOfUptoRow : OpenClaim := { program := "ytggcjmdadomlaaa", sum := "3b202cbb4a71e4657214d7616d29883f653bf15af0246e9ecc460beecb577f27", func := "loop.example/g01146/laws.FnExactEdgesOf", spec := "fnExactEdgesOf", apart := false, narrowed := true }
def FnExactEdgesOfUptoSaid : Prop := fnExactEdgesOfUptoRow.holds Try.pinned (OpenSpec.upto fnExactEdgesOfSpec)

end Rows
end Go.Proofs.Ytggcjmdadomlaaa
