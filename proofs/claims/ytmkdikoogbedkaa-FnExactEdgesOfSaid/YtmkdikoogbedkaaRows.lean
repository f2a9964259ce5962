/-
  No cell of these rows narrows 'for every input' (looked for: loops, veiled, ifaces, maps, wideKeys, modest, calm, conditions, laid).
  DERIVED. THE GIVEN ROWS OF THIS SEAT. 13 by the template 'for every input the law returns true; each argument reads behind the call as it read before'; 0 by the template 'total and deterministic' (their statements: YtmkdikoogbedkaaTotals.lean).
  GIVEN WITH THE SEED: the statements are not yours to turn. If you find one false, say at which input.
  Laid BY PROGRAM, IN A SANDBOX (cutbox-rows.mjs): the forced cells as the released guide's own fill.sh prints them over the translation 5587263c02e858b3… (all of the seat's roots in one cut). By AI agents, Wed Nov 11 2026. No macro, syntax, notation, axiom, sorry.
-/
import Derived.Test.YtmkdikoogbedkaaChecked
import GoSem.Claim
import GoSem.ClaimJoined
import GoSem.ClaimMapViews
import Derived.JoinedTies
import Derived.KernelRfl
namespace Go.Proofs.Ytmkdikoogbedkaa
/- THE CELL 'sum', in the pinned program and in every row, IS THE sha256 OF THE DUMP (.gsa) THAT YtmkdikoogbedkaaProg.lean LOADS. Nothing in Lean hashes anything: it is a label: what it is worth is what the hold of that sum in a sandbox is worth. -/
noncomputable def Try.pinned : Pinned := { name := "ytmkdikoogbedkaa", sum := "5587263c02e858b3503a95f4dbe6eca38ddf498733f90e2594a97cea9413a811", checked := Try.checked }
namespace Rows
def none {H : Type} : Left H := { results := [], args := [] }

/-- 'laws.FnExactDegreeOf': WHATEVER THE INPUT: true; the input reads as it did. -/
def fnExactDegreeOfSpec : ChangeSpec := { name := "fnExactDegreeOf", fn := fun _ => fun
  | [d] => { results := [.lit (.bool true)], args := [d] }
  | _ => none }
def fnExactDegreeOfRow : OpenClaim := { program := "ytmkdikoogbedkaa", sum := "5587263c02e858b3503a95f4dbe6eca38ddf498733f90e2594a97cea9413a811", func := "loop.example/g01146/laws.FnExactDegreeOf", spec := "fnExactDegreeOf", apart := false }
def FnExactDegreeOfSaid : Prop := fnExactDegreeOfRow.holds Try.pinned (OpenSpec.ofChange fnExactDegreeOfSpec)

/-- ITS FALSE NEIGHBOUR: 'it returns false'. Refute it at one input. -/
def fnExactDegreeOfWrong : ChangeSpec := { name := "fnExactDegreeOf", fn := fun _ => fun
  | [d] => { results := [.lit (.bool false)], args := [d] }
  | _ => none }
def FnExactDegreeOfWrongFalsely : Prop := fnExactDegreeOfRow.holds Try.pinned (OpenSpec.ofChange fnExactDegreeOfWrong)

/-- 'laws.FnExactDividePoly': WHATEVER THE INPUT: true; the input reads as it did. -/
def fnExactDividePolySpec : ChangeSpec := { name := "fnExactDividePoly", fn := fun _ => fun
  | [d1, d2] => { results := [.lit (.bool true)], args := [d1, d2] }
  | _ => none }
def fnExactDividePolyRow : OpenClaim := { program := "ytmkdikoogbedkaa", sum := "5587263c02e858b3503a95f4dbe6eca38ddf498733f90e2594a97cea9413a811", func := "loop.example/g01146/laws.FnExactDividePoly", spec := "fnExactDividePoly", apart := false }
def FnExactDividePolySaid : Prop := fnExactDividePolyRow.holds Try.pinned (OpenSpec.ofChange fnExactDividePolySpec)

/-- ITS FALSE NEIGHBOUR: 'it returns false'. Refute it at one input. -/
def fnExactDividePolyWrong : ChangeSpec := { name := "fnExactDividePoly", fn := fun _ => fun
  | [d1, d2] => { results := [.lit (.bool false)], args := [d1, d2] }
  | _ => none }
def FnExactDividePolyWrongFalsely : Prop := fnExactDividePolyRow.holds Try.pinned (OpenSpec.ofChange fnExactDividePolyWrong)

/-- 'laws.FnExactGcdPoly': WHATEVER THE INPUT: true; the input reads as it did. -/
def fnExactGcdPolySpec : ChangeSpec := { name := "fnExactGcdPoly", fn := fun _ => fun
  | [d1, d2] => { results := [.lit (.bool true)], args := [d1, d2] }
  | _ => none }
def fnExactGcdPolyRow : OpenClaim := { program := "ytmkdikoogbedkaa", sum := "5587263c02e858b3503a95f4dbe6eca38ddf498733f90e2594a97cea9413a811", func := "loop.example/g01146/laws.FnExactGcdPoly", spec := "fnExactGcdPoly", apart := false }
def FnExactGcdPolySaid : Prop := fnExactGcdPolyRow.holds Try.pinned (OpenSpec.ofChange fnExactGcdPolySpec)

/-- ITS FALSE NEIGHBOUR: 'it returns false'. Refute it at one input. -/
def fnExactGcdPolyWrong : ChangeSpec := { name := "fnExactGcdPoly", fn := fun _ => fun
  | [d1, d2] => { results := [.lit (.bool false)], args := [d1, d2] }
  | _ => none }
def FnExactGcdPolyWrongFalsely : Prop := fnExactGcdPolyRow.holds Try.pinned (OpenSpec.ofChange fnExactGcdPolyWrong)

/-- 'laws.FnExactShiftPoly': WHATEVER THE INPUT: true; the input reads as it did. -/
def fnExactShiftPolySpec : ChangeSpec := { name := "fnExactShiftPoly", fn := fun _ => fun
  | [d] => { results := [.lit (.bool true)], args := [d] }
  | _ => none }
def fnExactShiftPolyRow : OpenClaim := { program := "ytmkdikoogbedkaa", sum := "5587263c02e858b3503a95f4dbe6eca38ddf498733f90e2594a97cea9413a811", func := "loop.example/g01146/laws.FnExactShiftPoly", spec := "fnExactShiftPoly", apart := false }
def FnExactShiftPolySaid : Prop := fnExactShiftPolyRow.holds Try.pinned (OpenSpec.ofChange fnExactShiftPolySpec)

/-- ITS FALSE NEIGHBOUR: 'it returns false'. Refute it at one input. -/
def fnExactShiftPolyWrong : ChangeSpec := { name := "fnExactShiftPoly", fn := fun _ => fun
  | [d] => { results := [.lit (.bool false)], args := [d] }
  | _ => none }
def FnExactShiftPolyWrongFalsely : Prop := fnExactShiftPolyRow.holds Try.pinned (OpenSpec.ofChange fnExactShiftPolyWrong)

/-- 'laws.FnExactReversedPoly': WHATEVER THE INPUT: true; the input reads as it did. -/
def fnExactReversedPolySpec : ChangeSpec := { name := "fnExactReversedPoly", fn := fun _ => fun
  | [d] => { results := [.lit (.bool true)], args := [d] }
  | _ => none }
def fnExactReversedPolyRow : OpenClaim := { program := "ytmkdikoogbedkaa", sum := "5587263c02e858b3503a95f4dbe6eca38ddf498733f90e2594a97cea9413a811", func := "loop.example/g01146/laws.FnExactReversedPoly", spec := "fnExactReversedPoly", apart := false }
def FnExactReversedPolySaid : Prop := fnExactReversedPolyRow.holds Try.pinned (OpenSpec.ofChange fnExactReversedPolySpec)

/-- ITS FALSE NEIGHBOUR: 'it returns false'. Refute it at one input. -/
def fnExactReversedPolyWrong : ChangeSpec := { name := "fnExactReversedPoly", fn := fun _ => fun
  | [d] => { results := [.lit (.bool false)], args := [d] }
  | _ => none }
def FnExactReversedPolyWrongFalsely : Prop := fnExactReversedPolyRow.holds Try.pinned (OpenSpec.ofChange fnExactReversedPolyWrong)

/-- 'laws.FnExactDerivativeOf': WHATEVER THE INPUT: true; the input reads as it did. -/
def fnExactDerivativeOfSpec : ChangeSpec := { name := "fnExactDerivativeOf", fn := fun _ => fun
  | [d] => { results := [.lit (.bool true)], args := [d] }
  | _ => none }
def fnExactDerivativeOfRow : OpenClaim := { program := "ytmkdikoogbedkaa", sum := "5587263c02e858b3503a95f4dbe6eca38ddf498733f90e2594a97cea9413a811", func := "loop.example/g01146/laws.FnExactDerivativeOf", spec := "fnExactDerivativeOf", apart := false }
def FnExactDerivativeOfSaid : Prop := fnExactDerivativeOfRow.holds Try.pinned (OpenSpec.ofChange fnExactDerivativeOfSpec)

/-- ITS FALSE NEIGHBOUR: 'it returns false'. Refute it at one input. -/
def fnExactDerivativeOfWrong : ChangeSpec := { name := "fnExactDerivativeOf", fn := fun _ => fun
  | [d] => { results := [.lit (.bool false)], args := [d] }
  | _ => none }
def FnExactDerivativeOfWrongFalsely : Prop := fnExactDerivativeOfRow.holds Try.pinned (OpenSpec.ofChange fnExactDerivativeOfWrong)

/-- 'laws.FnExactIsIrreducible': WHATEVER THE INPUT: true; the input reads as it did. -/
def fnExactIsIrreducibleSpec : ChangeSpec := { name := "fnExactIsIrreducible", fn := fun _ => fun
  | [d] => { results := [.lit (.bool true)], args := [d] }
  | _ => none }
def fnExactIsIrreducibleRow : OpenClaim := { program := "ytmkdikoogbedkaa", sum := "5587263c02e858b3503a95f4dbe6eca38ddf498733f90e2594a97cea9413a811", func := "loop.example/g01146/laws.FnExactIsIrreducible", spec := "fnExactIsIrreducible", apart := false }
def FnExactIsIrreducibleSaid : Prop := fnExactIsIrreducibleRow.holds Try.pinned (OpenSpec.ofChange fnExactIsIrreducibleSpec)

/-- ITS FALSE NEIGHBOUR: 'it returns false'. Refute it at one input. -/
def fnExactIsIrreducibleWrong : ChangeSpec := { name := "fnExactIsIrreducible", fn := fun _ => fun
  | [d] => { results := [.lit (.bool false)], args := [d] }
  | _ => none }
def FnExactIsIrreducibleWrongFalsely : Prop := fnExactIsIrreducibleRow.holds Try.pinned (OpenSpec.ofChange fnExactIsIrreducibleWrong)

/-- 'laws.FnExactFactorsOf': WHATEVER THE INPUT: true; the input reads as it did. -/
def fnExactFactorsOfSpec : ChangeSpec := { name := "fnExactFactorsOf", fn := fun _ => fun
  | [d] => { results := [.lit (.bool true)], args := [d] }
  | _ => none }
def fnExactFactorsOfRow : OpenClaim := { program := "ytmkdikoogbedkaa", sum := "5587263c02e858b3503a95f4dbe6eca38ddf498733f90e2594a97cea9413a811", func := "loop.example/g01146/laws.FnExactFactorsOf", spec := "fnExactFactorsOf", apart := false }
def FnExactFactorsOfSaid : Prop := fnExactFactorsOfRow.holds Try.pinned (OpenSpec.ofChange fnExactFactorsOfSpec)

/-- ITS FALSE NEIGHBOUR: 'it returns false'. Refute it at one input. -/
def fnExactFactorsOfWrong : ChangeSpec := { name := "fnExactFactorsOf", fn := fun _ => fun
  | [d] => { results := [.lit (.bool false)], args := [d] }
  | _ => none }
def FnExactFactorsOfWrongFalsely : Prop := fnExactFactorsOfRow.holds Try.pinned (OpenSpec.ofChange fnExactFactorsOfWrong)

/-- 'laws.FnExactOrderOfPoly': WHATEVER THE INPUT: true; the input reads as it did. -/
def fnExactOrderOfPolySpec : ChangeSpec := { name := "fnExactOrderOfPoly", fn := fun _ => fun
  | [d] => { results := [.lit (.bool true)], args := [d] }
  | _ => none }
def fnExactOrderOfPolyRow : OpenClaim := { program := "ytmkdikoogbedkaa", sum := "5587263c02e858b3503a95f4dbe6eca38ddf498733f90e2594a97cea9413a811", func := "loop.example/g01146/laws.FnExactOrderOfPoly", spec := "fnExactOrderOfPoly", apart := false }
def FnExactOrderOfPolySaid : Prop := fnExactOrderOfPolyRow.holds Try.pinned (OpenSpec.ofChange fnExactOrderOfPolySpec)

/-- ITS FALSE NEIGHBOUR: 'it returns false'. Refute it at one input. -/
def fnExactOrderOfPolyWrong : ChangeSpec := { name := "fnExactOrderOfPoly", fn := fun _ => fun
  | [d] => { results := [.lit (.bool false)], args := [d] }
  | _ => none }
def FnExactOrderOfPolyWrongFalsely : Prop := fnExactOrderOfPolyRow.holds Try.pinned (OpenSpec.ofChange fnExactOrderOfPolyWrong)

/-- 'laws.FnExactFibonacciPoly': WHATEVER THE INPUT: true; the input reads as it did. -/
def fnExactFibonacciPolySpec : ChangeSpec := { name := "fnExactFibonacciPoly", fn := fun _ => fun
  | [d] => { results := [.lit (.bool true)], args := [d] }
  | _ => none }
def fnExactFibonacciPolyRow : OpenClaim := { program := "ytmkdikoogbedkaa", sum := "5587263c02e858b3503a95f4dbe6eca38ddf498733f90e2594a97cea9413a811", func := "loop.example/g01146/laws.FnExactFibonacciPoly", spec := "fnExactFibonacciPoly", unfollowed := true, recurses := true, apart := false }
def FnExactFibonacciPolySaid : Prop := fnExactFibonacciPolyRow.holds Try.pinned (OpenSpec.ofChange fnExactFibonacciPolySpec)

/-- ITS FALSE NEIGHBOUR: 'it returns false'. Refute it at one input. -/
def fnExactFibonacciPolyWrong : ChangeSpec := { name := "fnExactFibonacciPoly", fn := fun _ => fun
  | [d] => { results := [.lit (.bool false)], args := [d] }
  | _ => none }
def FnExactFibonacciPolyWrongFalsely : Prop := fnExactFibonacciPolyRow.holds Try.pinned (OpenSpec.ofChange fnExactFibonacciPolyWrong)

/-- 'laws.FnExactFirstFibonacci': WHATEVER THE INPUT: true; the input reads as it did. -/
def fnExactFirstFibonacciSpec : ChangeSpec := { name := "fnExactFirstFibonacci", fn := fun _ => fun
  | [d] => { results := [.lit (.bool true)], args := [d] }
  | _ => none }
def fnExactFirstFibonacciRow : OpenClaim := { program := "ytmkdikoogbedkaa", sum := "5587263c02e858b3503a95f4dbe6eca38ddf498733f90e2594a97cea9413a811", func := "loop.example/g01146/laws.FnExactFirstFibonacci", spec := "fnExactFirstFibonacci", unfollowed := true, recurses := true, apart := false }
def FnExactFirstFibonacciSaid : Prop := fnExactFirstFibonacciRow.holds Try.pinned (OpenSpec.ofChange fnExactFirstFibonacciSpec)

/-- ITS FALSE NEIGHBOUR: 'it returns false'. Refute it at one input. -/
def fnExactFirstFibonacciWrong : ChangeSpec := { name := "fnExactFirstFibonacci", fn := fun _ => fun
  | [d] => { results := [.lit (.bool false)], args := [d] }
  | _ => none }
def FnExactFirstFibonacciWrongFalsely : Prop := fnExactFirstFibonacciRow.holds Try.pinned (OpenSpec.ofChange fnExactFirstFibonacciWrong)

/-- 'laws.FnExactGraphOf': WHATEVER THE INPUT: true; the input reads as it did. -/
def fnExactGraphOfSpec : ChangeSpec := { name := "fnExactGraphOf", fn := fun _ => fun
  | [d1, d2, d3] => { results := [.lit (.bool true)], args := [d1, d2, d3] }
  | _ => none }
def fnExactGraphOfRow : OpenClaim := { program := "ytmkdikoogbedkaa", sum := "5587263c02e858b3503a95f4dbe6eca38ddf498733f90e2594a97cea9413a811", func := "loop.example/g01146/laws.FnExactGraphOf", spec := "fnExactGraphOf", apart := false }
def FnExactGraphOfSaid : Prop := fnExactGraphOfRow.holds Try.pinned (OpenSpec.ofChange fnExactGraphOfSpec)

/-- ITS FALSE NEIGHBOUR: 'it returns false'. Refute it at one input. -/
def fnExactGraphOfWrong : ChangeSpec := { name := "fnExactGraphOf", fn := fun _ => fun
  | [d1, d2, d3] => { results := [.lit (.bool false)], args := [d1, d2, d3] }
  | _ => none }
def FnExactGraphOfWrongFalsely : Prop := fnExactGraphOfRow.holds Try.pinned (OpenSpec.ofChange fnExactGraphOfWrong)

/-- 'laws.FnExactEdgesOf': WHATEVER THE INPUT: true; the input reads as it did. -/
def fnExactEdgesOfSpec : ChangeSpec := { name := "fnExactEdgesOf", fn := fun _ => fun
  | [d] => { results := [.lit (.bool true)], args := [d] }
  | _ => none }
def fnExactEdgesOfRow : OpenClaim := { program := "ytmkdikoogbedkaa", sum := "5587263c02e858b3503a95f4dbe6eca38ddf498733f90e2594a97cea9413a811", func := "loop.example/g01146/laws.FnExactEdgesOf", spec := "fnExactEdgesOf", apart := false }
def FnExactEdgesOfSaid : Prop := fnExactEdgesOfRow.holds Try.pinned (OpenSpec.ofChange fnExactEdgesOfSpec)

/-- ITS FALSE NEIGHBOUR: 'it returns false'. Refute it at one input. -/
def fnExactEdgesOfWrong : ChangeSpec := { name := "fnExactEdgesOf", fn := fun _ => fun
  | [d] => { results := [.lit (.bool false)], args := [d] }
  | _ => none }
def FnExactEdgesOfWrongFalsely : Prop := fnExactEdgesOfRow.holds Try.pinned (OpenSpec.ofChange fnExactEdgesOfWrong)

/- THE SECOND FORM. 'bulk': how many values and letters a reading holds, each counted each time it is reached (what is shared counts as often as it is met; a slice's spare places count too). A statement '..UptoSaid' is the law's where the arguments, and the package variables that the reading takes, are together of bulk at most 1048576: NARROWER than '..Said'. Prove '..Said' where nothing that the law and all that it calls make is longer than what came in: it says more and counts as full. Else prove '..UptoSaid'. A law counts once. -/
mutual
def uptoBulk {H : Type} : DataW H → Nat
  | .lit (.string bytes) => bytes.length + 1
  | .lit _ => 1
  | .nil => 1
  | .ptr d => uptoBulk d + 1
  | .slice elems spare => uptoBulkAll elems + uptoBulkAll spare + 1
  | .agg parts => uptoBulkAll parts + 1
  | .iface _ d => uptoBulk d + 1
  | .map entries => uptoBulkEntries entries + 1
  | .held _ => 1
def uptoBulkAll {H : Type} : List (DataW H) → Nat
  | [] => 0
  | d :: r => uptoBulk d + uptoBulkAll r
def uptoBulkEntries {H : Type} : List (Lit × DataW H) → Nat
  | [] => 0
  | x :: r => uptoBulkEntry x + uptoBulkEntries r
def uptoBulkEntry {H : Type} : Lit × DataW H → Nat
  | (.string bytes, d) => bytes.length + uptoBulk d + 1
  | (_, d) => uptoBulk d + 1
 end
def uptoSmall : (H : Type) → List (DataW H) → Bool := fun _ ds => decide (uptoBulkAll ds ≤ 1048576)
def OpenSpec.upto (s : _root_.Go.ChangeSpec) : _root_.Go.OpenSpec := { _root_.Go.OpenSpec.ofChange s with cond := some uptoSmall }

/-- 'laws.FnExactDegreeOf', WHERE WHAT IT READS IS OF BULK AT MOST 1048576: true; the input reads as it did. -/
def fnExactDegreeOfUptoRow : OpenClaim := { program := "ytmkdikoogbedkaa", sum := "5587263c02e858b3503a95f4dbe6eca38ddf498733f90e2594a97cea9413a811", func := "loop.example/g01146/laws.FnExactDegreeOf", spec := "fnExactDegreeOf", apart := false, narrowed := true }
def FnExactDegreeOfUptoSaid : Prop := fnExactDegreeOfUptoRow.holds Try.pinned (OpenSpec.upto fnExactDegreeOfSpec)

/-- 'laws.FnExactDividePoly', WHERE WHAT IT READS IS OF BULK AT MOST 1048576: true; the input reads as it did. -/
def fnExactDividePolyUptoRow : OpenClaim := { program := "ytmkdikoogbedkaa", sum := "5587263c02e858b3503a95f4dbe6eca38ddf498733f90e2594a97cea9413a811", func := "loop.example/g01146/laws.FnExactDividePoly", spec := "fnExactDividePoly", apart := false, narrowed := true }
def FnExactDividePolyUptoSaid : Prop := fnExactDividePolyUptoRow.holds Try.pinned (OpenSpec.upto fnExactDividePolySpec)

/-- 'laws.FnExactGcdPoly', WHERE WHAT IT READS IS OF BULK AT MOST 1048576: true; the input reads as it did. -/
def fnExactGcdPolyUptoRow : OpenClaim := { program := "ytmkdikoogbedkaa", sum := "5587263c02e858b3503a95f4dbe6eca38ddf498733f90e2594a97cea9413a811", func := "loop.example/g01146/laws.FnExactGcdPoly", spec := "fnExactGcdPoly", apart := false, narrowed := true }
def FnExactGcdPolyUptoSaid : Prop := fnExactGcdPolyUptoRow.holds Try.pinned (OpenSpec.upto fnExactGcdPolySpec)

/-- 'laws.FnExactShiftPoly', WHERE WHAT IT READS IS OF BULK AT MOST 1048576: true; the input reads as it did. -/
def fnExactShiftPolyUptoRow : OpenClaim := { program := "ytmkdikoogbedkaa", sum := "5587263c02e858b3503a95f4dbe6eca38ddf498733f90e2594a97cea9413a811", func := "loop.example/g01146/laws.FnExactShiftPoly", spec := "fnExactShiftPoly", apart := false, narrowed := true }
def FnExactShiftPolyUptoSaid : Prop := fnExactShiftPolyUptoRow.holds Try.pinned (OpenSpec.upto fnExactShiftPolySpec)

/-- 'laws.FnExactReversedPoly', WHERE WHAT IT READS IS OF BULK AT MOST 1048576: true; the input reads as it did. -/
def fnExactReversedPolyUptoRow : OpenClaim := { program := "ytmkdikoogbedkaa", sum := "5587263c02e858b3503a95f4dbe6eca38ddf498733f90e2594a97cea9413a811", func := "loop.example/g01146/laws.FnExactReversedPoly", spec := "fnExactReversedPoly", apart := false, narrowed := true }
def FnExactReversedPolyUptoSaid : Prop := fnExactReversedPolyUptoRow.holds Try.pinned (OpenSpec.upto fnExactReversedPolySpec)

/-- 'laws.FnExactDerivativeOf', WHERE WHAT IT READS IS OF BULK AT MOST 1048576: true; the input reads as it did. -/
def fnExactDerivativeOfUptoRow : OpenClaim := { program := "ytmkdikoogbedkaa", sum := "5587263c02e858b3503a95f4dbe6eca38ddf498733f90e2594a97cea9413a811", func := "loop.example/g01146/laws.FnExactDerivativeOf", spec := "fnExactDerivativeOf", apart := false, narrowed := true }
def FnExactDerivativeOfUptoSaid : Prop := fnExactDerivativeOfUptoRow.holds Try.pinned (OpenSpec.upto fnExactDerivativeOfSpec)

/-- 'laws.FnExactIsIrreducible', WHERE WHAT IT READS IS OF BULK AT MOST 1048576: true; the input reads as it did. -/
def fnExactIsIrreducibleUptoRow : OpenClaim := { program := "ytmkdikoogbedkaa", sum := "5587263c02e858b3503a95f4dbe6eca38ddf498733f90e2594a97cea9413a811", func := "loop.example/g01146/laws.FnExactIsIrreducible", spec := "fnExactIsIrreducible", apart := false, narrowed := true }
def FnExactIsIrreducibleUptoSaid : Prop := fnExactIsIrreducibleUptoRow.holds Try.pinned (OpenSpec.upto fnExactIsIrreducibleSpec)

/-- 'laws.FnExactFactorsOf', WHERE WHAT IT READS IS OF BULK AT MOST 1048576: true; the input reads as it did. -/
def fnExactFactorsOfUptoRow : OpenClaim := { program := "ytmkdikoogbedkaa", sum := "5587263c02e858b3503a95f4dbe6eca38ddf498733f90e2594a97cea9413a811", func := "loop.example/g01146/laws.FnExactFactorsOf", spec := "fnExactFactorsOf", apart := false, narrowed := true }
def FnExactFactorsOfUptoSaid : Prop := fnExactFactorsOfUptoRow.holds Try.pinned (OpenSpec.upto fnExactFactorsOfSpec)

/-- 'laws.FnExactOrderOfPoly', WHERE WHAT IT READS IS OF BULK AT MOST 1048576: true; the input reads as it did. -/
def fnExactOrderOfPolyUptoRow : OpenClaim := { program := "ytmkdikoogbedkaa", sum := "5587263c02e858b3503a95f4dbe6eca38ddf498733f90e2594a97cea9413a811", func := "loop.example/g01146/laws.FnExactOrderOfPoly", spec := "fnExactOrderOfPoly", apart := false, narrowed := true }
def FnExactOrderOfPolyUptoSaid : Prop := fnExactOrderOfPolyUptoRow.holds Try.pinned (OpenSpec.upto fnExactOrderOfPolySpec)

/-- 'laws.FnExactFibonacciPoly', WHERE WHAT IT READS IS OF BULK AT MOST 1048576: true; the input reads as it did. -/
def fnExactFibonacciPolyUptoRow : OpenClaim := { program := "ytmkdikoogbedkaa", sum := "5587263c02e858b3503a95f4dbe6eca38ddf498733f90e2594a97cea9413a811", func := "loop.example/g01146/laws.FnExactFibonacciPoly", spec := "fnExactFibonacciPoly", unfollowed := true, recurses := true, apart := false, narrowed := true }
def FnExactFibonacciPolyUptoSaid : Prop := fnExactFibonacciPolyUptoRow.holds Try.pinned (OpenSpec.upto fnExactFibonacciPolySpec)

/-- 'laws.FnExactFirstFibonacci', WHERE WHAT IT READS IS OF BULK AT MOST 1048576: true; the input reads as it did. -/
def fnExactFirstFibonacciUptoRow : OpenClaim := { program := "ytmkdikoogbedkaa", sum := "5587263c02e858b3503a95f4dbe6eca38ddf498733f90e2594a97cea9413a811", func := "loop.example/g01146/laws.FnExactFirstFibonacci", spec := "fnExactFirstFibonacci", unfollowed := true, recurses := true, apart := false, narrowed := true }
def FnExactFirstFibonacciUptoSaid : Prop := fnExactFirstFibonacciUptoRow.holds Try.pinned (OpenSpec.upto fnExactFirstFibonacciSpec)

/-- 'laws.FnExactGraphOf', WHERE WHAT IT READS IS OF BULK AT MOST 1048576: true; the input reads as it did. -/
def fnExactGraphOfUptoRow : OpenClaim := { program := "ytmkdikoogbedkaa", sum := "5587263c02e858b3503a95f4dbe6eca38ddf498733f90e2594a97cea9413a811", func := "loop.example/g01146/laws.FnExactGraphOf", spec := "fnExactGraphOf", apart := false, narrowed := true }
def FnExactGraphOfUptoSaid : Prop := fnExactGraphOfUptoRow.holds Try.pinned (OpenSpec.upto fnExactGraphOfSpec)

/-- 'laws.FnExactEdgesOf', WHERE WHAT IT READS IS OF BULK AT MOST 1048576: true; the input reads as it did. -/
def fnExactEdgesOfUptoRow : OpenClaim := { program := "ytmkdikoogbedkaa", sum := "5587263c02e858b3503a95f4dbe6eca38ddf498733f90e2594a97cea9413a811", func := "loop.example/g01146/laws.FnExactEdgesOf", spec := "fnExactEdgesOf", apart := false, narrowed := true }
def FnExactEdgesOfUptoSaid : Prop := fnExactEdgesOfUptoRow.holds Try.pinned (OpenSpec.upto fnExactEdgesOfSpec)

end Rows
end Go.Proofs.Ytmkdikoogbedkaa
