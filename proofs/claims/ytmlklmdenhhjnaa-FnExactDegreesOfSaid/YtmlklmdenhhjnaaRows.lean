/-
  No cell of these rows narrows 'for every input' (looked for: loops, veiled, ifaces, maps, wideKeys, modest, calm, conditions, laid).
  DERIVED. THE GIVEN ROWS OF THIS SEAT. 14 by the template 'for every input the law returns true; each argument reads behind the call as it read before'; 0 by the template 'total and deterministic' (their statements: YtmlklmdenhhjnaaTotals.lean).
  GIVEN WITH THE SEED: the statements are not yours to turn. If you find one false, say at which input.
  Laid BY PROGRAM, IN A SANDBOX (cutbox-rows.mjs): the forced cells as the released guide's own fill.sh prints them over the translation 49c73ee94bb5a502… (all of the seat's roots in one cut). By AI agents, Wed Nov 11 2026. No macro, syntax, notation, axiom, sorry.
-/
import Derived.Test.YtmlklmdenhhjnaaChecked
import GoSem.Claim
import GoSem.ClaimJoined
import GoSem.ClaimMapViews
import Derived.JoinedTies
import Derived.KernelRfl
namespace Go.Proofs.Ytmlklmdenhhjnaa
/- THE CELL 'sum', in the pinned program and in every row, IS THE sha256 OF THE DUMP (.gsa) THAT YtmlklmdenhhjnaaProg.lean LOADS. Nothing in Lean hashes anything: it is a label: what it is worth is what the hold of that sum in a sandbox is worth. -/
noncomputable def Try.pinned : Pinned := { name := "ytmlklmdenhhjnaa", sum := "49c73ee94bb5a502c72d1fac52a49deebfb16008b332bbe79f42429aec22cdd5", checked := Try.checked }
namespace Rows
def none {H : Type} : Left H := { results := [], args := [] }

/-- 'laws.FnExactIsGraph': WHATEVER THE INPUT: true; the input reads as it did. -/
def fnExactIsGraphSpec : ChangeSpec := { name := "fnExactIsGraph", fn := fun _ => fun
  | [d] => { results := [.lit (.bool true)], args := [d] }
  | _ => none }
def fnExactIsGraphRow : OpenClaim := { program := "ytmlklmdenhhjnaa", sum := "49c73ee94bb5a502c72d1fac52a49deebfb16008b332bbe79f42429aec22cdd5", func := "loop.example/g01146/laws.FnExactIsGraph", spec := "fnExactIsGraph", apart := false }
def FnExactIsGraphSaid : Prop := fnExactIsGraphRow.holds Try.pinned (OpenSpec.ofChange fnExactIsGraphSpec)

/-- ITS FALSE NEIGHBOUR: 'it returns false'. Refute it at one input. -/
def fnExactIsGraphWrong : ChangeSpec := { name := "fnExactIsGraph", fn := fun _ => fun
  | [d] => { results := [.lit (.bool false)], args := [d] }
  | _ => none }
def FnExactIsGraphWrongFalsely : Prop := fnExactIsGraphRow.holds Try.pinned (OpenSpec.ofChange fnExactIsGraphWrong)

/-- 'laws.FnExactGraphOf': WHATEVER THE INPUT: true; the input reads as it did. -/
def fnExactGraphOfSpec : ChangeSpec := { name := "fnExactGraphOf", fn := fun _ => fun
  | [d1, d2, d3] => { results := [.lit (.bool true)], args := [d1, d2, d3] }
  | _ => none }
def fnExactGraphOfRow : OpenClaim := { program := "ytmlklmdenhhjnaa", sum := "49c73ee94bb5a502c72d1fac52a49deebfb16008b332bbe79f42429aec22cdd5", func := "loop.example/g01146/laws.FnExactGraphOf", spec := "fnExactGraphOf", apart := false }
def FnExactGraphOfSaid : Prop := fnExactGraphOfRow.holds Try.pinned (OpenSpec.ofChange fnExactGraphOfSpec)

/-- ITS FALSE NEIGHBOUR: 'it returns false'. Refute it at one input. -/
def fnExactGraphOfWrong : ChangeSpec := { name := "fnExactGraphOf", fn := fun _ => fun
  | [d1, d2, d3] => { results := [.lit (.bool false)], args := [d1, d2, d3] }
  | _ => none }
def FnExactGraphOfWrongFalsely : Prop := fnExactGraphOfRow.holds Try.pinned (OpenSpec.ofChange fnExactGraphOfWrong)

/-- 'laws.FnExactEdgesOf': WHATEVER THE INPUT: true; the input reads as it did. -/
def fnExactEdgesOfSpec : ChangeSpec := { name := "fnExactEdgesOf", fn := fun _ => fun
  | [d] => { results := [.lit (.bool true)], args := [d] }
  | _ => none }
def fnExactEdgesOfRow : OpenClaim := { program := "ytmlklmdenhhjnaa", sum := "49c73ee94bb5a502c72d1fac52a49deebfb16008b332bbe79f42429aec22cdd5", func := "loop.example/g01146/laws.FnExactEdgesOf", spec := "fnExactEdgesOf", apart := false }
def FnExactEdgesOfSaid : Prop := fnExactEdgesOfRow.holds Try.pinned (OpenSpec.ofChange fnExactEdgesOfSpec)

/-- ITS FALSE NEIGHBOUR: 'it returns false'. Refute it at one input. -/
def fnExactEdgesOfWrong : ChangeSpec := { name := "fnExactEdgesOf", fn := fun _ => fun
  | [d] => { results := [.lit (.bool false)], args := [d] }
  | _ => none }
def FnExactEdgesOfWrongFalsely : Prop := fnExactEdgesOfRow.holds Try.pinned (OpenSpec.ofChange fnExactEdgesOfWrong)

/-- 'laws.FnExactTogglesOf': WHATEVER THE INPUT: true; the input reads as it did. -/
def fnExactTogglesOfSpec : ChangeSpec := { name := "fnExactTogglesOf", fn := fun _ => fun
  | [d1, d2] => { results := [.lit (.bool true)], args := [d1, d2] }
  | _ => none }
def fnExactTogglesOfRow : OpenClaim := { program := "ytmlklmdenhhjnaa", sum := "49c73ee94bb5a502c72d1fac52a49deebfb16008b332bbe79f42429aec22cdd5", func := "loop.example/g01146/laws.FnExactTogglesOf", spec := "fnExactTogglesOf", apart := false }
def FnExactTogglesOfSaid : Prop := fnExactTogglesOfRow.holds Try.pinned (OpenSpec.ofChange fnExactTogglesOfSpec)

/-- ITS FALSE NEIGHBOUR: 'it returns false'. Refute it at one input. -/
def fnExactTogglesOfWrong : ChangeSpec := { name := "fnExactTogglesOf", fn := fun _ => fun
  | [d1, d2] => { results := [.lit (.bool false)], args := [d1, d2] }
  | _ => none }
def FnExactTogglesOfWrongFalsely : Prop := fnExactTogglesOfRow.holds Try.pinned (OpenSpec.ofChange fnExactTogglesOfWrong)

/-- 'laws.FnExactPressButton': WHATEVER THE INPUT: true; the input reads as it did. -/
def fnExactPressButtonSpec : ChangeSpec := { name := "fnExactPressButton", fn := fun _ => fun
  | [d1, d2, d3] => { results := [.lit (.bool true)], args := [d1, d2, d3] }
  | _ => none }
def fnExactPressButtonRow : OpenClaim := { program := "ytmlklmdenhhjnaa", sum := "49c73ee94bb5a502c72d1fac52a49deebfb16008b332bbe79f42429aec22cdd5", func := "loop.example/g01146/laws.FnExactPressButton", spec := "fnExactPressButton", apart := false }
def FnExactPressButtonSaid : Prop := fnExactPressButtonRow.holds Try.pinned (OpenSpec.ofChange fnExactPressButtonSpec)

/-- ITS FALSE NEIGHBOUR: 'it returns false'. Refute it at one input. -/
def fnExactPressButtonWrong : ChangeSpec := { name := "fnExactPressButton", fn := fun _ => fun
  | [d1, d2, d3] => { results := [.lit (.bool false)], args := [d1, d2, d3] }
  | _ => none }
def FnExactPressButtonWrongFalsely : Prop := fnExactPressButtonRow.holds Try.pinned (OpenSpec.ofChange fnExactPressButtonWrong)

/-- 'laws.FnExactPressWord': WHATEVER THE INPUT: true; the input reads as it did. -/
def fnExactPressWordSpec : ChangeSpec := { name := "fnExactPressWord", fn := fun _ => fun
  | [d1, d2, d3] => { results := [.lit (.bool true)], args := [d1, d2, d3] }
  | _ => none }
def fnExactPressWordRow : OpenClaim := { program := "ytmlklmdenhhjnaa", sum := "49c73ee94bb5a502c72d1fac52a49deebfb16008b332bbe79f42429aec22cdd5", func := "loop.example/g01146/laws.FnExactPressWord", spec := "fnExactPressWord", apart := false }
def FnExactPressWordSaid : Prop := fnExactPressWordRow.holds Try.pinned (OpenSpec.ofChange fnExactPressWordSpec)

/-- ITS FALSE NEIGHBOUR: 'it returns false'. Refute it at one input. -/
def fnExactPressWordWrong : ChangeSpec := { name := "fnExactPressWord", fn := fun _ => fun
  | [d1, d2, d3] => { results := [.lit (.bool false)], args := [d1, d2, d3] }
  | _ => none }
def FnExactPressWordWrongFalsely : Prop := fnExactPressWordRow.holds Try.pinned (OpenSpec.ofChange fnExactPressWordWrong)

/-- 'laws.FnExactPathGraph': WHATEVER THE INPUT: true; the input reads as it did. -/
def fnExactPathGraphSpec : ChangeSpec := { name := "fnExactPathGraph", fn := fun _ => fun
  | [d1, d2] => { results := [.lit (.bool true)], args := [d1, d2] }
  | _ => none }
def fnExactPathGraphRow : OpenClaim := { program := "ytmlklmdenhhjnaa", sum := "49c73ee94bb5a502c72d1fac52a49deebfb16008b332bbe79f42429aec22cdd5", func := "loop.example/g01146/laws.FnExactPathGraph", spec := "fnExactPathGraph", apart := false }
def FnExactPathGraphSaid : Prop := fnExactPathGraphRow.holds Try.pinned (OpenSpec.ofChange fnExactPathGraphSpec)

/-- ITS FALSE NEIGHBOUR: 'it returns false'. Refute it at one input. -/
def fnExactPathGraphWrong : ChangeSpec := { name := "fnExactPathGraph", fn := fun _ => fun
  | [d1, d2] => { results := [.lit (.bool false)], args := [d1, d2] }
  | _ => none }
def FnExactPathGraphWrongFalsely : Prop := fnExactPathGraphRow.holds Try.pinned (OpenSpec.ofChange fnExactPathGraphWrong)

/-- 'laws.FnExactCircleGraph': WHATEVER THE INPUT: true; the input reads as it did. -/
def fnExactCircleGraphSpec : ChangeSpec := { name := "fnExactCircleGraph", fn := fun _ => fun
  | [d1, d2] => { results := [.lit (.bool true)], args := [d1, d2] }
  | _ => none }
def fnExactCircleGraphRow : OpenClaim := { program := "ytmlklmdenhhjnaa", sum := "49c73ee94bb5a502c72d1fac52a49deebfb16008b332bbe79f42429aec22cdd5", func := "loop.example/g01146/laws.FnExactCircleGraph", spec := "fnExactCircleGraph", apart := false }
def FnExactCircleGraphSaid : Prop := fnExactCircleGraphRow.holds Try.pinned (OpenSpec.ofChange fnExactCircleGraphSpec)

/-- ITS FALSE NEIGHBOUR: 'it returns false'. Refute it at one input. -/
def fnExactCircleGraphWrong : ChangeSpec := { name := "fnExactCircleGraph", fn := fun _ => fun
  | [d1, d2] => { results := [.lit (.bool false)], args := [d1, d2] }
  | _ => none }
def FnExactCircleGraphWrongFalsely : Prop := fnExactCircleGraphRow.holds Try.pinned (OpenSpec.ofChange fnExactCircleGraphWrong)

/-- 'laws.FnExactGridGraph': WHATEVER THE INPUT: true; the input reads as it did. -/
def fnExactGridGraphSpec : ChangeSpec := { name := "fnExactGridGraph", fn := fun _ => fun
  | [d1, d2, d3] => { results := [.lit (.bool true)], args := [d1, d2, d3] }
  | _ => none }
def fnExactGridGraphRow : OpenClaim := { program := "ytmlklmdenhhjnaa", sum := "49c73ee94bb5a502c72d1fac52a49deebfb16008b332bbe79f42429aec22cdd5", func := "loop.example/g01146/laws.FnExactGridGraph", spec := "fnExactGridGraph", apart := false }
def FnExactGridGraphSaid : Prop := fnExactGridGraphRow.holds Try.pinned (OpenSpec.ofChange fnExactGridGraphSpec)

/-- ITS FALSE NEIGHBOUR: 'it returns false'. Refute it at one input. -/
def fnExactGridGraphWrong : ChangeSpec := { name := "fnExactGridGraph", fn := fun _ => fun
  | [d1, d2, d3] => { results := [.lit (.bool false)], args := [d1, d2, d3] }
  | _ => none }
def FnExactGridGraphWrongFalsely : Prop := fnExactGridGraphRow.holds Try.pinned (OpenSpec.ofChange fnExactGridGraphWrong)

/-- 'laws.FnExactTorusGraph': WHATEVER THE INPUT: true; the input reads as it did. -/
def fnExactTorusGraphSpec : ChangeSpec := { name := "fnExactTorusGraph", fn := fun _ => fun
  | [d1, d2, d3] => { results := [.lit (.bool true)], args := [d1, d2, d3] }
  | _ => none }
def fnExactTorusGraphRow : OpenClaim := { program := "ytmlklmdenhhjnaa", sum := "49c73ee94bb5a502c72d1fac52a49deebfb16008b332bbe79f42429aec22cdd5", func := "loop.example/g01146/laws.FnExactTorusGraph", spec := "fnExactTorusGraph", apart := false }
def FnExactTorusGraphSaid : Prop := fnExactTorusGraphRow.holds Try.pinned (OpenSpec.ofChange fnExactTorusGraphSpec)

/-- ITS FALSE NEIGHBOUR: 'it returns false'. Refute it at one input. -/
def fnExactTorusGraphWrong : ChangeSpec := { name := "fnExactTorusGraph", fn := fun _ => fun
  | [d1, d2, d3] => { results := [.lit (.bool false)], args := [d1, d2, d3] }
  | _ => none }
def FnExactTorusGraphWrongFalsely : Prop := fnExactTorusGraphRow.holds Try.pinned (OpenSpec.ofChange fnExactTorusGraphWrong)

/-- 'laws.FnExactFullGraph': WHATEVER THE INPUT: true; the input reads as it did. -/
def fnExactFullGraphSpec : ChangeSpec := { name := "fnExactFullGraph", fn := fun _ => fun
  | [d1, d2] => { results := [.lit (.bool true)], args := [d1, d2] }
  | _ => none }
def fnExactFullGraphRow : OpenClaim := { program := "ytmlklmdenhhjnaa", sum := "49c73ee94bb5a502c72d1fac52a49deebfb16008b332bbe79f42429aec22cdd5", func := "loop.example/g01146/laws.FnExactFullGraph", spec := "fnExactFullGraph", apart := false }
def FnExactFullGraphSaid : Prop := fnExactFullGraphRow.holds Try.pinned (OpenSpec.ofChange fnExactFullGraphSpec)

/-- ITS FALSE NEIGHBOUR: 'it returns false'. Refute it at one input. -/
def fnExactFullGraphWrong : ChangeSpec := { name := "fnExactFullGraph", fn := fun _ => fun
  | [d1, d2] => { results := [.lit (.bool false)], args := [d1, d2] }
  | _ => none }
def FnExactFullGraphWrongFalsely : Prop := fnExactFullGraphRow.holds Try.pinned (OpenSpec.ofChange fnExactFullGraphWrong)

/-- 'laws.FnExactWithOwn': WHATEVER THE INPUT: true; the input reads as it did. -/
def fnExactWithOwnSpec : ChangeSpec := { name := "fnExactWithOwn", fn := fun _ => fun
  | [d1, d2] => { results := [.lit (.bool true)], args := [d1, d2] }
  | _ => none }
def fnExactWithOwnRow : OpenClaim := { program := "ytmlklmdenhhjnaa", sum := "49c73ee94bb5a502c72d1fac52a49deebfb16008b332bbe79f42429aec22cdd5", func := "loop.example/g01146/laws.FnExactWithOwn", spec := "fnExactWithOwn", apart := false }
def FnExactWithOwnSaid : Prop := fnExactWithOwnRow.holds Try.pinned (OpenSpec.ofChange fnExactWithOwnSpec)

/-- ITS FALSE NEIGHBOUR: 'it returns false'. Refute it at one input. -/
def fnExactWithOwnWrong : ChangeSpec := { name := "fnExactWithOwn", fn := fun _ => fun
  | [d1, d2] => { results := [.lit (.bool false)], args := [d1, d2] }
  | _ => none }
def FnExactWithOwnWrongFalsely : Prop := fnExactWithOwnRow.holds Try.pinned (OpenSpec.ofChange fnExactWithOwnWrong)

/-- 'laws.FnExactJoinGraphs': WHATEVER THE INPUT: true; the input reads as it did. -/
def fnExactJoinGraphsSpec : ChangeSpec := { name := "fnExactJoinGraphs", fn := fun _ => fun
  | [d1, d2] => { results := [.lit (.bool true)], args := [d1, d2] }
  | _ => none }
def fnExactJoinGraphsRow : OpenClaim := { program := "ytmlklmdenhhjnaa", sum := "49c73ee94bb5a502c72d1fac52a49deebfb16008b332bbe79f42429aec22cdd5", func := "loop.example/g01146/laws.FnExactJoinGraphs", spec := "fnExactJoinGraphs", apart := false }
def FnExactJoinGraphsSaid : Prop := fnExactJoinGraphsRow.holds Try.pinned (OpenSpec.ofChange fnExactJoinGraphsSpec)

/-- ITS FALSE NEIGHBOUR: 'it returns false'. Refute it at one input. -/
def fnExactJoinGraphsWrong : ChangeSpec := { name := "fnExactJoinGraphs", fn := fun _ => fun
  | [d1, d2] => { results := [.lit (.bool false)], args := [d1, d2] }
  | _ => none }
def FnExactJoinGraphsWrongFalsely : Prop := fnExactJoinGraphsRow.holds Try.pinned (OpenSpec.ofChange fnExactJoinGraphsWrong)

/-- 'laws.FnExactDegreesOf': WHATEVER THE INPUT: true; the input reads as it did. -/
def fnExactDegreesOfSpec : ChangeSpec := { name := "fnExactDegreesOf", fn := fun _ => fun
  | [d] => { results := [.lit (.bool true)], args := [d] }
  | _ => none }
def fnExactDegreesOfRow : OpenClaim := { program := "ytmlklmdenhhjnaa", sum := "49c73ee94bb5a502c72d1fac52a49deebfb16008b332bbe79f42429aec22cdd5", func := "loop.example/g01146/laws.FnExactDegreesOf", spec := "fnExactDegreesOf", apart := false }
def FnExactDegreesOfSaid : Prop := fnExactDegreesOfRow.holds Try.pinned (OpenSpec.ofChange fnExactDegreesOfSpec)

/-- ITS FALSE NEIGHBOUR: 'it returns false'. Refute it at one input. -/
def fnExactDegreesOfWrong : ChangeSpec := { name := "fnExactDegreesOf", fn := fun _ => fun
  | [d] => { results := [.lit (.bool false)], args := [d] }
  | _ => none }
def FnExactDegreesOfWrongFalsely : Prop := fnExactDegreesOfRow.holds Try.pinned (OpenSpec.ofChange fnExactDegreesOfWrong)

/- THE SECOND FORM. 'bulk': how many values and letters a reading holds, each counted each time it is reached (what is shared counts as often as it is met; a slice's spare places count too). A statement '..UptoSaid' is the law's where the arguments, and the package variables that the reading takes, are together of bulk at most 1048576: NARROWER than '..Said'. Prove '..Said' where nothing that the law and all that it calls make is longer than what came in: it says more and counts as full. Else prove '..UptoSaid'. A law counts once. -/
mutual
def uptoBulk {H : Type} : DataW H → Nat
  | .lit (.string bytes) => bytes.length + 1
  | .lit _ => 1
  | .nil => 1
  | .ptr d => uptoBulk d + 1
  | .slice elems spare => uptoBulkAll elems + uptoBulkAll spare + 1
  | .agg parts => uptoBulkAll parts + 1
  | .iface _ d => uptoBulk d + 1
  | .map entries => uptoBulkEntries entries + 1
  | .held _ => 1
def uptoBulkAll {H : Type} : List (DataW H) → Nat
  | [] => 0
  | d :: r => uptoBulk d + uptoBulkAll r
def uptoBulkEntries {H : Type} : List (Lit × DataW H) → Nat
  | [] => 0
  | x :: r => uptoBulkEntry x + uptoBulkEntries r
def uptoBulkEntry {H : Type} : Lit × DataW H → Nat
  | (.string bytes, d) => bytes.length + uptoBulk d + 1
  | (_, d) => uptoBulk d + 1
 end
def uptoSmall : (H : Type) → List (DataW H) → Bool := fun _ ds => decide (uptoBulkAll ds ≤ 1048576)
def OpenSpec.upto (s : _root_.Go.ChangeSpec) : _root_.Go.OpenSpec := { _root_.Go.OpenSpec.ofChange s with cond := some uptoSmall }

/-- 'laws.FnExactIsGraph', WHERE WHAT IT READS IS OF BULK AT MOST 1048576: true; the input reads as it did. -/
def fnExactIsGraphUptoRow : OpenClaim := { program := "ytmlklmdenhhjnaa", sum := "49c73ee94bb5a502c72d1fac52a49deebfb16008b332bbe79f42429aec22cdd5", func := "loop.example/g01146/laws.FnExactIsGraph", spec := "fnExactIsGraph", apart := false, narrowed := true }
def FnExactIsGraphUptoSaid : Prop := fnExactIsGraphUptoRow.holds Try.pinned (OpenSpec.upto fnExactIsGraphSpec)

/-- 'laws.FnExactGraphOf', WHERE WHAT IT READS IS OF BULK AT MOST 1048576: true; the input reads as it did. -/
def fnExactGraphOfUptoRow : OpenClaim := { program := "ytmlklmdenhhjnaa", sum := "49c73ee94bb5a502c72d1fac52a49deebfb16008b332bbe79f42429aec22cdd5", func := "loop.example/g01146/laws.FnExactGraphOf", spec := "fnExactGraphOf", apart := false, narrowed := true }
def FnExactGraphOfUptoSaid : Prop := fnExactGraphOfUptoRow.holds Try.pinned (OpenSpec.upto fnExactGraphOfSpec)

/-- 'laws.FnExactEdgesOf', WHERE WHAT IT READS IS OF BULK AT MOST 1048576: true; the input reads as it did. -/
def fnExactEdgesOfUptoRow : OpenClaim := { program := "ytmlklmdenhhjnaa", sum := "49c73ee94bb5a502c72d1fac52a49deebfb16008b332bbe79f42429aec22cdd5", func := "loop.example/g01146/laws.FnExactEdgesOf", spec := "fnExactEdgesOf", apart := false, narrowed := true }
def FnExactEdgesOfUptoSaid : Prop := fnExactEdgesOfUptoRow.holds Try.pinned (OpenSpec.upto fnExactEdgesOfSpec)

/-- 'laws.FnExactTogglesOf', WHERE WHAT IT READS IS OF BULK AT MOST 1048576: true; the input reads as it did. -/
def fnExactTogglesOfUptoRow : OpenClaim := { program := "ytmlklmdenhhjnaa", sum := "49c73ee94bb5a502c72d1fac52a49deebfb16008b332bbe79f42429aec22cdd5", func := "loop.example/g01146/laws.FnExactTogglesOf", spec := "fnExactTogglesOf", apart := false, narrowed := true }
def FnExactTogglesOfUptoSaid : Prop := fnExactTogglesOfUptoRow.holds Try.pinned (OpenSpec.upto fnExactTogglesOfSpec)

/-- 'laws.FnExactPressButton', WHERE WHAT IT READS IS OF BULK AT MOST 1048576: true; the input reads as it did. -/
def fnExactPressButtonUptoRow : OpenClaim := { program := "ytmlklmdenhhjnaa", sum := "49c73ee94bb5a502c72d1fac52a49deebfb16008b332bbe79f42429aec22cdd5", func := "loop.example/g01146/laws.FnExactPressButton", spec := "fnExactPressButton", apart := false, narrowed := true }
def FnExactPressButtonUptoSaid : Prop := fnExactPressButtonUptoRow.holds Try.pinned (OpenSpec.upto fnExactPressButtonSpec)

/-- 'laws.FnExactPressWord', WHERE WHAT IT READS IS OF BULK AT MOST 1048576: true; the input reads as it did. -/
def fnExactPressWordUptoRow : OpenClaim := { program := "ytmlklmdenhhjnaa", sum := "49c73ee94bb5a502c72d1fac52a49deebfb16008b332bbe79f42429aec22cdd5", func := "loop.example/g01146/laws.FnExactPressWord", spec := "fnExactPressWord", apart := false, narrowed := true }
def FnExactPressWordUptoSaid : Prop := fnExactPressWordUptoRow.holds Try.pinned (OpenSpec.upto fnExactPressWordSpec)

/-- 'laws.FnExactPathGraph', WHERE WHAT IT READS IS OF BULK AT MOST 1048576: true; the input reads as it did. -/
def fnExactPathGraphUptoRow : OpenClaim := { program := "ytmlklmdenhhjnaa", sum := "49c73ee94bb5a502c72d1fac52a49deebfb16008b332bbe79f42429aec22cdd5", func := "loop.example/g01146/laws.FnExactPathGraph", spec := "fnExactPathGraph", apart := false, narrowed := true }
def FnExactPathGraphUptoSaid : Prop := fnExactPathGraphUptoRow.holds Try.pinned (OpenSpec.upto fnExactPathGraphSpec)

/-- 'laws.FnExactCircleGraph', WHERE WHAT IT READS IS OF BULK AT MOST 1048576: true; the input reads as it did. -/
def fnExactCircleGraphUptoRow : OpenClaim := { program := "ytmlklmdenhhjnaa", sum := "49c73ee94bb5a502c72d1fac52a49deebfb16008b332bbe79f42429aec22cdd5", func := "loop.example/g01146/laws.FnExactCircleGraph", spec := "fnExactCircleGraph", apart := false, narrowed := true }
def FnExactCircleGraphUptoSaid : Prop := fnExactCircleGraphUptoRow.holds Try.pinned (OpenSpec.upto fnExactCircleGraphSpec)

/-- 'laws.FnExactGridGraph', WHERE WHAT IT READS IS OF BULK AT MOST 1048576: true; the input reads as it did. -/
def fnExactGridGraphUptoRow : OpenClaim := { program := "ytmlklmdenhhjnaa", sum := "49c73ee94bb5a502c72d1fac52a49deebfb16008b332bbe79f42429aec22cdd5", func := "loop.example/g01146/laws.FnExactGridGraph", spec := "fnExactGridGraph", apart := false, narrowed := true }
def FnExactGridGraphUptoSaid : Prop := fnExactGridGraphUptoRow.holds Try.pinned (OpenSpec.upto fnExactGridGraphSpec)

/-- 'laws.FnExactTorusGraph', WHERE WHAT IT READS IS OF BULK AT MOST 1048576: true; the input reads as it did. -/
def fnExactTorusGraphUptoRow : OpenClaim := { program := "ytmlklmdenhhjnaa", sum := "49c73ee94bb5a502c72d1fac52a49deebfb16008b332bbe79f42429aec22cdd5", func := "loop.example/g01146/laws.FnExactTorusGraph", spec := "fnExactTorusGraph", apart := false, narrowed := true }
def FnExactTorusGraphUptoSaid : Prop := fnExactTorusGraphUptoRow.holds Try.pinned (OpenSpec.upto fnExactTorusGraphSpec)

/-- 'laws.FnExactFullGraph', WHERE WHAT IT READS IS OF BULK AT MOST 1048576: true; the input reads as it did. -/
def fnExactFullGraphUptoRow : OpenClaim := { program := "ytmlklmdenhhjnaa", sum := "49c73ee94bb5a502c72d1fac52a49deebfb16008b332bbe79f42429aec22cdd5", func := "loop.example/g01146/laws.FnExactFullGraph", spec := "fnExactFullGraph", apart := false, narrowed := true }
def FnExactFullGraphUptoSaid : Prop := fnExactFullGraphUptoRow.holds Try.pinned (OpenSpec.upto fnExactFullGraphSpec)

/-- 'laws.FnExactWithOwn', WHERE WHAT IT READS IS OF BULK AT MOST 1048576: true; the input reads as it did. -/
def fnExactWithOwnUptoRow : OpenClaim := { program := "ytmlklmdenhhjnaa", sum := "49c73ee94bb5a502c72d1fac52a49deebfb16008b332bbe79f42429aec22cdd5", func := "loop.example/g01146/laws.FnExactWithOwn", spec := "fnExactWithOwn", apart := false, narrowed := true }
def FnExactWithOwnUptoSaid : Prop := fnExactWithOwnUptoRow.holds Try.pinned (OpenSpec.upto fnExactWithOwnSpec)

/-- 'laws.FnExactJoinGraphs', WHERE WHAT IT READS IS OF BULK AT MOST 1048576: true; the input reads as it did. -/
def fnExactJoinGraphsUptoRow : OpenClaim := { program := "ytmlklmdenhhjnaa", sum := "49c73ee94bb5a502c72d1fac52a49deebfb16008b332bbe79f42429aec22cdd5", func := "loop.example/g01146/laws.FnExactJoinGraphs", spec := "fnExactJoinGraphs", apart := false, narrowed := true }
def FnExactJoinGraphsUptoSaid : Prop := fnExactJoinGraphsUptoRow.holds Try.pinned (OpenSpec.upto fnExactJoinGraphsSpec)

/-- 'laws.FnExactDegreesOf', WHERE WHAT IT READS IS OF BULK AT MOST 1048576: true; the input reads as it did. -/
def fnExactDegreesOfUptoRow : OpenClaim := { program := "ytmlklmdenhhjnaa", sum := "49c73ee94bb5a502c72d1fac52a49deebfb16008b332bbe79f42429aec22cdd5", func := "loop.example/g01146/laws.FnExactDegreesOf", spec := "fnExactDegreesOf", apart := false, narrowed := true }
def FnExactDegreesOfUptoSaid : Prop := fnExactDegreesOfUptoRow.holds Try.pinned (OpenSpec.upto fnExactDegreesOfSpec)

end Rows
end Go.Proofs.Ytmlklmdenhhjnaa
