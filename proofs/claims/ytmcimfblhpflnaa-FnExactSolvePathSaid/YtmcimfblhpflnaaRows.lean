/-
  No cell of these rows narrows 'for every input' (looked for: loops, veiled, ifaces, maps, wideKeys, modest, calm, conditions, laid).
  DERIVED. THE GIVEN ROWS OF THIS SEAT. 6 by the template 'for every input the law returns true; each argument reads behind the call as it read before'; 0 by the template 'total and deterministic' (their statements: YtmcimfblhpflnaaTotals.lean).
  GIVEN WITH THE SEED: the statements are not yours to turn. If you find one false, say at which input.
  Laid BY PROGRAM, IN A SANDBOX (cutbox-rows.mjs): the forced cells as the released guide's own fill.sh prints them over the translation b854da688ec47616… (all of the seat's roots in one cut). By AI agents, Wed Nov 11 2026. No macro, syntax, notation, axiom, sorry.
-/
import Derived.Test.YtmcimfblhpflnaaChecked
import GoSem.Claim
import GoSem.ClaimJoined
import GoSem.ClaimMapViews
import Derived.JoinedTies
import Derived.KernelRfl
namespace Go.Proofs.Ytmcimfblhpflnaa
/- THE CELL 'sum', in the pinned program and in every row, IS THE sha256 OF THE DUMP (.gsa) THAT YtmcimfblhpflnaaProg.lean LOADS. Nothing in Lean hashes anything: it is a label: what it is worth is what the hold of that sum in a sandbox is worth. -/
noncomputable def Try.pinned : Pinned := { name := "ytmcimfblhpflnaa", sum := "b854da688ec476167c9eda0885cca0d692f7aaccc905d3a6129e5985b84da67b", checked := Try.checked }
namespace Rows
def none {H : Type} : Left H := { results := [], args := [] }

/-- 'laws.FnExactPathNullity': WHATEVER THE INPUT: true; the input reads as it did. -/
def fnExactPathNullitySpec : ChangeSpec := { name := "fnExactPathNullity", fn := fun _ => fun
  | [d1, d2] => { results := [.lit (.bool true)], args := [d1, d2] }
  | _ => none }
def fnExactPathNullityRow : OpenClaim := { program := "ytmcimfblhpflnaa", sum := "b854da688ec476167c9eda0885cca0d692f7aaccc905d3a6129e5985b84da67b", func := "loop.example/g01146/laws.FnExactPathNullity", spec := "fnExactPathNullity", apart := false }
def FnExactPathNullitySaid : Prop := fnExactPathNullityRow.holds Try.pinned (OpenSpec.ofChange fnExactPathNullitySpec)

/-- ITS FALSE NEIGHBOUR: 'it returns false'. Refute it at one input. -/
def fnExactPathNullityWrong : ChangeSpec := { name := "fnExactPathNullity", fn := fun _ => fun
  | [d1, d2] => { results := [.lit (.bool false)], args := [d1, d2] }
  | _ => none }
def FnExactPathNullityWrongFalsely : Prop := fnExactPathNullityRow.holds Try.pinned (OpenSpec.ofChange fnExactPathNullityWrong)

/-- 'laws.FnExactCircleNullity': WHATEVER THE INPUT: true; the input reads as it did. -/
def fnExactCircleNullitySpec : ChangeSpec := { name := "fnExactCircleNullity", fn := fun _ => fun
  | [d1, d2] => { results := [.lit (.bool true)], args := [d1, d2] }
  | _ => none }
def fnExactCircleNullityRow : OpenClaim := { program := "ytmcimfblhpflnaa", sum := "b854da688ec476167c9eda0885cca0d692f7aaccc905d3a6129e5985b84da67b", func := "loop.example/g01146/laws.FnExactCircleNullity", spec := "fnExactCircleNullity", apart := false }
def FnExactCircleNullitySaid : Prop := fnExactCircleNullityRow.holds Try.pinned (OpenSpec.ofChange fnExactCircleNullitySpec)

/-- ITS FALSE NEIGHBOUR: 'it returns false'. Refute it at one input. -/
def fnExactCircleNullityWrong : ChangeSpec := { name := "fnExactCircleNullity", fn := fun _ => fun
  | [d1, d2] => { results := [.lit (.bool false)], args := [d1, d2] }
  | _ => none }
def FnExactCircleNullityWrongFalsely : Prop := fnExactCircleNullityRow.holds Try.pinned (OpenSpec.ofChange fnExactCircleNullityWrong)

/-- 'laws.FnExactFromParents': WHATEVER THE INPUT: true; the input reads as it did. -/
def fnExactFromParentsSpec : ChangeSpec := { name := "fnExactFromParents", fn := fun _ => fun
  | [d1, d2] => { results := [.lit (.bool true)], args := [d1, d2] }
  | _ => none }
def fnExactFromParentsRow : OpenClaim := { program := "ytmcimfblhpflnaa", sum := "b854da688ec476167c9eda0885cca0d692f7aaccc905d3a6129e5985b84da67b", func := "loop.example/g01146/laws.FnExactFromParents", spec := "fnExactFromParents", apart := false }
def FnExactFromParentsSaid : Prop := fnExactFromParentsRow.holds Try.pinned (OpenSpec.ofChange fnExactFromParentsSpec)

/-- ITS FALSE NEIGHBOUR: 'it returns false'. Refute it at one input. -/
def fnExactFromParentsWrong : ChangeSpec := { name := "fnExactFromParents", fn := fun _ => fun
  | [d1, d2] => { results := [.lit (.bool false)], args := [d1, d2] }
  | _ => none }
def FnExactFromParentsWrongFalsely : Prop := fnExactFromParentsRow.holds Try.pinned (OpenSpec.ofChange fnExactFromParentsWrong)

/-- 'laws.FnExactStarGraph': WHATEVER THE INPUT: true; the input reads as it did. -/
def fnExactStarGraphSpec : ChangeSpec := { name := "fnExactStarGraph", fn := fun _ => fun
  | [d1, d2] => { results := [.lit (.bool true)], args := [d1, d2] }
  | _ => none }
def fnExactStarGraphRow : OpenClaim := { program := "ytmcimfblhpflnaa", sum := "b854da688ec476167c9eda0885cca0d692f7aaccc905d3a6129e5985b84da67b", func := "loop.example/g01146/laws.FnExactStarGraph", spec := "fnExactStarGraph", unfollowed := true, recurses := true, apart := false }
def FnExactStarGraphSaid : Prop := fnExactStarGraphRow.holds Try.pinned (OpenSpec.ofChange fnExactStarGraphSpec)

/-- ITS FALSE NEIGHBOUR: 'it returns false'. Refute it at one input. -/
def fnExactStarGraphWrong : ChangeSpec := { name := "fnExactStarGraph", fn := fun _ => fun
  | [d1, d2] => { results := [.lit (.bool false)], args := [d1, d2] }
  | _ => none }
def FnExactStarGraphWrongFalsely : Prop := fnExactStarGraphRow.holds Try.pinned (OpenSpec.ofChange fnExactStarGraphWrong)

/-- 'laws.FnExactBinaryTree': WHATEVER THE INPUT: true; the input reads as it did. -/
def fnExactBinaryTreeSpec : ChangeSpec := { name := "fnExactBinaryTree", fn := fun _ => fun
  | [d1, d2] => { results := [.lit (.bool true)], args := [d1, d2] }
  | _ => none }
def fnExactBinaryTreeRow : OpenClaim := { program := "ytmcimfblhpflnaa", sum := "b854da688ec476167c9eda0885cca0d692f7aaccc905d3a6129e5985b84da67b", func := "loop.example/g01146/laws.FnExactBinaryTree", spec := "fnExactBinaryTree", unfollowed := true, recurses := true, apart := false }
def FnExactBinaryTreeSaid : Prop := fnExactBinaryTreeRow.holds Try.pinned (OpenSpec.ofChange fnExactBinaryTreeSpec)

/-- ITS FALSE NEIGHBOUR: 'it returns false'. Refute it at one input. -/
def fnExactBinaryTreeWrong : ChangeSpec := { name := "fnExactBinaryTree", fn := fun _ => fun
  | [d1, d2] => { results := [.lit (.bool false)], args := [d1, d2] }
  | _ => none }
def FnExactBinaryTreeWrongFalsely : Prop := fnExactBinaryTreeRow.holds Try.pinned (OpenSpec.ofChange fnExactBinaryTreeWrong)

/-- 'laws.FnExactSolvePath': WHATEVER THE INPUT: true; the input reads as it did. -/
def fnExactSolvePathSpec : ChangeSpec := { name := "fnExactSolvePath", fn := fun _ => fun
  | [d1, d2, d3] => { results := [.lit (.bool true)], args := [d1, d2, d3] }
  | _ => none }
def fnExactSolvePathRow : OpenClaim := { program := "ytmcimfblhpflnaa", sum := "b854da688ec476167c9eda0885cca0d692f7aaccc905d3a6129e5985b84da67b", func := "loop.example/g01146/laws.FnExactSolvePath", spec := "fnExactSolvePath", unfollowed := true, recurses := true, apart := false }
def FnExactSolvePathSaid : Prop := fnExactSolvePathRow.holds Try.pinned (OpenSpec.ofChange fnExactSolvePathSpec)

/-- ITS FALSE NEIGHBOUR: 'it returns false'. Refute it at one input. -/
def fnExactSolvePathWrong : ChangeSpec := { name := "fnExactSolvePath", fn := fun _ => fun
  | [d1, d2, d3] => { results := [.lit (.bool false)], args := [d1, d2, d3] }
  | _ => none }
def FnExactSolvePathWrongFalsely : Prop := fnExactSolvePathRow.holds Try.pinned (OpenSpec.ofChange fnExactSolvePathWrong)

/- THE SECOND FORM. 'bulk': how many values and letters a reading holds, each counted each time it is reached (what is shared counts as often as it is met; a slice's spare places count too). A statement '..UptoSaid' is the law's where the arguments, and the package variables that the reading takes, are together of bulk at most 1048576: NARROWER than '..Said'. Prove '..Said' where nothing that the law and all that it calls make is longer than what came in: it says more and counts as full. Else prove '..UptoSaid'. A law counts once. -/
mutual
def uptoBulk {H : Type} : DataW H → Nat
  | .lit (.string bytes) => bytes.length + 1
  | .lit _ => 1
  | .nil => 1
  | .ptr d => uptoBulk d + 1
  | .slice elems spare => uptoBulkAll elems + uptoBulkAll spare + 1
  | .agg parts => uptoBulkAll parts + 1
  | .iface _ d => uptoBulk d + 1
  | .map entries => uptoBulkEntries entries + 1
  | .held _ => 1
def uptoBulkAll {H : Type} : List (DataW H) → Nat
  | [] => 0
  | d :: r => uptoBulk d + uptoBulkAll r
def uptoBulkEntries {H : Type} : List (Lit × DataW H) → Nat
  | [] => 0
  | x :: r => uptoBulkEntry x + uptoBulkEntries r
def uptoBulkEntry {H : Type} : Lit × DataW H → Nat
  | (.string bytes, d) => bytes.length + uptoBulk d + 1
  | (_, d) => uptoBulk d + 1
 end
def uptoSmall : (H : Type) → List (DataW H) → Bool := fun _ ds => decide (uptoBulkAll ds ≤ 1048576)
def OpenSpec.upto (s : _root_.Go.ChangeSpec) : _root_.Go.OpenSpec := { _root_.Go.OpenSpec.ofChange s with cond := some uptoSmall }

/-- 'laws.FnExactPathNullity', WHERE WHAT IT READS IS OF BULK AT MOST 1048576: true; the input reads as it did. -/
def fnExactPathNullityUptoRow : OpenClaim := { program := "ytmcimfblhpflnaa", sum := "b854da688ec476167c9eda0885cca0d692f7aaccc905d3a6129e5985b84da67b", func := "loop.example/g01146/laws.FnExactPathNullity", spec := "fnExactPathNullity", apart := false, narrowed := true }
def FnExactPathNullityUptoSaid : Prop := fnExactPathNullityUptoRow.holds Try.pinned (OpenSpec.upto fnExactPathNullitySpec)

/-- 'laws.FnExactCircleNullity', WHERE WHAT IT READS IS OF BULK AT MOST 1048576: true; the input reads as it did. -/
def fnExactCircleNullityUptoRow : OpenClaim := { program := "ytmcimfblhpflnaa", sum := "b854da688ec476167c9eda0885cca0d692f7aaccc905d3a6129e5985b84da67b", func := "loop.example/g01146/laws.FnExactCircleNullity", spec := "fnExactCircleNullity", apart := false, narrowed := true }
def FnExactCircleNullityUptoSaid : Prop := fnExactCircleNullityUptoRow.holds Try.pinned (OpenSpec.upto fnExactCircleNullitySpec)

/-- 'laws.FnExactFromParents', WHERE WHAT IT READS IS OF BULK AT MOST 1048576: true; the input reads as it did. -/
def fnExactFromParentsUptoRow : OpenClaim := { program := "ytmcimfblhpflnaa", sum := "b854da688ec476167c9eda0885cca0d692f7aaccc905d3a6129e5985b84da67b", func := "loop.example/g01146/laws.FnExactFromParents", spec := "fnExactFromParents", apart := false, narrowed := true }
def FnExactFromParentsUptoSaid : Prop := fnExactFromParentsUptoRow.holds Try.pinned (OpenSpec.upto fnExactFromParentsSpec)

/-- 'laws.FnExactStarGraph', WHERE WHAT IT READS IS OF BULK AT MOST 1048576: true; the input reads as it did. -/
def fnExactStarGraphUptoRow : OpenClaim := { program := "ytmcimfblhpflnaa", sum := "b854da688ec476167c9eda0885cca0d692f7aaccc905d3a6129e5985b84da67b", func := "loop.example/g01146/laws.FnExactStarGraph", spec := "fnExactStarGraph", unfollowed := true, recurses := true, apart := false, narrowed := true }
def FnExactStarGraphUptoSaid : Prop := fnExactStarGraphUptoRow.holds Try.pinned (OpenSpec.upto fnExactStarGraphSpec)

/-- 'laws.FnExactBinaryTree', WHERE WHAT IT READS IS OF BULK AT MOST 1048576: true; the input reads as it did. -/
def fnExactBinaryTreeUptoRow : OpenClaim := { program := "ytmcimfblhpflnaa", sum := "b854da688ec476167c9eda0885cca0d692f7aaccc905d3a6129e5985b84da67b", func := "loop.example/g01146/laws.FnExactBinaryTree", spec := "fnExactBinaryTree", unfollowed := true, recurses := true, apart := false, narrowed := true }
def FnExactBinaryTreeUptoSaid : Prop := fnExactBinaryTreeUptoRow.holds Try.pinned (OpenSpec.upto fnExactBinaryTreeSpec)

/-- 'laws.FnExactSolvePath', WHERE WHAT IT READS IS OF BULK AT MOST 1048576: true; the input reads as it did. -/
def fnExactSolvePathUptoRow : OpenClaim := { program := "ytmcimfblhpflnaa", sum := "b854da688ec476167c9eda0885cca0d692f7aaccc905d3a6129e5985b84da67b", func := "loop.example/g01146/laws.FnExactSolvePath", spec := "fnExactSolvePath", unfollowed := true, recurses := true, apart := false, narrowed := true }
def FnExactSolvePathUptoSaid : Prop := fnExactSolvePathUptoRow.holds Try.pinned (OpenSpec.upto fnExactSolvePathSpec)

end Rows
end Go.Proofs.Ytmcimfblhpflnaa
