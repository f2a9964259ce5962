/-
  No cell of these rows narrows 'for every input' (looked for: loops, veiled, ifaces, maps, wideKeys, modest, calm, conditions, laid).
  DERIVED. THE GIVEN ROWS OF THIS SEAT. 5 by the template 'for every input the law returns true; each argument reads behind the call as it read before'; 0 by the template 'total and deterministic' (their statements: YtdpoceijnbbmgaaTotals.lean).
  GIVEN WITH THE SEED: the statements are not yours to turn. If you find one false, say at which input.
  Laid BY PROGRAM, IN A SANDBOX (cutbox-rows.mjs): the forced cells as the released guide's own fill.sh prints them over the translation db77ca376a2f2894… (all of the seat's roots in one cut). By AI agents, Wed Nov 11 2026. No macro, syntax, notation, axiom, sorry.
-/
import Derived.Test.YtdpoceijnbbmgaaChecked
import GoSem.Claim
import GoSem.ClaimJoined
import GoSem.ClaimMapViews
import Derived.JoinedTies
import Derived.KernelRfl
namespace Go.Proofs.Ytdpoceijnbbmgaa
/- THE CELL 'sum', in the pinned program and in every row, IS THE sha256 OF THE DUMP (.gsa) THAT YtdpoceijnbbmgaaProg.lean LOADS. Nothing in Lean hashes anything: it is a label: what it is worth is what the hold of that sum in a sandbox is worth. -/
noncomputable def Try.pinned : Pinned := { name := "ytdpoceijnbbmgaa", sum := "db77ca376a2f2894755d78f0e31c8a1ca74b4bd0ef820048c1cc72cf21a77b0e", checked := Try.checked }
namespace Rows
def none {H : Type} : Left H := { results := [], args := [] }

/-- 'laws.FnExactToggleMap': WHATEVER THE INPUT: true; the input reads as it did. -/
def fnExactToggleMapSpec : ChangeSpec := { name := "fnExactToggleMap", fn := fun _ => fun
  | [d] => { results := [.lit (.bool true)], args := [d] }
  | _ => none }
def fnExactToggleMapRow : OpenClaim := { program := "ytdpoceijnbbmgaa", sum := "db77ca376a2f2894755d78f0e31c8a1ca74b4bd0ef820048c1cc72cf21a77b0e", func := "loop.example/g01146/laws.FnExactToggleMap", spec := "fnExactToggleMap", apart := false }
def FnExactToggleMapSaid : Prop := fnExactToggleMapRow.holds Try.pinned (OpenSpec.ofChange fnExactToggleMapSpec)

/-- ITS FALSE NEIGHBOUR: 'it returns false'. Refute it at one input. -/
def fnExactToggleMapWrong : ChangeSpec := { name := "fnExactToggleMap", fn := fun _ => fun
  | [d] => { results := [.lit (.bool false)], args := [d] }
  | _ => none }
def FnExactToggleMapWrongFalsely : Prop := fnExactToggleMapRow.holds Try.pinned (OpenSpec.ofChange fnExactToggleMapWrong)

/-- 'laws.FnExactAddMaps': WHATEVER THE INPUT: true; the input reads as it did. -/
def fnExactAddMapsSpec : ChangeSpec := { name := "fnExactAddMaps", fn := fun _ => fun
  | [d1, d2] => { results := [.lit (.bool true)], args := [d1, d2] }
  | _ => none }
def fnExactAddMapsRow : OpenClaim := { program := "ytdpoceijnbbmgaa", sum := "db77ca376a2f2894755d78f0e31c8a1ca74b4bd0ef820048c1cc72cf21a77b0e", func := "loop.example/g01146/laws.FnExactAddMaps", spec := "fnExactAddMaps", unfollowed := true, recurses := true, apart := false }
def FnExactAddMapsSaid : Prop := fnExactAddMapsRow.holds Try.pinned (OpenSpec.ofChange fnExactAddMapsSpec)

/-- ITS FALSE NEIGHBOUR: 'it returns false'. Refute it at one input. -/
def fnExactAddMapsWrong : ChangeSpec := { name := "fnExactAddMaps", fn := fun _ => fun
  | [d1, d2] => { results := [.lit (.bool false)], args := [d1, d2] }
  | _ => none }
def FnExactAddMapsWrongFalsely : Prop := fnExactAddMapsRow.holds Try.pinned (OpenSpec.ofChange fnExactAddMapsWrong)

/-- 'laws.FnExactNullityOfMap': WHATEVER THE INPUT: true; the input reads as it did. -/
def fnExactNullityOfMapSpec : ChangeSpec := { name := "fnExactNullityOfMap", fn := fun _ => fun
  | [d] => { results := [.lit (.bool true)], args := [d] }
  | _ => none }
def fnExactNullityOfMapRow : OpenClaim := { program := "ytdpoceijnbbmgaa", sum := "db77ca376a2f2894755d78f0e31c8a1ca74b4bd0ef820048c1cc72cf21a77b0e", func := "loop.example/g01146/laws.FnExactNullityOfMap", spec := "fnExactNullityOfMap", inPlace := ["slices.overlaps[int]"], unfollowed := true, recurses := true, apart := false }
def FnExactNullityOfMapSaid : Prop := fnExactNullityOfMapRow.holds Try.pinned (OpenSpec.ofChange fnExactNullityOfMapSpec)

/-- ITS FALSE NEIGHBOUR: 'it returns false'. Refute it at one input. -/
def fnExactNullityOfMapWrong : ChangeSpec := { name := "fnExactNullityOfMap", fn := fun _ => fun
  | [d] => { results := [.lit (.bool false)], args := [d] }
  | _ => none }
def FnExactNullityOfMapWrongFalsely : Prop := fnExactNullityOfMapRow.holds Try.pinned (OpenSpec.ofChange fnExactNullityOfMapWrong)

/-- 'laws.FnExactGridNullity': WHATEVER THE INPUT: true; the input reads as it did. -/
def fnExactGridNullitySpec : ChangeSpec := { name := "fnExactGridNullity", fn := fun _ => fun
  | [d1, d2, d3] => { results := [.lit (.bool true)], args := [d1, d2, d3] }
  | _ => none }
def fnExactGridNullityRow : OpenClaim := { program := "ytdpoceijnbbmgaa", sum := "db77ca376a2f2894755d78f0e31c8a1ca74b4bd0ef820048c1cc72cf21a77b0e", func := "loop.example/g01146/laws.FnExactGridNullity", spec := "fnExactGridNullity", unfollowed := true, recurses := true, apart := false }
def FnExactGridNullitySaid : Prop := fnExactGridNullityRow.holds Try.pinned (OpenSpec.ofChange fnExactGridNullitySpec)

/-- ITS FALSE NEIGHBOUR: 'it returns false'. Refute it at one input. -/
def fnExactGridNullityWrong : ChangeSpec := { name := "fnExactGridNullity", fn := fun _ => fun
  | [d1, d2, d3] => { results := [.lit (.bool false)], args := [d1, d2, d3] }
  | _ => none }
def FnExactGridNullityWrongFalsely : Prop := fnExactGridNullityRow.holds Try.pinned (OpenSpec.ofChange fnExactGridNullityWrong)

/-- 'laws.FnExactGridTable': WHATEVER THE INPUT: true; the input reads as it did. -/
def fnExactGridTableSpec : ChangeSpec := { name := "fnExactGridTable", fn := fun _ => fun
  | [d1, d2] => { results := [.lit (.bool true)], args := [d1, d2] }
  | _ => none }
def fnExactGridTableRow : OpenClaim := { program := "ytdpoceijnbbmgaa", sum := "db77ca376a2f2894755d78f0e31c8a1ca74b4bd0ef820048c1cc72cf21a77b0e", func := "loop.example/g01146/laws.FnExactGridTable", spec := "fnExactGridTable", unfollowed := true, recurses := true, apart := false }
def FnExactGridTableSaid : Prop := fnExactGridTableRow.holds Try.pinned (OpenSpec.ofChange fnExactGridTableSpec)

/-- ITS FALSE NEIGHBOUR: 'it returns false'. Refute it at one input. -/
def fnExactGridTableWrong : ChangeSpec := { name := "fnExactGridTable", fn := fun _ => fun
  | [d1, d2] => { results := [.lit (.bool false)], args := [d1, d2] }
  | _ => none }
def FnExactGridTableWrongFalsely : Prop := fnExactGridTableRow.holds Try.pinned (OpenSpec.ofChange fnExactGridTableWrong)

/- THE SECOND FORM. 'bulk': how many values and letters a reading holds, each counted each time it is reached (what is shared counts as often as it is met; a slice's spare places count too). A statement '..UptoSaid' is the law's where the arguments, and the package variables that the reading takes, are together of bulk at most 1048576: NARROWER than '..Said'. Prove '..Said' where nothing that the law and all that it calls make is longer than what came in: it says more and counts as full. Else prove '..UptoSaid'. A law counts once. -/
mutual
def uptoBulk {H : Type} : DataW H → Nat
  | .lit (.string bytes) => bytes.length + 1
  | .lit _ => 1
  | .nil => 1
  | .ptr d => uptoBulk d + 1
  | .slice elems spare => uptoBulkAll elems + uptoBulkAll spare + 1
  | .agg parts => uptoBulkAll parts + 1
  | .iface _ d => uptoBulk d + 1
  | .map entries => uptoBulkEntries entries + 1
  | .held _ => 1
def uptoBulkAll {H : Type} : List (DataW H) → Nat
  | [] => 0
  | d :: r => uptoBulk d + uptoBulkAll r
def uptoBulkEntries {H : Type} : List (Lit × DataW H) → Nat
  | [] => 0
  | x :: r => uptoBulkEntry x + uptoBulkEntries r
def uptoBulkEntry {H : Type} : Lit × DataW H → Nat
  | (.string bytes, d) => bytes.length + uptoBulk d + 1
  | (_, d) => uptoBulk d + 1
 end
def uptoSmall : (H : Type) → List (DataW H) → Bool := fun _ ds => decide (uptoBulkAll ds ≤ 1048576)
def OpenSpec.upto (s : _root_.Go.ChangeSpec) : _root_.Go.OpenSpec := { _root_.Go.OpenSpec.ofChange s with cond := some uptoSmall }

/-- 'laws.FnExactToggleMap', WHERE WHAT IT READS IS OF BULK AT MOST 1048576: true; the input reads as it did. -/
def fnExactToggleMapUptoRow : OpenClaim := { program := "ytdpoceijnbbmgaa", sum := "db77ca376a2f2894755d78f0e31c8a1ca74b4bd0ef820048c1cc72cf21a77b0e", func := "loop.example/g01146/laws.FnExactToggleMap", spec := "fnExactToggleMap", apart := false, narrowed := true }
def FnExactToggleMapUptoSaid : Prop := fnExactToggleMapUptoRow.holds Try.pinned (OpenSpec.upto fnExactToggleMapSpec)

/-- 'laws.FnExactAddMaps', WHERE WHAT IT READS IS OF BULK AT MOST 1048576: true; the input reads as it did. -/
def fnExactAddMapsUptoRow : OpenClaim := { program := "ytdpoceijnbbmgaa", sum := "db77ca376a2f2894755d78f0e31c8a1ca74b4bd0ef820048c1cc72cf21a77b0e", func := "loop.example/g01146/laws.FnExactAddMaps", spec := "fnExactAddMaps", unfollowed := true, recurses := true, apart := false, narrowed := true }
def FnExactAddMapsUptoSaid : Prop := fnExactAddMapsUptoRow.holds Try.pinned (OpenSpec.upto fnExactAddMapsSpec)

/-- 'laws.FnExactNullityOfMap', WHERE WHAT IT READS IS OF BULK AT MOST 1048576: true; the input reads as it did. -/
def fnExactNullityOfMapUptoRow : OpenClaim := { program := "ytdpoceijnbbmgaa", sum := "db77ca376a2f2894755d78f0e31c8a1ca74b4bd0ef820048c1cc72cf21a77b0e", func := "loop.example/g01146/laws.FnExactNullityOfMap", spec := "fnExactNullityOfMap", inPlace := ["slices.overlaps[int]"], unfollowed := true, recurses := true, apart := false, narrowed := true }
def FnExactNullityOfMapUptoSaid : Prop := fnExactNullityOfMapUptoRow.holds Try.pinned (OpenSpec.upto fnExactNullityOfMapSpec)

/-- 'laws.FnExactGridNullity', WHERE WHAT IT READS IS OF BULK AT MOST 1048576: true; the input reads as it did. -/
def fnExactGridNullityUptoRow : OpenClaim := { program := "ytdpoceijnbbmgaa", sum := "db77ca376a2f2894755d78f0e31c8a1ca74b4bd0ef820048c1cc72cf21a77b0e", func := "loop.example/g01146/laws.FnExactGridNullity", spec := "fnExactGridNullity", unfollowed := true, recurses := true, apart := false, narrowed := true }
def FnExactGridNullityUptoSaid : Prop := fnExactGridNullityUptoRow.holds Try.pinned (OpenSpec.upto fnExactGridNullitySpec)

/-- 'laws.FnExactGridTable', WHERE WHAT IT READS IS OF BULK AT MOST 1048576: true; the input reads as it did. -/
def fnExactGridTableUptoRow : OpenClaim := { program := "ytdpoceijnbbmgaa", sum := "db77ca376a2f2894755d78f0e31c8a1ca74b4bd0ef820048c1cc72cf21a77b0e", func := "loop.example/g01146/laws.FnExactGridTable", spec := "fnExactGridTable", unfollowed := true, recurses := true, apart := false, narrowed := true }
def FnExactGridTableUptoSaid : Prop := fnExactGridTableUptoRow.holds Try.pinned (OpenSpec.upto fnExactGridTableSpec)

end Rows
end Go.Proofs.Ytdpoceijnbbmgaa
