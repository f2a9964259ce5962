/-
  No cell of these rows narrows 'for every input' (looked for: loops, veiled, ifaces, maps, wideKeys, modest, calm, conditions, laid).
  DERIVED. THE GIVEN ROWS OF THIS SEAT. 9 by the template 'for every input the law returns true; each argument reads behind the call as it read before'; 0 by the template 'total and deterministic' (their statements: YtcpbbpgiicakcaaTotals.lean).
  GIVEN WITH THE SEED: the statements are not yours to turn. If you find one false, say at which input.
  Laid BY PROGRAM, IN A SANDBOX (cutbox-rows.mjs): the forced cells as the released guide's own fill.sh prints them over the translation 043d601fd1b7943b… (all of the seat's roots in one cut). By AI agents, Wed Nov 11 2026. No macro, syntax, notation, axiom, sorry.
-/
import Derived.Test.YtcpbbpgiicakcaaChecked
import GoSem.Claim
import GoSem.ClaimJoined
import GoSem.ClaimMapViews
import Derived.JoinedTies
import Derived.KernelRfl
namespace Go.Proofs.Ytcpbbpgiicakcaa
/- THE CELL 'sum', in the pinned program and in every row, IS THE sha256 OF THE DUMP (.gsa) THAT YtcpbbpgiicakcaaProg.lean LOADS. Nothing in Lean hashes anything: it is a label: what it is worth is what the hold of that sum in a sandbox is worth. -/
noncomputable def Try.pinned : Pinned := { name := "ytcpbbpgiicakcaa", sum := "043d601fd1b7943b3202c57b5028759377823c702f92fe44a148c937df98b0fa", checked := Try.checked }
namespace Rows
def none {H : Type} : Left H := { results := [], args := [] }

/-- 'laws.FnExactEvenSplit': WHATEVER THE INPUT: true; the input reads as it did. -/
def fnExactEvenSplitSpec : ChangeSpec := { name := "fnExactEvenSplit", fn := fun _ => fun
  | [d] => { results := [.lit (.bool true)], args := [d] }
  | _ => none }
def fnExactEvenSplitRow : OpenClaim := { program := "ytcpbbpgiicakcaa", sum := "043d601fd1b7943b3202c57b5028759377823c702f92fe44a148c937df98b0fa", func := "loop.example/g01146/laws.FnExactEvenSplit", spec := "fnExactEvenSplit", inPlace := ["slices.overlaps[int]"], unfollowed := true, recurses := true, apart := false }
def FnExactEvenSplitSaid : Prop := fnExactEvenSplitRow.holds Try.pinned (OpenSpec.ofChange fnExactEvenSplitSpec)

/-- ITS FALSE NEIGHBOUR: 'it returns false'. Refute it at one input. -/
def fnExactEvenSplitWrong : ChangeSpec := { name := "fnExactEvenSplit", fn := fun _ => fun
  | [d] => { results := [.lit (.bool false)], args := [d] }
  | _ => none }
def FnExactEvenSplitWrongFalsely : Prop := fnExactEvenSplitRow.holds Try.pinned (OpenSpec.ofChange fnExactEvenSplitWrong)

/-- 'laws.FnExactEvenOddSplit': WHATEVER THE INPUT: true; the input reads as it did. -/
def fnExactEvenOddSplitSpec : ChangeSpec := { name := "fnExactEvenOddSplit", fn := fun _ => fun
  | [d] => { results := [.lit (.bool true)], args := [d] }
  | _ => none }
def fnExactEvenOddSplitRow : OpenClaim := { program := "ytcpbbpgiicakcaa", sum := "043d601fd1b7943b3202c57b5028759377823c702f92fe44a148c937df98b0fa", func := "loop.example/g01146/laws.FnExactEvenOddSplit", spec := "fnExactEvenOddSplit", inPlace := ["slices.overlaps[int]"], unfollowed := true, recurses := true, apart := false }
def FnExactEvenOddSplitSaid : Prop := fnExactEvenOddSplitRow.holds Try.pinned (OpenSpec.ofChange fnExactEvenOddSplitSpec)

/-- ITS FALSE NEIGHBOUR: 'it returns false'. Refute it at one input. -/
def fnExactEvenOddSplitWrong : ChangeSpec := { name := "fnExactEvenOddSplit", fn := fun _ => fun
  | [d] => { results := [.lit (.bool false)], args := [d] }
  | _ => none }
def FnExactEvenOddSplitWrongFalsely : Prop := fnExactEvenOddSplitRow.holds Try.pinned (OpenSpec.ofChange fnExactEvenOddSplitWrong)

/-- 'laws.FnExactCountEvenSplits': WHATEVER THE INPUT: true; the input reads as it did. -/
def fnExactCountEvenSplitsSpec : ChangeSpec := { name := "fnExactCountEvenSplits", fn := fun _ => fun
  | [d] => { results := [.lit (.bool true)], args := [d] }
  | _ => none }
def fnExactCountEvenSplitsRow : OpenClaim := { program := "ytcpbbpgiicakcaa", sum := "043d601fd1b7943b3202c57b5028759377823c702f92fe44a148c937df98b0fa", func := "loop.example/g01146/laws.FnExactCountEvenSplits", spec := "fnExactCountEvenSplits", inPlace := ["slices.overlaps[int]"], unfollowed := true, recurses := true, apart := false }
def FnExactCountEvenSplitsSaid : Prop := fnExactCountEvenSplitsRow.holds Try.pinned (OpenSpec.ofChange fnExactCountEvenSplitsSpec)

/-- ITS FALSE NEIGHBOUR: 'it returns false'. Refute it at one input. -/
def fnExactCountEvenSplitsWrong : ChangeSpec := { name := "fnExactCountEvenSplits", fn := fun _ => fun
  | [d] => { results := [.lit (.bool false)], args := [d] }
  | _ => none }
def FnExactCountEvenSplitsWrongFalsely : Prop := fnExactCountEvenSplitsRow.holds Try.pinned (OpenSpec.ofChange fnExactCountEvenSplitsWrong)

/-- 'laws.FnExactCountEvenOdd': WHATEVER THE INPUT: true; the input reads as it did. -/
def fnExactCountEvenOddSpec : ChangeSpec := { name := "fnExactCountEvenOdd", fn := fun _ => fun
  | [d] => { results := [.lit (.bool true)], args := [d] }
  | _ => none }
def fnExactCountEvenOddRow : OpenClaim := { program := "ytcpbbpgiicakcaa", sum := "043d601fd1b7943b3202c57b5028759377823c702f92fe44a148c937df98b0fa", func := "loop.example/g01146/laws.FnExactCountEvenOdd", spec := "fnExactCountEvenOdd", inPlace := ["slices.overlaps[int]"], unfollowed := true, recurses := true, apart := false }
def FnExactCountEvenOddSaid : Prop := fnExactCountEvenOddRow.holds Try.pinned (OpenSpec.ofChange fnExactCountEvenOddSpec)

/-- ITS FALSE NEIGHBOUR: 'it returns false'. Refute it at one input. -/
def fnExactCountEvenOddWrong : ChangeSpec := { name := "fnExactCountEvenOdd", fn := fun _ => fun
  | [d] => { results := [.lit (.bool false)], args := [d] }
  | _ => none }
def FnExactCountEvenOddWrongFalsely : Prop := fnExactCountEvenOddRow.holds Try.pinned (OpenSpec.ofChange fnExactCountEvenOddWrong)

/-- 'laws.FnExactEvenSplits': WHATEVER THE INPUT: true; the input reads as it did. -/
def fnExactEvenSplitsSpec : ChangeSpec := { name := "fnExactEvenSplits", fn := fun _ => fun
  | [d] => { results := [.lit (.bool true)], args := [d] }
  | _ => none }
def fnExactEvenSplitsRow : OpenClaim := { program := "ytcpbbpgiicakcaa", sum := "043d601fd1b7943b3202c57b5028759377823c702f92fe44a148c937df98b0fa", func := "loop.example/g01146/laws.FnExactEvenSplits", spec := "fnExactEvenSplits", inPlace := ["slices.overlaps[int]"], unfollowed := true, recurses := true, apart := false }
def FnExactEvenSplitsSaid : Prop := fnExactEvenSplitsRow.holds Try.pinned (OpenSpec.ofChange fnExactEvenSplitsSpec)

/-- ITS FALSE NEIGHBOUR: 'it returns false'. Refute it at one input. -/
def fnExactEvenSplitsWrong : ChangeSpec := { name := "fnExactEvenSplits", fn := fun _ => fun
  | [d] => { results := [.lit (.bool false)], args := [d] }
  | _ => none }
def FnExactEvenSplitsWrongFalsely : Prop := fnExactEvenSplitsRow.holds Try.pinned (OpenSpec.ofChange fnExactEvenSplitsWrong)

/-- 'laws.FnExactOddDominating': WHATEVER THE INPUT: true; the input reads as it did. -/
def fnExactOddDominatingSpec : ChangeSpec := { name := "fnExactOddDominating", fn := fun _ => fun
  | [d] => { results := [.lit (.bool true)], args := [d] }
  | _ => none }
def fnExactOddDominatingRow : OpenClaim := { program := "ytcpbbpgiicakcaa", sum := "043d601fd1b7943b3202c57b5028759377823c702f92fe44a148c937df98b0fa", func := "loop.example/g01146/laws.FnExactOddDominating", spec := "fnExactOddDominating", inPlace := ["slices.overlaps[int]"], unfollowed := true, recurses := true, apart := false }
def FnExactOddDominatingSaid : Prop := fnExactOddDominatingRow.holds Try.pinned (OpenSpec.ofChange fnExactOddDominatingSpec)

/-- ITS FALSE NEIGHBOUR: 'it returns false'. Refute it at one input. -/
def fnExactOddDominatingWrong : ChangeSpec := { name := "fnExactOddDominating", fn := fun _ => fun
  | [d] => { results := [.lit (.bool false)], args := [d] }
  | _ => none }
def FnExactOddDominatingWrongFalsely : Prop := fnExactOddDominatingRow.holds Try.pinned (OpenSpec.ofChange fnExactOddDominatingWrong)

/-- 'laws.FnExactCountOddDominating': WHATEVER THE INPUT: true; the input reads as it did. -/
def fnExactCountOddDominatingSpec : ChangeSpec := { name := "fnExactCountOddDominating", fn := fun _ => fun
  | [d] => { results := [.lit (.bool true)], args := [d] }
  | _ => none }
def fnExactCountOddDominatingRow : OpenClaim := { program := "ytcpbbpgiicakcaa", sum := "043d601fd1b7943b3202c57b5028759377823c702f92fe44a148c937df98b0fa", func := "loop.example/g01146/laws.FnExactCountOddDominating", spec := "fnExactCountOddDominating", inPlace := ["slices.overlaps[int]"], unfollowed := true, recurses := true, apart := false }
def FnExactCountOddDominatingSaid : Prop := fnExactCountOddDominatingRow.holds Try.pinned (OpenSpec.ofChange fnExactCountOddDominatingSpec)

/-- ITS FALSE NEIGHBOUR: 'it returns false'. Refute it at one input. -/
def fnExactCountOddDominatingWrong : ChangeSpec := { name := "fnExactCountOddDominating", fn := fun _ => fun
  | [d] => { results := [.lit (.bool false)], args := [d] }
  | _ => none }
def FnExactCountOddDominatingWrongFalsely : Prop := fnExactCountOddDominatingRow.holds Try.pinned (OpenSpec.ofChange fnExactCountOddDominatingWrong)

/-- 'laws.FnExactCutOf': WHATEVER THE INPUT: true; the input reads as it did. -/
def fnExactCutOfSpec : ChangeSpec := { name := "fnExactCutOf", fn := fun _ => fun
  | [d1, d2] => { results := [.lit (.bool true)], args := [d1, d2] }
  | _ => none }
def fnExactCutOfRow : OpenClaim := { program := "ytcpbbpgiicakcaa", sum := "043d601fd1b7943b3202c57b5028759377823c702f92fe44a148c937df98b0fa", func := "loop.example/g01146/laws.FnExactCutOf", spec := "fnExactCutOf", apart := false }
def FnExactCutOfSaid : Prop := fnExactCutOfRow.holds Try.pinned (OpenSpec.ofChange fnExactCutOfSpec)

/-- ITS FALSE NEIGHBOUR: 'it returns false'. Refute it at one input. -/
def fnExactCutOfWrong : ChangeSpec := { name := "fnExactCutOf", fn := fun _ => fun
  | [d1, d2] => { results := [.lit (.bool false)], args := [d1, d2] }
  | _ => none }
def FnExactCutOfWrongFalsely : Prop := fnExactCutOfRow.holds Try.pinned (OpenSpec.ofChange fnExactCutOfWrong)

/-- 'laws.FnExactIsEvenEdges': WHATEVER THE INPUT: true; the input reads as it did. -/
def fnExactIsEvenEdgesSpec : ChangeSpec := { name := "fnExactIsEvenEdges", fn := fun _ => fun
  | [d1, d2] => { results := [.lit (.bool true)], args := [d1, d2] }
  | _ => none }
def fnExactIsEvenEdgesRow : OpenClaim := { program := "ytcpbbpgiicakcaa", sum := "043d601fd1b7943b3202c57b5028759377823c702f92fe44a148c937df98b0fa", func := "loop.example/g01146/laws.FnExactIsEvenEdges", spec := "fnExactIsEvenEdges", apart := false }
def FnExactIsEvenEdgesSaid : Prop := fnExactIsEvenEdgesRow.holds Try.pinned (OpenSpec.ofChange fnExactIsEvenEdgesSpec)

/-- ITS FALSE NEIGHBOUR: 'it returns false'. Refute it at one input. -/
def fnExactIsEvenEdgesWrong : ChangeSpec := { name := "fnExactIsEvenEdges", fn := fun _ => fun
  | [d1, d2] => { results := [.lit (.bool false)], args := [d1, d2] }
  | _ => none }
def FnExactIsEvenEdgesWrongFalsely : Prop := fnExactIsEvenEdgesRow.holds Try.pinned (OpenSpec.ofChange fnExactIsEvenEdgesWrong)

/- THE SECOND FORM. 'bulk': how many values and letters a reading holds, each counted each time it is reached (what is shared counts as often as it is met; a slice's spare places count too). A statement '..UptoSaid' is the law's where the arguments, and the package variables that the reading takes, are together of bulk at most 1048576: NARROWER than '..Said'. Prove '..Said' where nothing that the law and all that it calls make is longer than what came in: it says more and counts as full. Else prove '..UptoSaid'. A law counts once. -/
mutual
def uptoBulk {H : Type} : DataW H → Nat
  | .lit (.string bytes) => bytes.length + 1
  | .lit _ => 1
  | .nil => 1
  | .ptr d => uptoBulk d + 1
  | .slice elems spare => uptoBulkAll elems + uptoBulkAll spare + 1
  | .agg parts => uptoBulkAll parts + 1
  | .iface _ d => uptoBulk d + 1
  | .map entries => uptoBulkEntries entries + 1
  | .held _ => 1
def uptoBulkAll {H : Type} : List (DataW H) → Nat
  | [] => 0
  | d :: r => uptoBulk d + uptoBulkAll r
def uptoBulkEntries {H : Type} : List (Lit × DataW H) → Nat
  | [] => 0
  | x :: r => uptoBulkEntry x + uptoBulkEntries r
def uptoBulkEntry {H : Type} : Lit × DataW H → Nat
  | (.string bytes, d) => bytes.length + uptoBulk d + 1
  | (_, d) => uptoBulk d + 1
 end
def uptoSmall : (H : Type) → List (DataW H) → Bool := fun _ ds => decide (uptoBulkAll ds ≤ 1048576)
def OpenSpec.upto (s : _root_.Go.ChangeSpec) : _root_.Go.OpenSpec := { _root_.Go.OpenSpec.ofChange s with cond := some uptoSmall }

/-- 'laws.FnExactEvenSplit', WHERE WHAT IT READS IS OF BULK AT MOST 1048576: true; the input reads as it did. -/
def fnExactEvenSplitUptoRow : OpenClaim := { program := "ytcpbbpgiicakcaa", sum := "043d601fd1b7943b3202c57b5028759377823c702f92fe44a148c937df98b0fa", func := "loop.example/g01146/laws.FnExactEvenSplit", spec := "fnExactEvenSplit", inPlace := ["slices.overlaps[int]"], unfollowed := true, recurses := true, apart := false, narrowed := true }
def FnExactEvenSplitUptoSaid : Prop := fnExactEvenSplitUptoRow.holds Try.pinned (OpenSpec.upto fnExactEvenSplitSpec)

/-- 'laws.FnExactEvenOddSplit', WHERE WHAT IT READS IS OF BULK AT MOST 1048576: true; the input reads as it did. -/
def fnExactEvenOddSplitUptoRow : OpenClaim := { program := "ytcpbbpgiicakcaa", sum := "043d601fd1b7943b3202c57b5028759377823c702f92fe44a148c937df98b0fa", func := "loop.example/g01146/laws.FnExactEvenOddSplit", spec := "fnExactEvenOddSplit", inPlace := ["slices.overlaps[int]"], unfollowed := true, recurses := true, apart := false, narrowed := true }
def FnExactEvenOddSplitUptoSaid : Prop := fnExactEvenOddSplitUptoRow.holds Try.pinned (OpenSpec.upto fnExactEvenOddSplitSpec)

/-- 'laws.FnExactCountEvenSplits', WHERE WHAT IT READS IS OF BULK AT MOST 1048576: true; the input reads as it did. -/
def fnExactCountEvenSplitsUptoRow : OpenClaim := { program := "ytcpbbpgiicakcaa", sum := "043d601fd1b7943b3202c57b5028759377823c702f92fe44a148c937df98b0fa", func := "loop.example/g01146/laws.FnExactCountEvenSplits", spec := "fnExactCountEvenSplits", inPlace := ["slices.overlaps[int]"], unfollowed := true, recurses := true, apart := false, narrowed := true }
def FnExactCountEvenSplitsUptoSaid : Prop := fnExactCountEvenSplitsUptoRow.holds Try.pinned (OpenSpec.upto fnExactCountEvenSplitsSpec)

/-- 'laws.FnExactCountEvenOdd', WHERE WHAT IT READS IS OF BULK AT MOST 1048576: true; the input reads as it did. -/
def fnExactCountEvenOddUptoRow : OpenClaim := { program := "ytcpbbpgiicakcaa", sum := "043d601fd1b7943b3202c57b5028759377823c702f92fe44a148c937df98b0fa", func := "loop.example/g01146/laws.FnExactCountEvenOdd", spec := "fnExactCountEvenOdd", inPlace := ["slices.overlaps[int]"], unfollowed := true, recurses := true, apart := false, narrowed := true }
def FnExactCountEvenOddUptoSaid : Prop := fnExactCountEvenOddUptoRow.holds Try.pinned (OpenSpec.upto fnExactCountEvenOddSpec)

/-- 'laws.FnExactEvenSplits', WHERE WHAT IT READS IS OF BULK AT MOST 1048576: true; the input reads as it did. -/
def fnExactEvenSplitsUptoRow : OpenClaim := { program := "ytcpbbpgiicakcaa", sum := "043d601fd1b7943b3202c57b5028759377823c702f92fe44a148c937df98b0fa", func := "loop.example/g01146/laws.FnExactEvenSplits", spec := "fnExactEvenSplits", inPlace := ["slices.overlaps[int]"], unfollowed := true, recurses := true, apart := false, narrowed := true }
def FnExactEvenSplitsUptoSaid : Prop := fnExactEvenSplitsUptoRow.holds Try.pinned (OpenSpec.upto fnExactEvenSplitsSpec)

/-- 'laws.FnExactOddDominating', WHERE WHAT IT READS IS OF BULK AT MOST 1048576: true; the input reads as it did. -/
def fnExactOddDominatingUptoRow : OpenClaim := { program := "ytcpbbpgiicakcaa", sum := "043d601fd1b7943b3202c57b5028759377823c702f92fe44a148c937df98b0fa", func := "loop.example/g01146/laws.FnExactOddDominating", spec := "fnExactOddDominating", inPlace := ["slices.overlaps[int]"], unfollowed := true, recurses := true, apart := false, narrowed := true }
def FnExactOddDominatingUptoSaid : Prop := fnExactOddDominatingUptoRow.holds Try.pinned (OpenSpec.upto fnExactOddDominatingSpec)

/-- 'laws.FnExactCountOddDominating', WHERE WHAT IT READS IS OF BULK AT MOST 1048576: true; the input reads as it did. -/
def fnExactCountOddDominatingUptoRow : OpenClaim := { program := "ytcpbbpgiicakcaa", sum := "043d601fd1b7943b3202c57b5028759377823c702f92fe44a148c937df98b0fa", func := "loop.example/g01146/laws.FnExactCountOddDominating", spec := "fnExactCountOddDominating", inPlace := ["slices.overlaps[int]"], unfollowed := true, recurses := true, apart := false, narrowed := true }
def FnExactCountOddDominatingUptoSaid : Prop := fnExactCountOddDominatingUptoRow.holds Try.pinned (OpenSpec.upto fnExactCountOddDominatingSpec)

/-- 'laws.FnExactCutOf', WHERE WHAT IT READS IS OF BULK AT MOST 1048576: true; the input reads as it did. -/
def fnExactCutOfUptoRow : OpenClaim := { program := "ytcpbbpgiicakcaa", sum := "043d601fd1b7943b3202c57b5028759377823c702f92fe44a148c937df98b0fa", func := "loop.example/g01146/laws.FnExactCutOf", spec := "fnExactCutOf", apart := false, narrowed := true }
def FnExactCutOfUptoSaid : Prop := fnExactCutOfUptoRow.holds Try.pinned (OpenSpec.upto fnExactCutOfSpec)

/-- 'laws.FnExactIsEvenEdges', WHERE WHAT IT READS IS OF BULK AT MOST 1048576: true; the input reads as it did. -/
def fnExactIsEvenEdgesUptoRow : OpenClaim := { program := "ytcpbbpgiicakcaa", sum := "043d601fd1b7943b3202c57b5028759377823c702f92fe44a148c937df98b0fa", func := "loop.example/g01146/laws.FnExactIsEvenEdges", spec := "fnExactIsEvenEdges", apart := false, narrowed := true }
def FnExactIsEvenEdgesUptoSaid : Prop := fnExactIsEvenEdgesUptoRow.holds Try.pinned (OpenSpec.upto fnExactIsEvenEdgesSpec)

end Rows
end Go.Proofs.Ytcpbbpgiicakcaa
