import Derived.Test.YtmkdikoogbedkaaDoorF
import Derived.Test.YtmkdikoogbedkaaDoorK
import Derived.RegionTactic
namespace Go.Proofs.YtmkdikoogbedkaaDoor
open Go.RowKit
set_option maxHeartbeats 400000
/-- Is i a button of a graph? -/
noncomputable def butB (n : Nat) (f : Nat → Int) (i : Int) : Bool := goodB n f && inB i 0 (n - 1)
/-- Is s a set of buttons of a graph? -/
noncomputable def setB (n : Nat) (f : Nat → Int) (s : Int) : Bool := goodB n f && inB s 0 (2 ^ n - 1)
theorem Good.n16 {n : Nat} {f : Nat → Int} (h : Good n f) : n ≤ 16 := h.2.1
/-- What the button i toggles. -/
def tog (F : Nat → Nat) (own : Bool) (i : Nat) : Nat := if own then F i ||| 2 ^ i else F i
theorem tog_lt {F : Nat → Nat} {own : Bool} {i : Nat} (hi : i < 16) (h : F i < 65536) : tog F own i < 65536 := by
  unfold tog
  split
  · exact or_lt16 h (pow_lt16 hi)
  · exact h
/-- A pair of a number and a bool. -/
def Pair (w : World) (v : Int) (ok : Bool) (e : Ending) (w' : World) : Prop := e = .returned (.tuple #[.int .i64 v, .bool ok]) ∧ Below w.heap.size w w'
end Go.Proofs.YtmkdikoogbedkaaDoor
