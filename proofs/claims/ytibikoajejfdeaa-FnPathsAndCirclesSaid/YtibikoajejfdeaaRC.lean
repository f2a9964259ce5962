import Derived.Test.YtibikoajejfdeaaSB
import Derived.Test.YtibikoajejfdeaaH
import Derived.Test.YtibikoajejfdeaaF
import Derived.Test.YtibikoajejfdeaaK
namespace Go.Proofs.Ytibikoajejfdeaa
open Go.RowKit
/-- What a call leaves that hands back a list of its own. -/
def GrownL (B : Nat) (w : World) (L : List Nat) (e : Ending) (w' : World) : Prop :=
  ∃ (A : Option Addr) (d m : Nat), e = .returned (.slice A m d) ∧ L.length = m ∧ OL w' B (.slice A m d) L ∧ Below B w w'
/-- The rows 0..n. -/
theorem OL.one (w : World) (x : Nat) {B : Nat} (hB : B ≤ w.heap.size) : OL (w.alloc (.cells #[.int .i64 (x : Nat)] 3)) B (.slice (some ⟨w.heap.size, 0, none⟩) 1 1) [x] := by
  refine ⟨rfl, .inr ⟨w.heap.size, 1, #[.int .i64 (x : Nat)], rfl, hB, heap_alloc_new w _, Nat.le_refl _, by decide, rfl, rfl⟩⟩
end Go.Proofs.Ytibikoajejfdeaa
