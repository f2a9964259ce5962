import Derived.Test.YtibikoajejfdeaaDoorB
import Derived.Handy
namespace Go.Proofs.YtibikoajejfdeaaDoor
open Go.RowKit
set_option maxHeartbeats 400000

/-- What a call that hands back a new graph leaves. -/
def NewGraph (w : World) (n : Nat) (f : Nat → Int) (own : Bool) (e : Ending) (w' : World) : Prop :=
  ∃ g, e = .returned (.agg #[.slice (some ⟨g, 0, none⟩) n n, .bool own]) ∧ w.heap.size ≤ g ∧ Arr w' 3 g n (iv f) ∧ Below w.heap.size w w'

end Go.Proofs.YtibikoajejfdeaaDoor
