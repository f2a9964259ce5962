import Derived.Test.YtibikoajejfdeaaDoorRows
import Derived.Test.YtibikoajejfdeaaDoorBase
namespace Go.Proofs.YtibikoajejfdeaaDoor
open Go.RowKit
set_option maxHeartbeats 400000
theorem int_info : (Tryd.prog.info? 3).map (fun i => (i.zero, i.size, i.bytes)) = some (some (.int .i64 0), 1, 8) := by kernel_rfl

def ToIntSPost (w : World) (n : Nat) (f : Nat → Int) (e : Ending) (w' : World) : Prop :=
  e = .returned (.slice (some ⟨w.heap.size, 0, none⟩) n n) ∧ Arr w' 3 w.heap.size n (iv f) ∧ Below w.heap.size w w'

end Go.Proofs.YtibikoajejfdeaaDoor
