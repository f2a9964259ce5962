import Derived.Test.YtmcimfblhpflnaaDoorGK
import Derived.BigQuiet
namespace Go.Proofs.YtmcimfblhpflnaaDoor
open Go.RowKit
set_option maxHeartbeats 2000000
theorem new_cell (w : World) (v : Value) (t : TypeId) : (w.alloc (.cells #[v] t)).cell? ⟨w.heap.size, 0, none⟩ = some v := by simp [go_sem]
theorem new_size (w : World) (o : Obj) : w.heap.size ≤ (w.alloc o).heap.size := by simp
theorem has_nat (q x : Nat) (w : World) (hx : x < 64) : Calls Tryd.prog 60 #[.int .i64 q, .int .i64 x] w fun e w' => e = .returned (.bool (q.testBit x)) ∧ w' = w :=
  (hasG_any (q : Int) (x : Int) (by omega) (by omega) w).mono fun e w' ⟨h1, h2⟩ => ⟨by rw [h1, Int.toNat_natCast, bt_nat], h2⟩
theorem grIn_nat (q x : Nat) (w : World) (hx : x < 64) : Calls Tryd.prog 73 #[.int .i64 q, .int .i64 x] w fun e w' => e = .returned (.bool (q.testBit x)) ∧ w' = w :=
  (grInG_any (q : Int) (x : Int) (by omega) (by omega) (by omega) w).mono fun e w' ⟨h1, h2⟩ => ⟨by rw [h1, Int.toNat_natCast, bt_nat], h2⟩
end Go.Proofs.YtmcimfblhpflnaaDoor
