import Derived.Test.YtmcimfblhpflnaaDoorWB
import Derived.Deep.RegionHeld3
namespace Go.Proofs.YtmcimfblhpflnaaDoor
open Go.RowKit
set_option maxHeartbeats 2000000
def Two (w : World) (v : Value) (ok : Bool) (e : Ending) (w' : World) : Prop := e = .returned (.tuple #[v, .bool ok]) ∧ Below w.heap.size w w'
theorem wrap_pow16 {m : Nat} (h : m ≤ 16) : RowKit.wrap64 (2 ^ m) = ((2 ^ m : Nat) : Int) := by
  have h3 := pow16n h
  rw [← pow_nat]
  generalize 2 ^ m = x at h3
  exact IntWalk.wrap64_in _ (by omega)
theorem qS_fit {T : Nat → Nat} {n : Nat} (hn : n ≤ 16) (hT : ∀ i, i < n → T i < 2 ^ n) : (qS T n n).1.length ≤ 16 := by
  have := bas_length (inv_at T n n (by omega)).bq (inv_at T n n (by omega)).low
  omega
theorem shl_wrap' (x n : Nat) (hx : x < 65536) (hn : n ≤ 16) : IntKind.i64.wrap ((x : Int) * 2 ^ n) = ((x <<< n : Nat) : Int) := by
  have h1 := pow16n hn
  have h2 : x * 2 ^ n ≤ 65536 * 65536 := Nat.mul_le_mul (by omega) h1
  rw [Nat.shiftLeft_eq, Int.natCast_mul, pow_nat, IntWalk.i64_in _ (by rw [← pow_nat, ← Int.natCast_mul]; generalize x * 2 ^ n = z at h2; omega)]
end Go.Proofs.YtmcimfblhpflnaaDoor
