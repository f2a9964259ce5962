import Derived.Test.YtibikoajejfdeaaC
import Derived.Test.YtibikoajejfdeaaM
namespace Go.Proofs.Ytibikoajejfdeaa
open Go.RowKit
set_option maxHeartbeats 400000
theorem l1InG_any (s lo hi : Int) (w : World) :
    Calls Try.prog 18 #[.int .i64 s, .int .i64 lo, .int .i64 hi] w fun e w' => e = .returned (.bool (inB s lo hi)) ∧ w' = w := by
  by_cases h1 : lo ≤ s <;> by_cases h2 : s ≤ hi
  all_goals
    go_enter Try.func18, Try.ntmps18
    go_wp2
    go_ret
    simp [inB, h1, h2]
theorem hasG_any (s i : Int) (h0 : 0 ≤ i) (h1 : i < 64) (w : World) :
    Calls Try.prog 40 #[.int .i64 s, .int .i64 i] w fun e w' => e = .returned (.bool (bt s i.toNat)) ∧ w' = w := by
  go_enter Try.func40, Try.ntmps40
  go_wp2
  go_ret
  exact ⟨by simp [has_eq], rfl⟩
theorem isCount_any (s : Int) (w : World) :
    Calls Try.prog 38 #[.int .i64 s] w fun e w' => e = .returned (.bool (inB s 1 16)) ∧ w' = w := by
  by_cases h1 : 1 ≤ s <;> by_cases h2 : s ≤ 16
  all_goals
    go_enter Try.func38, Try.ntmps38
    go_wp2
    go_ret
    simp [inB, h1, h2]
theorem isSetOf_any (n : Nat) (s : Int) (w : World) (h0 : n ≤ 16) :
    Calls Try.prog 46 #[.int .i64 n, .int .i64 s] w fun e w' => e = .returned (.bool (inB s 0 (2 ^ n - 1))) ∧ w' = w := by
  go_enter Try.func46, Try.ntmps46
  go_wp2
  go_ret
  refine ⟨?_, rfl⟩
  rw [← isSet_in]
  simp
theorem isSet_any (A : Option Addr) (n c : Nat) (s : Int) (o : Bool) (w : World) (h0 : n ≤ 16) :
    Calls Try.prog 39 #[.agg #[.slice A n c, .bool o], .int .i64 s] w fun e w' => e = .returned (.bool (inB s 0 (2 ^ n - 1))) ∧ Below w.heap.size w w' := by
  go_enter Try.func39, Try.ntmps39
  go_wp2_with (go_at_call 46; refine (isSetOf_any n _ _ h0).mono ?_; rintro e w' ⟨rfl, rfl⟩)
  go_ret
  exact ⟨rfl, by go_grown⟩
end Go.Proofs.Ytibikoajejfdeaa
