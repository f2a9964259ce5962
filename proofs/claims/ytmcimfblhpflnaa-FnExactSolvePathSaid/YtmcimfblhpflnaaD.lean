import Derived.Test.YtmcimfblhpflnaaC
import Derived.Test.YtmcimfblhpflnaaM
namespace Go.Proofs.Ytmcimfblhpflnaa
open Go.RowKit
set_option maxHeartbeats 400000
theorem l1InG_any (s lo hi : Int) (w : World) :
    Calls Try.prog 27 #[.int .i64 s, .int .i64 lo, .int .i64 hi] w fun e w' => e = .returned (.bool (inB s lo hi)) ∧ w' = w := by
  by_cases h1 : lo ≤ s <;> by_cases h2 : s ≤ hi
  all_goals
    go_enter Try.func27, Try.ntmps27
    go_wp2
    go_ret
    simp [inB, h1, h2]
theorem grSize_any (s : Int) (w : World) :
    Calls Try.prog 28 #[.int .i64 s] w fun e w' => e = .returned (.bool (inB s 1 16)) ∧ w' = w := by
  go_enter Try.func28, Try.ntmps28
  go_wp2_with (go_at_call 27; refine (l1InG_any _ _ _ _).mono ?_; rintro e w' ⟨rfl, rfl⟩)
  go_ret
  exact ⟨rfl, rfl⟩
theorem grInG_any (s : Int) (i : Int) (h : 0 ≤ s) (h0 : 0 ≤ i) (h1 : i < 64) (w : World) :
    Calls Try.prog 37 #[.int .i64 s, .int .i64 i] w fun e w' => e = .returned (.bool (bt s i.toNat)) ∧ w' = w := by
  go_enter Try.func37, Try.ntmps37
  go_wp2
  go_ret
  exact ⟨by simp [grIn_eq _ _ h], rfl⟩
theorem isCount_any (s : Int) (w : World) :
    Calls Try.prog 30 #[.int .i64 s] w fun e w' => e = .returned (.bool (inB s 1 16)) ∧ w' = w := by
  by_cases h1 : 1 ≤ s <;> by_cases h2 : s ≤ 16
  all_goals
    go_enter Try.func30, Try.ntmps30
    go_wp2
    go_ret
    simp [inB, h1, h2]
theorem isSetOf_any (n : Nat) (s : Int) (w : World) (h0 : n ≤ 16) :
    Calls Try.prog 48 #[.int .i64 n, .int .i64 s] w fun e w' => e = .returned (.bool (inB s 0 (2 ^ n - 1))) ∧ w' = w := by
  go_enter Try.func48, Try.ntmps48
  go_wp2
  go_ret
  refine ⟨?_, rfl⟩
  rw [← isSet_in]
  simp
end Go.Proofs.Ytmcimfblhpflnaa
