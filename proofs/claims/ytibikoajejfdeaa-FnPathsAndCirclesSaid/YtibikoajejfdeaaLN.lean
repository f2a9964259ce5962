/-
Nullities of paths and circles by remainders: both sides, at every number.
-/
import Derived.Test.YtibikoajejfdeaaD
namespace Go.Proofs.Ytibikoajejfdeaa
open Go.RowKit
set_option maxHeartbeats 1000000
theorem pathNo_spec (a : Int) (own : Bool) (w : World) (h : inB a 1 1000000 = false) :
    Calls Try.prog 7 #[.int .i64 a, .bool own] w fun e w' => e = .returned (.tuple #[.int .i64 0, .bool false]) ∧ w' = w := by
  go_enter Try.func7, Try.ntmps7
  go_wp2_with (go_at_call 18; refine (l1InG_any _ _ _ _).mono ?_; rintro e w' ⟨rfl, rfl⟩; rw [h])
  go_ret2
  exact ⟨rfl, rfl⟩
theorem pathNo_impl (a : Int) (own : Bool) (w : World) (h : inB a 1 1000000 = false) :
    Calls Try.prog 6 #[.int .i64 a, .bool own] w fun e w' => e = .returned (.tuple #[.int .i64 0, .bool false]) ∧ w' = w := by
  have h2 : a < 1 ∨ (¬ a < 1 ∧ 1000000 < a) := by simp only [inB, decide_eq_false_iff_not] at h; omega
  clear h
  rcases h2 with h1 | ⟨h1, h2⟩
  all_goals
    go_enter Try.func6, Try.ntmps6
    go_wp2
    go_ret2
    exact ⟨rfl, rfl⟩
/-- What is told of a path. -/
def pnV (n : Nat) (own : Bool) : Int := if own then ((n % 3 / 2 : Nat) : Int) else ((n % 2 : Nat) : Int)
theorem pathOk_spec (n : Nat) (own : Bool) (w : World) (h : inB n 1 1000000 = true) :
    Calls Try.prog 7 #[.int .i64 n, .bool own] w fun e w' => e = .returned (.tuple #[.int .i64 (pnV n own), .bool true]) ∧ w' = w := by
  have hb : n ≤ 1000000 := by simp only [inB, decide_eq_true_eq] at h; omega
  cases own
  all_goals
    go_enter Try.func7, Try.ntmps7
    go_wp2_with (go_at_call 18; refine (l1InG_any _ _ _ _).mono ?_; rintro e w' ⟨rfl, rfl⟩; rw [h])
    go_ret2
    exact ⟨by simp [pnV]; try omega, rfl⟩
theorem pathOk_impl (n : Nat) (own : Bool) (w : World) (h : inB n 1 1000000 = true) :
    Calls Try.prog 6 #[.int .i64 n, .bool own] w fun e w' => e = .returned (.tuple #[.int .i64 (pnV n own), .bool true]) ∧ w' = w := by
  have hb : 1 ≤ n ∧ n ≤ 1000000 := by simp only [inB, decide_eq_true_eq] at h; omega
  clear h
  obtain ⟨h1, h2⟩ := hb
  cases own
  all_goals
    go_enter Try.func6, Try.ntmps6
    go_wp2
    go_ret2
    exact ⟨by simp [pnV]; try omega, rfl⟩
theorem circleNo_spec (a : Int) (own : Bool) (w : World) (h : inB a 3 1000000 = false) :
    Calls Try.prog 10 #[.int .i64 a, .bool own] w fun e w' => e = .returned (.tuple #[.int .i64 0, .bool false]) ∧ w' = w := by
  go_enter Try.func10, Try.ntmps10
  go_wp2_with (go_at_call 18; refine (l1InG_any _ _ _ _).mono ?_; rintro e w' ⟨rfl, rfl⟩; rw [h])
  go_ret2
  exact ⟨rfl, rfl⟩
theorem circleNo_impl (a : Int) (own : Bool) (w : World) (h : inB a 3 1000000 = false) :
    Calls Try.prog 9 #[.int .i64 a, .bool own] w fun e w' => e = .returned (.tuple #[.int .i64 0, .bool false]) ∧ w' = w := by
  have h2 : a < 3 ∨ (¬ a < 3 ∧ 1000000 < a) := by simp only [inB, decide_eq_false_iff_not] at h; omega
  clear h
  rcases h2 with h1 | ⟨h1, h2⟩
  all_goals
    go_enter Try.func9, Try.ntmps9
    go_wp2
    go_ret2
    exact ⟨rfl, rfl⟩
/-- What is told of a circle. -/
def cnV (n : Nat) (own : Bool) : Int := if own then (if n % 3 = 0 then 2 else 0) else ((2 - n % 2 : Nat) : Int)
theorem circleOk_spec (n : Nat) (own : Bool) (w : World) (h : inB n 3 1000000 = true) :
    Calls Try.prog 10 #[.int .i64 n, .bool own] w fun e w' => e = .returned (.tuple #[.int .i64 (cnV n own), .bool true]) ∧ w' = w := by
  have hb : n ≤ 1000000 := by simp only [inB, decide_eq_true_eq] at h; omega
  by_cases h3 : n % 3 = 0
  · have h4 : ((n : Int).tmod 3 == 0) = true := by rw [Int.tmod_eq_emod_of_nonneg (by omega)]; simp; omega
    cases own
    all_goals
      go_enter Try.func10, Try.ntmps10
      go_wp2_with (go_at_call 18; refine (l1InG_any _ _ _ _).mono ?_; rintro e w' ⟨rfl, rfl⟩; rw [h])
      go_ret2
      exact ⟨by simp [cnV, h3]; try omega, rfl⟩
  · have h4 : ((n : Int).tmod 3 == 0) = false := by rw [Int.tmod_eq_emod_of_nonneg (by omega)]; simp; omega
    cases own
    all_goals
      go_enter Try.func10, Try.ntmps10
      go_wp2_with (go_at_call 18; refine (l1InG_any _ _ _ _).mono ?_; rintro e w' ⟨rfl, rfl⟩; rw [h])
      go_ret2
      exact ⟨by simp [cnV, h3]; try omega, rfl⟩
theorem circleOk_impl (n : Nat) (own : Bool) (w : World) (h : inB n 3 1000000 = true) :
    Calls Try.prog 9 #[.int .i64 n, .bool own] w fun e w' => e = .returned (.tuple #[.int .i64 (cnV n own), .bool true]) ∧ w' = w := by
  have hb : 3 ≤ n ∧ n ≤ 1000000 := by simp only [inB, decide_eq_true_eq] at h; omega
  clear h
  obtain ⟨h1, h2⟩ := hb
  by_cases h3 : n % 3 = 0
  · have h4 : ((n : Int).tmod 3 == 0) = true := by rw [Int.tmod_eq_emod_of_nonneg (by omega)]; simp; omega
    cases own
    all_goals
      go_enter Try.func9, Try.ntmps9
      go_wp2
      go_ret2
      exact ⟨by simp [cnV, h3]; try omega, rfl⟩
  · have h4 : ((n : Int).tmod 3 == 0) = false := by rw [Int.tmod_eq_emod_of_nonneg (by omega)]; simp; omega
    cases own
    all_goals
      go_enter Try.func9, Try.ntmps9
      go_wp2
      go_ret2
      exact ⟨by simp [cnV, h3]; try omega, rfl⟩
end Go.Proofs.Ytibikoajejfdeaa
