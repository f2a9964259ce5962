import Derived.Test.YtibikoajejfdeaaDoorTC
namespace Go.Proofs.YtibikoajejfdeaaDoor
open Go.RowKit
set_option maxHeartbeats 1000000
theorem degImpl_no (p : Int) (w : World) (HA : Hid (inB p 0 2199023255551 = false)) :
    Calls Tryd.prog 10 #[.int .i64 p] w fun e w' => e = .returned (.tuple #[.int .i64 0, .bool false]) ∧ w' = w := by
  go_enter Tryd.func10, Tryd.ntmps10
  go_wp2_with (first | (go_at_call 21; refine (isPoly_any _ _).mono ?_; rintro e w' ⟨rfl, rfl⟩; first | rw [HA.out]))
  go_ret2
  exact ⟨rfl, rfl⟩
theorem degImpl_ok (p : Nat) (w : World) (hp : p < 2199023255552) (HA : Hid (inB p 0 2199023255551 = true)) :
    Calls Tryd.prog 10 #[.int .i64 p] w fun e w' => e = .returned (.tuple #[.int .i64 ((bl p : Int) - 1), .bool true]) ∧ w' = w := by
  go_enter Tryd.func10, Tryd.ntmps10
  go_wp2_with (first | (go_at_call 21; refine (isPoly_any _ _).mono ?_; rintro e w' ⟨rfl, rfl⟩; first | rw [HA.out]) | (go_at_call 23; refine (degree_any _ _ (by omega)).mono ?_; rintro e w' ⟨rfl, rfl⟩))
  go_ret2
  exact ⟨rfl, rfl⟩
theorem dvImpl_a (p q : Int) (w : World) (HA : Hid (inB p 0 2199023255551 = false)) :
    Calls Tryd.prog 15 #[.int .i64 p, .int .i64 q] w fun e w' => e = .returned (.tuple #[.int .i64 0, .int .i64 0, .bool false]) ∧ w' = w := by
  go_enter Tryd.func15, Tryd.ntmps15
  go_wp2_with (first | (go_at_call 21; refine (isPoly_any _ _).mono ?_; rintro e w' ⟨rfl, rfl⟩; first | rw [HA.out]))
  go_ret3
  exact ⟨rfl, rfl⟩
theorem dvImpl_b (p q : Int) (w : World) (HA : Hid (inB p 0 2199023255551 = true)) (HB : Hid (inB q 0 2199023255551 = false)) :
    Calls Tryd.prog 15 #[.int .i64 p, .int .i64 q] w fun e w' => e = .returned (.tuple #[.int .i64 0, .int .i64 0, .bool false]) ∧ w' = w := by
  go_enter Tryd.func15, Tryd.ntmps15
  go_wp2_with (first | (go_at_call 21; refine (isPoly_any _ _).mono ?_; rintro e w' ⟨rfl, rfl⟩; first | rw [HA.out] | rw [HB.out]))
  go_ret3
  exact ⟨rfl, rfl⟩
theorem dvImpl_c (p : Int) (w : World) (HA : Hid (inB p 0 2199023255551 = true)) (HB : Hid (inB 0 0 2199023255551 = true)) :
    Calls Tryd.prog 15 #[.int .i64 p, .int .i64 0] w fun e w' => e = .returned (.tuple #[.int .i64 0, .int .i64 0, .bool false]) ∧ w' = w := by
  go_enter Tryd.func15, Tryd.ntmps15
  go_wp2_with (first | (go_at_call 21; refine (isPoly_any _ _).mono ?_; rintro e w' ⟨rfl, rfl⟩; first | rw [HA.out] | rw [HB.out]))
  go_ret3
  exact ⟨rfl, rfl⟩
theorem dvImpl_ok (p q : Nat) (w : World) (hp : p < 2199023255552) (hq : q < 2199023255552) (h0 : q ≠ 0) (HA : Hid (inB p 0 2199023255551 = true)) (HB : Hid (inB q 0 2199023255551 = true)) :
    Calls Tryd.prog 15 #[.int .i64 p, .int .i64 q] w fun e w' => e = .returned (.tuple #[.int .i64 (qu p q : Nat), .int .i64 (rm p q : Nat), .bool true]) ∧ w' = w := by
  have e0 : ((q : Int) == 0) = false := by simp; omega
  go_enter Tryd.func15, Tryd.ntmps15
  go_wp2_with (first | (go_at_call 21; refine (isPoly_any _ _).mono ?_; rintro e w' ⟨rfl, rfl⟩; first | rw [HA.out] | rw [HB.out]) | (go_at_call 33; refine (divided_any _ _ _ (by omega) (by omega) h0).mono ?_; rintro e w' ⟨rfl, rfl⟩))
  go_ret3
  exact ⟨rfl, rfl⟩
end Go.Proofs.YtibikoajejfdeaaDoor
