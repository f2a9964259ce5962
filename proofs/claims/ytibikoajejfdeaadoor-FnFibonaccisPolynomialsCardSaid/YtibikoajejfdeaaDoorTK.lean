import Derived.Test.YtibikoajejfdeaaDoorTE
namespace Go.Proofs.YtibikoajejfdeaaDoor
open Go.RowKit
set_option maxHeartbeats 1000000
/-- Does the degree lie there? -/
def dB (p : Nat) (lo hi : Int) : Bool := decide (lo ≤ (bl p : Int) - 1 ∧ (bl p : Int) - 1 ≤ hi)
theorem isPolyOf_no (lo hi p : Int) (w : World) (HA : Hid (inB p 0 2199023255551 = false)) :
    Calls Tryd.prog 27 #[.int .i64 lo, .int .i64 hi, .int .i64 p] w fun e w' => e = .returned (.bool false) ∧ w' = w := by
  go_enter Tryd.func27, Tryd.ntmps27
  go_wp2_with (go_at_call 21; refine (isPoly_any _ _).mono ?_; rintro e w' ⟨rfl, rfl⟩; rw [HA.out])
  go_ret
  exact ⟨rfl, rfl⟩
theorem isPolyOf_ok (lo hi : Int) (p : Nat) (w : World) (hp : p < 2199023255552) (HA : Hid (inB p 0 2199023255551 = true)) :
    Calls Tryd.prog 27 #[.int .i64 lo, .int .i64 hi, .int .i64 p] w fun e w' => e = .returned (.bool (dB p lo hi)) ∧ w' = w := by
  obtain ⟨d, hd⟩ : ∃ d, dB p lo hi = d := ⟨_, rfl⟩
  rw [hd]
  unfold dB at hd
  obtain ⟨b, hb⟩ : ∃ b, bl p = b := ⟨_, rfl⟩
  rw [hb] at hd
  have HB := hide hb
  clear hb
  rw [Bool.decide_and] at hd
  cases e1 : decide (lo ≤ (b : Int) - 1) <;> cases e2 : decide ((b : Int) - 1 ≤ hi)
  all_goals
    rw [e1, e2] at hd
    subst hd
    go_enter Tryd.func27, Tryd.ntmps27
    go_wp2_with (first | (go_at_call 21; refine (isPoly_any _ _).mono ?_; rintro e w' ⟨rfl, rfl⟩; rw [HA.out]) | (go_at_call 23; refine (degree_any _ _ (by omega)).mono ?_; rintro e w3 ⟨rfl, rfl⟩; rw [HB.out]))
    go_ret
    exact ⟨rfl, rfl⟩
end Go.Proofs.YtibikoajejfdeaaDoor
