/-
The model's states: one part more, one way more.
-/
import Derived.Test.YtmcimfblhpflnaaDoorZb
import Derived.Test.YtmcimfblhpflnaaDoorFA
import Derived.Deep.RegionLaw
namespace Go.Proofs.YtmcimfblhpflnaaDoor
open Go.RowKit
set_option maxHeartbeats 40000000
/-- A state as the model holds it. -/
def sv (s : Nat × Nat) : Value := .agg #[.int .i64 (s.1 : Nat), .int .i64 (s.2 : Nat)]
theorem l1Least_any (a b : Nat) (w : World) : Calls Tryd.prog 81 #[.int .i64 (a : Nat), .int .i64 (b : Nat)] w fun e w' => e = .returned (.int .i64 ((min a b : Nat) : Int)) ∧ w' = w := by
  go_enter Tryd.func81, Tryd.ntmps81
  by_cases h : (a : Int) < (b : Int)
  · go_wp2
    go_ret
    refine ⟨?_, rfl⟩
    rw [Nat.min_eq_left (by omega)]; rfl
  · go_wp2
    go_ret
    refine ⟨?_, rfl⟩
    rw [Nat.min_eq_right (by omega)]; rfl
theorem trNext_any (a b : Nat × Nat) (w : World) (h1 : a.1 * b.1 < 2 ^ 62) (h2 : a.2 + b.2 < 2 ^ 62) : Calls Tryd.prog 88 #[sv a, sv b] w fun e w' => e = .returned (sv (accM.both a b)) ∧ Below w.heap.size w w' := by
  obtain ⟨a1, a2⟩ := a
  obtain ⟨b1, b2⟩ := b
  simp only [sv] at *
  by_cases ha : a1 = 0
  · have e : accM.both (a1, a2) (b1, b2) = (0, 0) := by simp [accM, ha]
    rw [e]
    subst ha
    go_enter Tryd.func88, Tryd.ntmps88
    go_wp2
    refine bodyPost_ret (v := sv (0, 0)) (by simp [results, Tryd.results88, go_sem, sv]) rfl ⟨rfl, ?_⟩
    go_grown
  · have hai : ((a1 : Int) == 0) = false := by simp [ha]
    by_cases hb : b1 = 0
    · have e : accM.both (a1, a2) (b1, b2) = (0, 0) := by simp [accM, hb]
      rw [e]
      subst hb
      go_enter Tryd.func88, Tryd.ntmps88
      go_wp2
      refine bodyPost_ret (v := sv (0, 0)) (by simp [results, Tryd.results88, go_sem, sv]) rfl ⟨rfl, ?_⟩
      go_grown
    · have hbi : ((b1 : Int) == 0) = false := by simp [hb]
      have e : accM.both (a1, a2) (b1, b2) = (a1 * b1, a2 + b2) := by simp [accM, ha, hb]
      rw [e]
      have c1 : ((a1 * b1 : Nat) : Int) = (a1 : Int) * (b1 : Int) := Int.natCast_mul a1 b1
      have c3 : (a1 : Int) * (b1 : Int) < 4611686018427387904 := by rw [← c1]; have : a1 * b1 < 4611686018427387904 := h1; omega
      have c4 : (0 : Int) ≤ (a1 : Int) * (b1 : Int) := by rw [← c1]; omega
      have h2' : a2 + b2 < 4611686018427387904 := h2
      clear h1 h2 e
      go_enter Tryd.func88, Tryd.ntmps88
      go_wp2
      all_goals first
        | (exfalso; simp_all; done)
        | (refine bodyPost_ret (v := sv (a1 * b1, a2 + b2)) (by simp [results, Tryd.results88, go_sem, sv]) rfl ⟨rfl, ?_⟩
           go_grown)
theorem trBoth_any (a b : Nat × Nat) (w : World) (h1 : a.1 + b.1 < 2 ^ 62) : Calls Tryd.prog 89 #[sv a, sv b] w fun e w' => e = .returned (sv (accM.either a b)) ∧ Below w.heap.size w w' := by
  obtain ⟨a1, a2⟩ := a
  obtain ⟨b1, b2⟩ := b
  simp only [sv] at *
  by_cases ha : a1 = 0
  · have e : accM.either (a1, a2) (b1, b2) = (b1, b2) := by simp [accM, ha]
    rw [e]
    subst ha
    go_enter Tryd.func89, Tryd.ntmps89
    go_wp2
    refine bodyPost_ret (v := sv (b1, b2)) (by simp [results, Tryd.results89, go_sem, sv]) rfl ⟨rfl, ?_⟩
    go_grown
  · have hai : ((a1 : Int) == 0) = false := by simp [ha]
    by_cases hb : b1 = 0
    · have e : accM.either (a1, a2) (b1, b2) = (a1, a2) := by simp [accM, ha, hb]
      rw [e]
      subst hb
      go_enter Tryd.func89, Tryd.ntmps89
      go_wp2
      all_goals first
        | (exfalso; simp_all; done)
        | (refine bodyPost_ret (v := sv (a1, a2)) (by simp [results, Tryd.results89, go_sem, sv]) rfl ⟨rfl, ?_⟩
           go_grown)
    · have hbi : ((b1 : Int) == 0) = false := by simp [hb]
      have e : accM.either (a1, a2) (b1, b2) = (a1 + b1, min a2 b2) := by simp [accM, ha, hb]
      rw [e]
      have h1' : a1 + b1 < 4611686018427387904 := h1
      clear h1 e
      go_enter Tryd.func89, Tryd.ntmps89
      go_wp2
      go_region_law (first | (go_simp; go_at_call 81; refine (l1Least_any _ _ _).mono ?_; rintro e w' ⟨rfl, rfl⟩; go_simp))
      go_wp2
      all_goals
        have cw : IntKind.i64.wrap ((a1 : Int) + (b1 : Int)) = (a1 : Int) + (b1 : Int) := by rw [IntKind.wrap_i64]; omega
        refine bodyPost_ret (v := sv (a1 + b1, min a2 b2)) (by simp [results, Tryd.results89, go_sem, sv, cw]) rfl ⟨rfl, ?_⟩
        go_grown
end Go.Proofs.YtmcimfblhpflnaaDoor
