import Derived.Test.YtmlklmdenhhjnaaK
namespace Go.Proofs.Ytmlklmdenhhjnaa
open Go.RowKit
set_option maxHeartbeats 400000
/-- Rows and columns of a grid, at least l of each. -/
def sidesB (r c l : Int) : Bool := decide (l ≤ r ∧ r ≤ 16 ∧ l ≤ c ∧ c ≤ 16 ∧ r * c ≤ 16)
theorem isGrid_any (r c : Int) (w : World) : Calls Try.prog 85 #[.int .i64 r, .int .i64 c] w fun e w' => e = .returned (.bool (sidesB r c 1)) ∧ w' = w := by
  cases h1 : inB r 1 16
  · go_enter Try.func85, Try.ntmps85
    go_wp2_with (go_at_call 61; refine (isCount_any _ _).mono ?_; rintro e w' ⟨rfl, rfl⟩)
    go_ret
    have : sidesB r c 1 = false := by
      simp only [inB, decide_eq_false_iff_not] at h1
      simp only [sidesB, decide_eq_false_iff_not]
      exact fun h => h1 ⟨h.1, h.2.1⟩
    rw [this]; exact ⟨rfl, rfl⟩
  · cases h2 : inB c 1 16
    · go_enter Try.func85, Try.ntmps85
      go_wp2_with (go_at_call 61; refine (isCount_any _ _).mono ?_; rintro e w' ⟨rfl, rfl⟩)
      go_ret
      have : sidesB r c 1 = false := by
        simp only [inB, decide_eq_false_iff_not] at h2
        simp only [sidesB, decide_eq_false_iff_not]
        exact fun h => h2 ⟨h.2.2.1, h.2.2.2.1⟩
      rw [this]; exact ⟨rfl, rfl⟩
    · simp only [inB, decide_eq_true_eq] at h1 h2
      have hp : (1 : Int) ≤ r * c := by have := Int.mul_le_mul h1.1 h2.1 (by omega) (by omega); omega
      have hq : r * c ≤ 256 := by have := Int.mul_le_mul h1.2 h2.2 (by omega) (by omega); omega
      have H1 : inB r 1 16 = true := by simp [inB, h1]
      have H2 : inB c 1 16 = true := by simp [inB, h2]
      go_enter Try.func85, Try.ntmps85
      go_wp2_with (go_at_call 61; refine (isCount_any _ _).mono ?_; rintro e w' ⟨rfl, rfl⟩)
      go_ret
      refine ⟨?_, rfl⟩
      have : sidesB r c 1 = inB (r * c) 1 16 := by
        simp only [sidesB, inB, decide_eq_decide]
        omega
      rw [this]
      rfl
theorem grSides_any (r c l : Int) (w : World) (hl : 1 ≤ l) : Calls Try.prog 83 #[.int .i64 r, .int .i64 c, .int .i64 l] w fun e w' => e = .returned (.bool (sidesB r c l)) ∧ w' = w := by
  cases h1 : inB r l 16
  · go_enter Try.func83, Try.ntmps83
    go_wp2_with (go_at_call 81; refine (l1In_any _ _ _ _).mono ?_; rintro e w' ⟨rfl, rfl⟩)
    go_ret
    have : sidesB r c l = false := by
      simp only [inB, decide_eq_false_iff_not] at h1
      simp only [sidesB, decide_eq_false_iff_not]
      exact fun h => h1 ⟨h.1, h.2.1⟩
    rw [this]; exact ⟨rfl, rfl⟩
  · cases h2 : inB c l 16
    · go_enter Try.func83, Try.ntmps83
      go_wp2_with (go_at_call 81; refine (l1In_any _ _ _ _).mono ?_; rintro e w' ⟨rfl, rfl⟩)
      go_ret
      have : sidesB r c l = false := by
        simp only [inB, decide_eq_false_iff_not] at h2
        simp only [sidesB, decide_eq_false_iff_not]
        exact fun h => h2 ⟨h.2.2.1, h.2.2.2.1⟩
      rw [this]; exact ⟨rfl, rfl⟩
    · simp only [inB, decide_eq_true_eq] at h1 h2
      have hp : (1 : Int) ≤ r * c := by have := Int.mul_le_mul (show 1 ≤ r by omega) (show 1 ≤ c by omega) (by omega) (by omega); omega
      have hq : r * c ≤ 256 := by have := Int.mul_le_mul h1.2 h2.2 (by omega) (by omega); omega
      have H1 : inB r l 16 = true := by simp [inB, h1]
      have H2 : inB c l 16 = true := by simp [inB, h2]
      go_enter Try.func83, Try.ntmps83
      go_wp2_with (go_at_call 81; refine (l1In_any _ _ _ _).mono ?_; rintro e w' ⟨rfl, rfl⟩)
      go_ret
      refine ⟨?_, rfl⟩
      have : sidesB r c l = decide (r * c ≤ 16) := by
        simp only [sidesB, decide_eq_decide]
        omega
      rw [this]
      simp
end Go.Proofs.Ytmlklmdenhhjnaa
