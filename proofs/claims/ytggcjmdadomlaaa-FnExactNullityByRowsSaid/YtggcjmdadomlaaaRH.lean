import Derived.Test.YtggcjmdadomlaaaRG
namespace Go.Proofs.Ytggcjmdadomlaaa
open Go.RowKit
set_option maxHeartbeats 1000000
theorem isWide_any (c : Int) (w : World) : Calls Try.prog 78 #[.int .i64 c] w fun e w' => e = .returned (.bool (inB c 1 8)) ∧ w' = w := by
  by_cases h1 : 1 ≤ c <;> by_cases h2 : c ≤ 8
  all_goals
    go_enter Try.func78, Try.ntmps78
    go_wp2
    go_ret
    simp [inB, h1, h2]
theorem isRowNumber_any (c : Int) (w : World) : Calls Try.prog 74 #[.int .i64 c] w fun e w' => e = .returned (.bool (inB c 0 200)) ∧ w' = w := by
  by_cases h1 : 0 ≤ c <;> by_cases h2 : c ≤ 200
  all_goals
    go_enter Try.func74, Try.ntmps74
    go_wp2
    go_ret
    simp [inB, h1, h2]
theorem isRow_no (c f : Int) (w : World) (h : inB c 1 8 = false) : Calls Try.prog 73 #[.int .i64 c, .int .i64 f] w fun e w' => e = .returned (.bool false) ∧ w' = w := by
  have H := Lib.hid h
  clear h
  go_enter Try.func73, Try.ntmps73
  go_wp2_with (go_at_call 78; refine (isWide_any _ _).mono ?_; rintro e w' ⟨rfl, rfl⟩; rw [H.out])
  go_ret
  exact ⟨rfl, rfl⟩
theorem isRow_ok (C : Nat) (f : Int) (w : World) (h1 : 1 ≤ C) (h2 : C ≤ 8) : Calls Try.prog 73 #[.int .i64 C, .int .i64 f] w fun e w' => e = .returned (.bool (inB f 0 (2 ^ C - 1))) ∧ w' = w := by
  have H := Lib.hid (show inB (C : Int) 1 8 = true by simp only [inB, decide_eq_true_eq]; omega)
  go_enter Try.func73, Try.ntmps73
  go_wp2_with (first | (go_at_call 78; refine (isWide_any _ _).mono ?_; rintro e w' ⟨rfl, rfl⟩; rw [H.out]) | (go_at_call 94; refine (isSetOf_any C _ _ (by omega)).mono ?_; rintro e w' ⟨rfl, rfl⟩))
  go_ret
  exact ⟨rfl, rfl⟩
theorem csWide_no (c f : Int) (w : World) (h : inB c 1 8 = false) : Calls Try.prog 70 #[.int .i64 c, .int .i64 f] w fun e w' => e = .returned (.bool false) ∧ w' = w := by
  have H := Lib.hid h
  clear h
  go_enter Try.func70, Try.ntmps70
  go_wp2_with (go_at_call 71; refine (l1In_any _ _ _ _).mono ?_; rintro e w' ⟨rfl, rfl⟩; rw [H.out])
  go_ret
  exact ⟨rfl, rfl⟩
theorem csWide_ok (C : Nat) (f : Int) (w : World) (h1 : 1 ≤ C) (h2 : C ≤ 8) : Calls Try.prog 70 #[.int .i64 C, .int .i64 f] w fun e w' => e = .returned (.bool (inB f 0 (2 ^ C - 1))) ∧ w' = w := by
  have H := Lib.hid (show inB (C : Int) 1 8 = true by simp only [inB, decide_eq_true_eq]; omega)
  have HW2 : RowKit.wrap64 (RowKit.wrap64 (2 ^ C) - 1) = 2 ^ C - 1 := by rw [wrap_one (by omega), ← pow_nat]; have := pow16n (show C ≤ 16 by omega); have := Nat.two_pow_pos C; exact IntWalk.wrap64_in _ (by omega)
  go_enter Try.func70, Try.ntmps70
  go_wp2_with (first | (go_at_call 71; (with_reducible refine (l1In_any _ 1 8 _).mono ?_); rintro e w' ⟨rfl, rfl⟩; rw [H.out]) | (go_at_call 71; refine (l1In_any _ _ _ _).mono ?_; rintro e w' ⟨rfl, rfl⟩))
  go_ret
  exact ⟨rfl, rfl⟩
theorem wide_nat {c : Int} (h : inB c 1 8 = true) : ∃ C : Nat, c = C ∧ 1 ≤ C ∧ C ≤ 8 := by
  simp only [inB, decide_eq_true_eq] at h
  exact ⟨c.toNat, by omega, by omega, by omega⟩
theorem row_nat {f : Int} {C : Nat} (h : inB f 0 (2 ^ C - 1) = true) : ∃ F : Nat, f = F ∧ F < 2 ^ C := by
  simp only [inB, decide_eq_true_eq] at h
  rw [← pow_nat] at h
  exact ⟨f.toNat, by omega, by omega⟩
theorem num_nat {k b : Int} (h : inB k 0 b = true) : ∃ K : Nat, k = K ∧ (K : Int) ≤ b := by
  simp only [inB, decide_eq_true_eq] at h
  exact ⟨k.toNat, by omega, by omega⟩
theorem toggles_law (c : Int) (own : Bool) (f : Int) (w : World) :
    Calls Try.prog 14 #[.int .i64 c, .bool own, .int .i64 f] w fun e w' => e = .returned (.bool true) ∧ w' = w := by
  cases hc : inB c 1 8
  · have i1 : Calls Try.prog 43 #[.int .i64 c, .bool own, .int .i64 f] w fun e w' => e = .returned (.tuple #[.int .i64 0, .bool false]) ∧ w' = w := by
      have H := Lib.hid hc
      clear hc
      go_enter Try.func43, Try.ntmps43
      go_wp2_with (go_at_call 73; refine (isRow_no _ _ _ H.out).mono ?_; rintro e w' ⟨rfl, rfl⟩)
      go_ret2
      exact ⟨rfl, rfl⟩
    have i2 : Calls Try.prog 42 #[.int .i64 c, .bool own, .int .i64 f] w fun e w' => e = .returned (.tuple #[.int .i64 0, .bool false]) ∧ w' = w := by
      have H := Lib.hid hc
      clear hc
      go_enter Try.func42, Try.ntmps42
      go_wp2_with (go_at_call 70; refine (csWide_no _ _ _ H.out).mono ?_; rintro e w' ⟨rfl, rfl⟩)
      go_ret2
      exact ⟨rfl, rfl⟩
    have I1 := Lib.hid i1
    have I2 := Lib.hid i2
    clear i1 i2 hc
    go_enter Try.func14, Try.ntmps14
    go_wp2_with (first | (go_at_call 42; refine (I2.out).mono ?_; rintro e w' ⟨rfl, rfl⟩) | (go_at_call 43; refine (I1.out).mono ?_; rintro e w' ⟨rfl, rfl⟩))
    go_ret
    exact ⟨rfl, rfl⟩
  · obtain ⟨C, rfl, h1, h2⟩ := wide_nat hc
    cases hf : inB f 0 (2 ^ C - 1)
    · have H := Lib.hid hf
      clear hf
      have i1 : Calls Try.prog 43 #[.int .i64 C, .bool own, .int .i64 f] w fun e w' => e = .returned (.tuple #[.int .i64 0, .bool false]) ∧ w' = w := by
        go_enter Try.func43, Try.ntmps43
        go_wp2_with (go_at_call 73; refine (isRow_ok C _ _ h1 h2).mono ?_; rintro e w' ⟨rfl, rfl⟩; rw [H.out])
        go_ret2
        exact ⟨rfl, rfl⟩
      have i2 : Calls Try.prog 42 #[.int .i64 C, .bool own, .int .i64 f] w fun e w' => e = .returned (.tuple #[.int .i64 0, .bool false]) ∧ w' = w := by
        go_enter Try.func42, Try.ntmps42
        go_wp2_with (go_at_call 70; refine (csWide_ok C _ _ h1 h2).mono ?_; rintro e w' ⟨rfl, rfl⟩; rw [H.out])
        go_ret2
        exact ⟨rfl, rfl⟩
      have I1 := Lib.hid i1
      have I2 := Lib.hid i2
      clear i1 i2
      go_enter Try.func14, Try.ntmps14
      go_wp2_with (first | (go_at_call 42; refine (I2.out).mono ?_; rintro e w' ⟨rfl, rfl⟩) | (go_at_call 43; refine (I1.out).mono ?_; rintro e w' ⟨rfl, rfl⟩))
      go_ret
      exact ⟨rfl, rfl⟩
    · obtain ⟨F, rfl, hF⟩ := row_nat hf
      have H := Lib.hid hf
      clear hf
      have i1 : Calls Try.prog 43 #[.int .i64 C, .bool own, .int .i64 F] w fun e w' => e = .returned (.tuple #[.int .i64 (rt C own F : Nat), .bool true]) ∧ w' = w := by
        go_enter Try.func43, Try.ntmps43
        go_wp2_with (first | (go_at_call 73; refine (isRow_ok C _ _ h1 h2).mono ?_; rintro e w' ⟨rfl, rfl⟩; rw [H.out]) | (go_at_call 80; refine (rowToggles_any C F own _ (by omega) hF).mono ?_; rintro e w' ⟨rfl, rfl⟩))
        go_ret2
        exact ⟨rfl, rfl⟩
      have i2 : Calls Try.prog 42 #[.int .i64 C, .bool own, .int .i64 F] w fun e w' => e = .returned (.tuple #[.int .i64 (rt C own F : Nat), .bool true]) ∧ w' = w := by
        go_enter Try.func42, Try.ntmps42
        go_wp2_with (first | (go_at_call 70; refine (csWide_ok C _ _ h1 h2).mono ?_; rintro e w' ⟨rfl, rfl⟩; rw [H.out]) | (go_at_call 75; refine (csToggles_any C F own _ (by omega) hF).mono ?_; rintro e w' ⟨rfl, rfl⟩))
        go_ret2
        exact ⟨rfl, rfl⟩
      have I1 := Lib.hid i1
      have I2 := Lib.hid i2
      clear i1 i2
      go_enter Try.func14, Try.ntmps14
      go_wp2_with (first | (go_at_call 42; refine (I2.out).mono ?_; rintro e w' ⟨rfl, rfl⟩) | (go_at_call 43; refine (I1.out).mono ?_; rintro e w' ⟨rfl, rfl⟩))
      go_ret
      exact ⟨rfl, rfl⟩
theorem lawToggles (c : Int) (own : Bool) (f : Int) (w : World) :
    Calls Try.prog 14 #[.int .i64 c, .bool own, .int .i64 f] w fun e w' => e = .returned (.bool true) ∧ Below w.heap.size w w' :=
  (toggles_law c own f w).mono fun e w' ⟨he, hw⟩ => ⟨he, by subst hw; exact Below.refl _ _⟩
end Go.Proofs.Ytggcjmdadomlaaa
