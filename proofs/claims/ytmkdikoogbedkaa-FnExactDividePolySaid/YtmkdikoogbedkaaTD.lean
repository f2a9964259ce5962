import Derived.Test.YtmkdikoogbedkaaTC
namespace Go.Proofs.Ytmkdikoogbedkaa
open Go.RowKit
set_option maxHeartbeats 1000000
theorem degSpec_no (p : Int) (w : World) (HA : Hid (inB p 0 2199023255551 = false)) :
    Calls Try.prog 16 #[.int .i64 p] w fun e w' => e = .returned (.tuple #[.int .i64 0, .bool false]) ∧ w' = w := by
  go_enter Try.func16, Try.ntmps16
  go_wp2_with (first | (go_at_call 55; refine (poGood_any _ _).mono ?_; rintro e w' ⟨rfl, rfl⟩; first | rw [HA.out]))
  go_ret2
  exact ⟨rfl, rfl⟩
theorem degSpec_ok (p : Nat) (w : World) (hp : p < 2199023255552) (HA : Hid (inB p 0 2199023255551 = true)) :
    Calls Try.prog 16 #[.int .i64 p] w fun e w' => e = .returned (.tuple #[.int .i64 ((bl p : Int) - 1), .bool true]) ∧ w' = w := by
  go_enter Try.func16, Try.ntmps16
  go_wp2_with (first | (go_at_call 55; refine (poGood_any _ _).mono ?_; rintro e w' ⟨rfl, rfl⟩; first | rw [HA.out]) | (go_at_call 56; refine (poDegree_any _ _ (by omega)).mono ?_; rintro e w' ⟨rfl, rfl⟩))
  go_ret2
  exact ⟨rfl, rfl⟩
theorem degImpl_no (p : Int) (w : World) (HA : Hid (inB p 0 2199023255551 = false)) :
    Calls Try.prog 17 #[.int .i64 p] w fun e w' => e = .returned (.tuple #[.int .i64 0, .bool false]) ∧ w' = w := by
  go_enter Try.func17, Try.ntmps17
  go_wp2_with (first | (go_at_call 57; refine (isPoly_any _ _).mono ?_; rintro e w' ⟨rfl, rfl⟩; first | rw [HA.out]))
  go_ret2
  exact ⟨rfl, rfl⟩
theorem degImpl_ok (p : Nat) (w : World) (hp : p < 2199023255552) (HA : Hid (inB p 0 2199023255551 = true)) :
    Calls Try.prog 17 #[.int .i64 p] w fun e w' => e = .returned (.tuple #[.int .i64 ((bl p : Int) - 1), .bool true]) ∧ w' = w := by
  go_enter Try.func17, Try.ntmps17
  go_wp2_with (first | (go_at_call 57; refine (isPoly_any _ _).mono ?_; rintro e w' ⟨rfl, rfl⟩; first | rw [HA.out]) | (go_at_call 58; refine (degree_any _ _ (by omega)).mono ?_; rintro e w' ⟨rfl, rfl⟩))
  go_ret2
  exact ⟨rfl, rfl⟩
theorem lawDegree_no (p : Int) (w : World) (HA : Hid (inB p 0 2199023255551 = false)) :
    Calls Try.prog 3 #[.int .i64 p] w fun e w' => e = .returned (.bool true) ∧ Below w.heap.size w w' := by
  go_enter Try.func3, Try.ntmps3
  go_wp2_with (first | (go_at_call 16; refine (degSpec_no _ _ HA).mono ?_; rintro e w' ⟨rfl, rfl⟩) | (go_at_call 17; refine (degImpl_no _ _ HA).mono ?_; rintro e w' ⟨rfl, rfl⟩))
  go_ret
  exact ⟨rfl, Below.refl _ _⟩
theorem lawDegree_ok (p : Nat) (w : World) (hp : p < 2199023255552) (HA : Hid (inB p 0 2199023255551 = true)) :
    Calls Try.prog 3 #[.int .i64 p] w fun e w' => e = .returned (.bool true) ∧ Below w.heap.size w w' := by
  go_enter Try.func3, Try.ntmps3
  go_wp2_with (first | (go_at_call 16; refine (degSpec_ok _ _ hp HA).mono ?_; rintro e w' ⟨rfl, rfl⟩) | (go_at_call 17; refine (degImpl_ok _ _ hp HA).mono ?_; rintro e w' ⟨rfl, rfl⟩))
  go_ret
  exact ⟨rfl, Below.refl _ _⟩
theorem lawDegree (p : Int) (w : World) : Calls Try.prog 3 #[.int .i64 p] w fun e w' => e = .returned (.bool true) ∧ Below w.heap.size w w' := by
  cases h : inB p 0 2199023255551
  · exact lawDegree_no p w (hide h)
  · obtain ⟨P, rfl, hP⟩ := poly_nat h
    exact lawDegree_ok P w hP (hide h)
theorem dvSpec_a (p q : Int) (w : World) (HA : Hid (inB p 0 2199023255551 = false)) :
    Calls Try.prog 18 #[.int .i64 p, .int .i64 q] w fun e w' => e = .returned (.tuple #[.int .i64 0, .int .i64 0, .bool false]) ∧ w' = w := by
  go_enter Try.func18, Try.ntmps18
  go_wp2_with (first | (go_at_call 55; refine (poGood_any _ _).mono ?_; rintro e w' ⟨rfl, rfl⟩; first | rw [HA.out]))
  go_ret3
  exact ⟨rfl, rfl⟩
theorem dvSpec_b (p q : Int) (w : World) (HA : Hid (inB p 0 2199023255551 = true)) (HB : Hid (inB q 0 2199023255551 = false)) :
    Calls Try.prog 18 #[.int .i64 p, .int .i64 q] w fun e w' => e = .returned (.tuple #[.int .i64 0, .int .i64 0, .bool false]) ∧ w' = w := by
  go_enter Try.func18, Try.ntmps18
  go_wp2_with (first | (go_at_call 55; refine (poGood_any _ _).mono ?_; rintro e w' ⟨rfl, rfl⟩; first | rw [HA.out] | rw [HB.out]))
  go_ret3
  exact ⟨rfl, rfl⟩
theorem dvSpec_c (p : Int) (w : World) (HA : Hid (inB p 0 2199023255551 = true)) (HB : Hid (inB 0 0 2199023255551 = true)) :
    Calls Try.prog 18 #[.int .i64 p, .int .i64 0] w fun e w' => e = .returned (.tuple #[.int .i64 0, .int .i64 0, .bool false]) ∧ w' = w := by
  go_enter Try.func18, Try.ntmps18
  go_wp2_with (first | (go_at_call 55; refine (poGood_any _ _).mono ?_; rintro e w' ⟨rfl, rfl⟩; first | rw [HA.out] | rw [HB.out]))
  go_ret3
  exact ⟨rfl, rfl⟩
theorem dvSpec_ok (p q : Nat) (w : World) (hp : p < 2199023255552) (hq : q < 2199023255552) (h0 : q ≠ 0) (HA : Hid (inB p 0 2199023255551 = true)) (HB : Hid (inB q 0 2199023255551 = true)) :
    Calls Try.prog 18 #[.int .i64 p, .int .i64 q] w fun e w' => e = .returned (.tuple #[.int .i64 (qu p q : Nat), .int .i64 (rm p q : Nat), .bool true]) ∧ w' = w := by
  have e0 : ((q : Int) == 0) = false := by simp; omega
  go_enter Try.func18, Try.ntmps18
  go_wp2_with (first | (go_at_call 55; refine (poGood_any _ _).mono ?_; rintro e w' ⟨rfl, rfl⟩; first | rw [HA.out] | rw [HB.out]) | (go_at_call 59; refine (poDivide_any _ _ _ (by omega) (by omega) h0).mono ?_; rintro e w' ⟨rfl, rfl⟩))
  go_ret3
  exact ⟨rfl, rfl⟩
theorem dvImpl_a (p q : Int) (w : World) (HA : Hid (inB p 0 2199023255551 = false)) :
    Calls Try.prog 19 #[.int .i64 p, .int .i64 q] w fun e w' => e = .returned (.tuple #[.int .i64 0, .int .i64 0, .bool false]) ∧ w' = w := by
  go_enter Try.func19, Try.ntmps19
  go_wp2_with (first | (go_at_call 57; refine (isPoly_any _ _).mono ?_; rintro e w' ⟨rfl, rfl⟩; first | rw [HA.out]))
  go_ret3
  exact ⟨rfl, rfl⟩
theorem dvImpl_b (p q : Int) (w : World) (HA : Hid (inB p 0 2199023255551 = true)) (HB : Hid (inB q 0 2199023255551 = false)) :
    Calls Try.prog 19 #[.int .i64 p, .int .i64 q] w fun e w' => e = .returned (.tuple #[.int .i64 0, .int .i64 0, .bool false]) ∧ w' = w := by
  go_enter Try.func19, Try.ntmps19
  go_wp2_with (first | (go_at_call 57; refine (isPoly_any _ _).mono ?_; rintro e w' ⟨rfl, rfl⟩; first | rw [HA.out] | rw [HB.out]))
  go_ret3
  exact ⟨rfl, rfl⟩
theorem dvImpl_c (p : Int) (w : World) (HA : Hid (inB p 0 2199023255551 = true)) (HB : Hid (inB 0 0 2199023255551 = true)) :
    Calls Try.prog 19 #[.int .i64 p, .int .i64 0] w fun e w' => e = .returned (.tuple #[.int .i64 0, .int .i64 0, .bool false]) ∧ w' = w := by
  go_enter Try.func19, Try.ntmps19
  go_wp2_with (first | (go_at_call 57; refine (isPoly_any _ _).mono ?_; rintro e w' ⟨rfl, rfl⟩; first | rw [HA.out] | rw [HB.out]))
  go_ret3
  exact ⟨rfl, rfl⟩
theorem dvImpl_ok (p q : Nat) (w : World) (hp : p < 2199023255552) (hq : q < 2199023255552) (h0 : q ≠ 0) (HA : Hid (inB p 0 2199023255551 = true)) (HB : Hid (inB q 0 2199023255551 = true)) :
    Calls Try.prog 19 #[.int .i64 p, .int .i64 q] w fun e w' => e = .returned (.tuple #[.int .i64 (qu p q : Nat), .int .i64 (rm p q : Nat), .bool true]) ∧ w' = w := by
  have e0 : ((q : Int) == 0) = false := by simp; omega
  go_enter Try.func19, Try.ntmps19
  go_wp2_with (first | (go_at_call 57; refine (isPoly_any _ _).mono ?_; rintro e w' ⟨rfl, rfl⟩; first | rw [HA.out] | rw [HB.out]) | (go_at_call 60; refine (divided_any _ _ _ (by omega) (by omega) h0).mono ?_; rintro e w' ⟨rfl, rfl⟩))
  go_ret3
  exact ⟨rfl, rfl⟩
theorem lawDivide_a (p q : Int) (w : World) (HA : Hid (inB p 0 2199023255551 = false)) :
    Calls Try.prog 4 #[.int .i64 p, .int .i64 q] w fun e w' => e = .returned (.bool true) ∧ Below w.heap.size w w' := by
  go_enter Try.func4, Try.ntmps4
  go_wp2_with (first | (go_at_call 18; refine (dvSpec_a _ _ _ HA).mono ?_; rintro e w' ⟨rfl, rfl⟩) | (go_at_call 19; refine (dvImpl_a _ _ _ HA).mono ?_; rintro e w' ⟨rfl, rfl⟩))
  go_ret
  exact ⟨rfl, Below.refl _ _⟩
theorem lawDivide_b (p q : Int) (w : World) (HA : Hid (inB p 0 2199023255551 = true)) (HB : Hid (inB q 0 2199023255551 = false)) :
    Calls Try.prog 4 #[.int .i64 p, .int .i64 q] w fun e w' => e = .returned (.bool true) ∧ Below w.heap.size w w' := by
  go_enter Try.func4, Try.ntmps4
  go_wp2_with (first | (go_at_call 18; refine (dvSpec_b _ _ _ HA HB).mono ?_; rintro e w' ⟨rfl, rfl⟩) | (go_at_call 19; refine (dvImpl_b _ _ _ HA HB).mono ?_; rintro e w' ⟨rfl, rfl⟩))
  go_ret
  exact ⟨rfl, Below.refl _ _⟩
theorem lawDivide_c (p : Int) (w : World) (HA : Hid (inB p 0 2199023255551 = true)) (HB : Hid (inB 0 0 2199023255551 = true)) :
    Calls Try.prog 4 #[.int .i64 p, .int .i64 0] w fun e w' => e = .returned (.bool true) ∧ Below w.heap.size w w' := by
  go_enter Try.func4, Try.ntmps4
  go_wp2_with (first | (go_at_call 18; refine (dvSpec_c _ _ HA HB).mono ?_; rintro e w' ⟨rfl, rfl⟩) | (go_at_call 19; refine (dvImpl_c _ _ HA HB).mono ?_; rintro e w' ⟨rfl, rfl⟩))
  go_ret
  exact ⟨rfl, Below.refl _ _⟩
theorem lawDivide_ok (p q : Nat) (w : World) (hp : p < 2199023255552) (hq : q < 2199023255552) (h0 : q ≠ 0) (HA : Hid (inB p 0 2199023255551 = true)) (HB : Hid (inB q 0 2199023255551 = true)) :
    Calls Try.prog 4 #[.int .i64 p, .int .i64 q] w fun e w' => e = .returned (.bool true) ∧ Below w.heap.size w w' := by
  go_enter Try.func4, Try.ntmps4
  go_wp2_with (first | (go_at_call 18; refine (dvSpec_ok _ _ _ hp hq h0 HA HB).mono ?_; rintro e w' ⟨rfl, rfl⟩) | (go_at_call 19; refine (dvImpl_ok _ _ _ hp hq h0 HA HB).mono ?_; rintro e w' ⟨rfl, rfl⟩))
  go_ret
  exact ⟨rfl, Below.refl _ _⟩
theorem lawDivide (p q : Int) (w : World) : Calls Try.prog 4 #[.int .i64 p, .int .i64 q] w fun e w' => e = .returned (.bool true) ∧ Below w.heap.size w w' := by
  cases h : inB p 0 2199023255551
  · exact lawDivide_a p q w (hide h)
  · cases h2 : inB q 0 2199023255551
    · exact lawDivide_b p q w (hide h) (hide h2)
    · by_cases h0 : q = 0
      · subst h0; exact lawDivide_c p w (hide h) (hide h2)
      · obtain ⟨P, rfl, hP⟩ := poly_nat h
        obtain ⟨Q, rfl, hQ⟩ := poly_nat h2
        exact lawDivide_ok P Q w hP hQ (by omega) (hide h) (hide h2)
end Go.Proofs.Ytmkdikoogbedkaa
