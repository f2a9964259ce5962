import Derived.Test.YtmkdikoogbedkaaTK
namespace Go.Proofs.Ytmkdikoogbedkaa
open Go.RowKit
set_option maxHeartbeats 1000000
theorem orSpec_no (p : Int) (w : World) (HA : Hid (inB p 0 2199023255551 = false)) :
    Calls Try.prog 35 #[.int .i64 p] w fun e w' => e = .returned (.tuple #[.int .i64 0, .bool false]) ∧ w' = w := by
  go_enter Try.func35, Try.ntmps35
  go_wp2_with (first | (go_at_call 55; refine (poGood_any _ _).mono ?_; rintro e w' ⟨rfl, rfl⟩; first | rw [HA.out]))
  go_ret2
  exact ⟨rfl, rfl⟩
theorem orImpl_no (p : Int) (w : World) (HA : Hid (inB p 0 2199023255551 = false)) :
    Calls Try.prog 36 #[.int .i64 p] w fun e w' => e = .returned (.tuple #[.int .i64 0, .bool false]) ∧ w' = w := by
  go_enter Try.func36, Try.ntmps36
  go_wp2_with (first | (go_at_call 68; refine (isPolyOf_no _ _ _ _ HA).mono ?_; rintro e w' ⟨rfl, rfl⟩))
  go_ret2
  exact ⟨rfl, rfl⟩
theorem orSpec_even (p : Nat) (w : World) (hp : p < 2199023255552) (HA : Hid (inB p 0 2199023255551 = true)) (h2 : p % 2 = 0) :
    Calls Try.prog 35 #[.int .i64 p] w fun e w' => e = .returned (.tuple #[.int .i64 0, .bool false]) ∧ w' = w := by
  have e1 : ((p : Int).tmod 2 == 0) = true := by rw [Int.tmod_eq_emod_of_nonneg (by omega)]; simp; omega
  go_enter Try.func35, Try.ntmps35
  go_wp2_with (first | (go_at_call 55; refine (poGood_any _ _).mono ?_; rintro e w' ⟨rfl, rfl⟩; first | rw [HA.out]))
  go_ret2
  exact ⟨rfl, rfl⟩
theorem orImpl_even (p : Nat) (w : World) (hp : p < 2199023255552) (HA : Hid (inB p 0 2199023255551 = true)) (h2 : p % 2 = 0) :
    Calls Try.prog 36 #[.int .i64 p] w fun e w' => e = .returned (.tuple #[.int .i64 0, .bool false]) ∧ w' = w := by
  have ht : p.testBit 0 = false := by rw [Nat.testBit_zero]; simp; omega
  have HT := hide ht
  clear ht
  cases hd : dB p 1 12
  all_goals
    have HD := hide hd
    clear hd
    go_enter Try.func36, Try.ntmps36
    go_wp2_with (first | (go_at_call 68; refine (isPolyOf_ok _ _ _ _ hp HA).mono ?_; rintro e w' ⟨rfl, rfl⟩; rw [HD.out]) | (go_at_call 72; refine (has_any p 0 (by omega) (by omega) _).mono ?_; rintro e w3 ⟨rfl, rfl⟩; rw [show (0 : Int).toNat = 0 from rfl, HT.out]))
    go_ret2
    exact ⟨rfl, rfl⟩
theorem orSpec_deg (p b : Nat) (w : World) (hp : p < 2199023255552) (HA : Hid (inB p 0 2199023255551 = true)) (h2 : p % 2 = 1) (HB : Hid (bl p = b)) (HD : Hid (inB ((b : Int) - 1) 1 12 = false)) :
    Calls Try.prog 35 #[.int .i64 p] w fun e w' => e = .returned (.tuple #[.int .i64 0, .bool false]) ∧ w' = w := by
  have e1 : ((p : Int).tmod 2 == 0) = false := by rw [Int.tmod_eq_emod_of_nonneg (by omega)]; simp; omega
  go_enter Try.func35, Try.ntmps35
  go_wp2_with (first | (go_at_call 55; refine (poGood_any _ _).mono ?_; rintro e w' ⟨rfl, rfl⟩; first | rw [HA.out]) | (go_at_call 56; refine (poDegree_any _ _ (by omega)).mono ?_; rintro e w' ⟨rfl, rfl⟩; rw [HB.out]) | (go_at_call 70; refine (l1In_any _ _ _ _).mono ?_; rintro e w' ⟨rfl, rfl⟩; rw [HD.out]))
  go_ret2
  exact ⟨rfl, rfl⟩
theorem orImpl_deg (p b : Nat) (w : World) (hp : p < 2199023255552) (HA : Hid (inB p 0 2199023255551 = true)) (HB : Hid (bl p = b)) (HD : Hid (inB ((b : Int) - 1) 1 12 = false)) :
    Calls Try.prog 36 #[.int .i64 p] w fun e w' => e = .returned (.tuple #[.int .i64 0, .bool false]) ∧ w' = w := by
  have HE : Hid (dB p 1 12 = false) := hide (by rw [← HD.out, ← HB.out]; rfl)
  go_enter Try.func36, Try.ntmps36
  go_wp2_with (first | (go_at_call 68; refine (isPolyOf_ok _ _ _ _ hp HA).mono ?_; rintro e w' ⟨rfl, rfl⟩; rw [HE.out]))
  go_ret2
  exact ⟨rfl, rfl⟩
theorem orSpec_ok (p b K : Nat) (w : World) (hp : p < 2199023255552) (HA : Hid (inB p 0 2199023255551 = true)) (h2 : p % 2 = 1) (hp2 : 2 ≤ p) (hp13 : p < 8192) (HB : Hid (bl p = b)) (HD : Hid (inB ((b : Int) - 1) 1 12 = true)) (HO : Ord p K) (hK : K ≤ 4096) :
    Calls Try.prog 35 #[.int .i64 p] w fun e w' => e = .returned (.tuple #[.int .i64 (K : Nat), .bool true]) ∧ w' = w := by
  have HE : Hid (dB p 1 12 = true) := hide (by rw [← HD.out, ← HB.out]; rfl)
  have e1 : ((p : Int).tmod 2 == 0) = false := by rw [Int.tmod_eq_emod_of_nonneg (by omega)]; simp; omega
  have ht : p.testBit 0 = true := by rw [Nat.testBit_zero]; simp; omega
  have HT := hide ht
  have hr1 : rm 1 p = 1 := rm_small (Nat.one_lt_two_pow (by have := bl_two hp2; omega))
  have H1 := hide hr1
  have hk1 := HO.pos
  have H12 : Hid (∀ k, po p k < 4096) := hide (fun k => Nat.lt_of_lt_of_le (po_lt hp2 k) (by
    have : bl p ≤ 13 := bl_le.2 hp13
    exact Nat.pow_le_pow_right (n := 2) (j := 12) (by decide) (by omega)))
  obtain ⟨X1, hX1⟩ : ∃ X, po p 1 = X := ⟨_, rfl⟩
  have HX1 := hide (show rm 2 p = X1 from hX1)
  have HX2 := hide hX1
  have hx12 := H12.out 1
  rw [hX1] at hx12
  have HO2 := hide HO
  clear ht hr1 hX1 HO
  go_enter Try.func35, Try.ntmps35
  go_wp2_with (first | (go_at_call 55; refine (poGood_any _ _).mono ?_; rintro e w' ⟨rfl, rfl⟩; first | rw [HA.out]) | (go_at_call 56; refine (poDegree_any _ _ (by omega)).mono ?_; rintro e w' ⟨rfl, rfl⟩; rw [HB.out]) | (go_at_call 70; refine (l1In_any _ _ _ _).mono ?_; rintro e w' ⟨rfl, rfl⟩; rw [HD.out]) | (go_at_call 71; refine (poRest_any 2 p _ (by omega) (by omega) (by omega)).mono ?_; rintro e w3 ⟨rfl, rfl⟩; rw [HX1.out]))
  go_loop [4, 5] (fun k x => ∃ (n X : Nat), k = .int .i64 n ∧ x = .int .i64 X ∧ 1 ≤ n ∧ n ≤ K ∧ X < 4096 ∧ Hid (po p n = X)) (fun k _ => (K - intOf k).toNat)
  case atStart => exact ⟨1, X1, rfl, rfl, by omega, by omega, hx12, HX2⟩
  case round =>
    obtain ⟨n, X, rfl, rfl, hn1, hnK, hX, HI⟩ := hrel
    by_cases h0 : n = K
    · subst h0
      have hX1 : X = 1 := by rw [← HI.out]; exact HO2.out.one
      subst hX1
      clear HI
      go_wp2_with (first | fail | (go_at_call 71; refine (poRest_any 1 p _ (by omega) (by omega) (by omega)).mono ?_; rintro e w3 ⟨rfl, rfl⟩; rw [H1.out]))
      go_ret2
      exact ⟨rfl, rfl⟩
    · have hne : X ≠ 1 := by
        rw [← HI.out]
        exact HO2.out.first n hn1 (by omega)
      have hne' : ((X : Int) == 1) = false := by simp; omega
      have hne2 : ((X : Int) != 1) = true := by simp; omega
      obtain ⟨Y, hY⟩ : ∃ Y, po p (n + 1) = Y := ⟨_, rfl⟩
      have hy := H12.out (n + 1)
      rw [hY] at hy
      have HN : Hid (po p (n + 1) = Y) := hide hY
      have HY : Hid (rm (X * 2) p = Y) := hide (by rw [← hY, po_succ, HI.out])
      clear hY HI
      go_wp2_with (first | (go_at_call 71; rw [show (X : Int) * 2 = ((X * 2 : Nat) : Int) by omega]; refine (poRest_any (X * 2) p _ (by omega) (by omega) (by omega)).mono ?_; rintro e w3 ⟨rfl, rfl⟩; rw [HY.out]) | (go_at_call 71; refine (poRest_any 1 p _ (by omega) (by omega) (by omega)).mono ?_; rintro e w3 ⟨rfl, rfl⟩; rw [H1.out]))
      go_round
      case rel => exact ⟨n + 1, Y, by go_num, rfl, by omega, by omega, hy, HN⟩
      case measure => simp [intOf] <;> omega
theorem orImpl_ok (p b K : Nat) (w : World) (hp : p < 2199023255552) (HA : Hid (inB p 0 2199023255551 = true)) (h2 : p % 2 = 1) (hp2 : 2 ≤ p) (hp13 : p < 8192) (HB : Hid (bl p = b)) (HD : Hid (inB ((b : Int) - 1) 1 12 = true)) (HO : Ord p K) (hK : K ≤ 4096) :
    Calls Try.prog 36 #[.int .i64 p] w fun e w' => e = .returned (.tuple #[.int .i64 (K : Nat), .bool true]) ∧ w' = w := by
  have HE : Hid (dB p 1 12 = true) := hide (by rw [← HD.out, ← HB.out]; rfl)
  have e1 : ((p : Int).tmod 2 == 0) = false := by rw [Int.tmod_eq_emod_of_nonneg (by omega)]; simp; omega
  have ht : p.testBit 0 = true := by rw [Nat.testBit_zero]; simp; omega
  have HT := hide ht
  have hr1 : rm 1 p = 1 := rm_small (Nat.one_lt_two_pow (by have := bl_two hp2; omega))
  have H1 := hide hr1
  have hk1 := HO.pos
  have H12 : Hid (∀ k, po p k < 4096) := hide (fun k => Nat.lt_of_lt_of_le (po_lt hp2 k) (by
    have : bl p ≤ 13 := bl_le.2 hp13
    exact Nat.pow_le_pow_right (n := 2) (j := 12) (by decide) (by omega)))
  obtain ⟨X1, hX1⟩ : ∃ X, po p 1 = X := ⟨_, rfl⟩
  have HX1 := hide (show rm 2 p = X1 from hX1)
  have HX2 := hide hX1
  have hx12 := H12.out 1
  rw [hX1] at hx12
  have HO2 := hide HO
  clear ht hr1 hX1 HO
  go_enter Try.func36, Try.ntmps36
  go_wp2_with (first | (go_at_call 68; refine (isPolyOf_ok _ _ _ _ hp HA).mono ?_; rintro e w' ⟨rfl, rfl⟩; rw [HE.out]) | (go_at_call 72; refine (has_any p 0 (by omega) (by omega) _).mono ?_; rintro e w3 ⟨rfl, rfl⟩; rw [show (0 : Int).toNat = 0 from rfl, HT.out]) | (go_at_call 62; refine (remainder_any 2 p _ (by omega) (by omega) (by omega)).mono ?_; rintro e w3 ⟨rfl, rfl⟩; rw [HX1.out]))
  go_loop [4, 5] (fun k x => ∃ (n X : Nat), k = .int .i64 n ∧ x = .int .i64 X ∧ 1 ≤ n ∧ n ≤ K ∧ X < 4096 ∧ Hid (po p n = X)) (fun k _ => (K - intOf k).toNat)
  case atStart => exact ⟨1, X1, rfl, rfl, by omega, by omega, hx12, HX2⟩
  case round =>
    obtain ⟨n, X, rfl, rfl, hn1, hnK, hX, HI⟩ := hrel
    by_cases h0 : n = K
    · subst h0
      have hX1 : X = 1 := by rw [← HI.out]; exact HO2.out.one
      subst hX1
      clear HI
      go_wp2_with (first | fail)
      go_ret2
      exact ⟨rfl, rfl⟩
    · have hne : X ≠ 1 := by
        rw [← HI.out]
        exact HO2.out.first n hn1 (by omega)
      have hne' : ((X : Int) == 1) = false := by simp; omega
      have hne2 : ((X : Int) != 1) = true := by simp; omega
      obtain ⟨Y, hY⟩ : ∃ Y, po p (n + 1) = Y := ⟨_, rfl⟩
      have hy := H12.out (n + 1)
      rw [hY] at hy
      have HN : Hid (po p (n + 1) = Y) := hide hY
      have HY : Hid (rm (X * 2) p = Y) := hide (by rw [← hY, po_succ, HI.out])
      clear hY HI
      go_wp2_with (first | (go_at_call 62; rw [show (X : Int) * 2 = ((X * 2 : Nat) : Int) by omega]; refine (remainder_any (X * 2) p _ (by omega) (by omega) (by omega)).mono ?_; rintro e w3 ⟨rfl, rfl⟩; rw [HY.out]))
      go_round
      case rel => exact ⟨n + 1, Y, by go_num, rfl, by omega, by omega, hy, HN⟩
      case measure => simp [intOf] <;> omega
theorem lawOrder_no (p : Int) (w : World) (HA : Hid (inB p 0 2199023255551 = false)) :
    Calls Try.prog 11 #[.int .i64 p] w fun e w' => e = .returned (.bool true) ∧ Below w.heap.size w w' := by
  go_enter Try.func11, Try.ntmps11
  go_wp2_with (first | (go_at_call 35; refine (orSpec_no _ _ HA).mono ?_; rintro e w' ⟨rfl, rfl⟩) | (go_at_call 36; refine (orImpl_no _ _ HA).mono ?_; rintro e w' ⟨rfl, rfl⟩))
  go_ret
  exact ⟨rfl, Below.refl _ _⟩
theorem lawOrder_even (p : Nat) (w : World) (hp : p < 2199023255552) (HA : Hid (inB p 0 2199023255551 = true)) (h2 : p % 2 = 0) :
    Calls Try.prog 11 #[.int .i64 p] w fun e w' => e = .returned (.bool true) ∧ Below w.heap.size w w' := by
  go_enter Try.func11, Try.ntmps11
  go_wp2_with (first | (go_at_call 35; refine (orSpec_even _ _ hp HA h2).mono ?_; rintro e w' ⟨rfl, rfl⟩) | (go_at_call 36; refine (orImpl_even _ _ hp HA h2).mono ?_; rintro e w' ⟨rfl, rfl⟩))
  go_ret
  exact ⟨rfl, Below.refl _ _⟩
theorem lawOrder_deg (p b : Nat) (w : World) (hp : p < 2199023255552) (HA : Hid (inB p 0 2199023255551 = true)) (h2 : p % 2 = 1) (HB : Hid (bl p = b)) (HD : Hid (inB ((b : Int) - 1) 1 12 = false)) :
    Calls Try.prog 11 #[.int .i64 p] w fun e w' => e = .returned (.bool true) ∧ Below w.heap.size w w' := by
  go_enter Try.func11, Try.ntmps11
  go_wp2_with (first | (go_at_call 35; refine (orSpec_deg _ _ _ hp HA h2 HB HD).mono ?_; rintro e w' ⟨rfl, rfl⟩) | (go_at_call 36; refine (orImpl_deg _ _ _ hp HA HB HD).mono ?_; rintro e w' ⟨rfl, rfl⟩))
  go_ret
  exact ⟨rfl, Below.refl _ _⟩
theorem lawOrder_ok (p b K : Nat) (w : World) (hp : p < 2199023255552) (HA : Hid (inB p 0 2199023255551 = true)) (h2 : p % 2 = 1) (hp2 : 2 ≤ p) (hp13 : p < 8192) (HB : Hid (bl p = b)) (HD : Hid (inB ((b : Int) - 1) 1 12 = true)) (HO : Ord p K) (hK : K ≤ 4096) :
    Calls Try.prog 11 #[.int .i64 p] w fun e w' => e = .returned (.bool true) ∧ Below w.heap.size w w' := by
  go_enter Try.func11, Try.ntmps11
  go_wp2_with (first | (go_at_call 35; refine (orSpec_ok _ _ _ _ hp HA h2 hp2 hp13 HB HD HO hK).mono ?_; rintro e w' ⟨rfl, rfl⟩) | (go_at_call 36; refine (orImpl_ok _ _ _ _ hp HA h2 hp2 hp13 HB HD HO hK).mono ?_; rintro e w' ⟨rfl, rfl⟩))
  go_ret
  exact ⟨rfl, Below.refl _ _⟩
theorem lawOrder (p : Int) (w : World) : Calls Try.prog 11 #[.int .i64 p] w fun e w' => e = .returned (.bool true) ∧ Below w.heap.size w w' := by
  cases h : inB p 0 2199023255551
  · exact lawOrder_no p w (hide h)
  · obtain ⟨P, rfl, hP⟩ := poly_nat h
    rcases Nat.mod_two_eq_zero_or_one P with hm | hm
    · exact lawOrder_even P w hP (hide h) hm
    · obtain ⟨b, hb⟩ : ∃ b, bl P = b := ⟨_, rfl⟩
      cases hd : inB ((b : Int) - 1) 1 12
      · exact lawOrder_deg P b w hP (hide h) hm (hide hb) (hide hd)
      · have hb2 : 2 ≤ b ∧ b ≤ 13 := by
          simp only [inB, decide_eq_true_eq] at hd; omega
        have h13 : P < 2 ^ 13 := bl_le.1 (by omega)
        have hp2 : 2 ≤ P := by
          rcases Nat.lt_or_ge P 2 with h1 | h1
          · have := (bl_le (p := P) (n := 1)).2 h1; omega
          · exact h1
        obtain ⟨K, hK⟩ := ord_ex hp2 hm
        have hK2 : K ≤ 4096 := Nat.le_trans hK.le (Nat.pow_le_pow_right (n := 2) (j := 12) (by decide) (by omega))
        exact lawOrder_ok P b K w hP (hide h) hm hp2 h13 (hide hb) (hide hd) hK hK2
end Go.Proofs.Ytmkdikoogbedkaa
