import Derived.Test.YtmkdikoogbedkaaDoorTV
namespace Go.Proofs.YtmkdikoogbedkaaDoor
open Go.RowKit
set_option maxHeartbeats 1000000
theorem pwSpec_a (p k m : Int) (w : World) (HA : Hid (inB p 0 2199023255551 = false)) :
    Calls Tryd.prog 8 #[.int .i64 p, .int .i64 k, .int .i64 m] w fun e w' => e = .returned (.tuple #[.int .i64 0, .bool false]) ∧ Below w.heap.size w w' := by
  go_enter Tryd.func8, Tryd.ntmps8
  go_wp2_with (first | (go_at_call 20; refine (poGood_any _ _).mono ?_; rintro e w' ⟨rfl, hw⟩; subst w'; first | rw [HA.out]))
  go_ret2
  exact ⟨rfl, Below.refl _ _⟩
theorem pwSpec_b (p k m : Int) (w : World) (HA : Hid (inB p 0 2199023255551 = true)) (HM : Hid (inB m 0 2199023255551 = false)) :
    Calls Tryd.prog 8 #[.int .i64 p, .int .i64 k, .int .i64 m] w fun e w' => e = .returned (.tuple #[.int .i64 0, .bool false]) ∧ Below w.heap.size w w' := by
  go_enter Tryd.func8, Tryd.ntmps8
  go_wp2_with (first | (go_at_call 20; refine (poGood_any _ _).mono ?_; rintro e w' ⟨rfl, hw⟩; subst w'; first | rw [HA.out] | rw [HM.out]))
  go_ret2
  exact ⟨rfl, Below.refl _ _⟩
theorem pwSpec_c (p k : Int) (m b : Nat) (w : World) (HA : Hid (inB p 0 2199023255551 = true)) (hm : m < 2199023255552) (HM : Hid (inB m 0 2199023255551 = true)) (HB : Hid (bl m = b)) (HD : Hid (inB ((b : Int) - 1) 1 20 = false)) :
    Calls Tryd.prog 8 #[.int .i64 p, .int .i64 k, .int .i64 m] w fun e w' => e = .returned (.tuple #[.int .i64 0, .bool false]) ∧ Below w.heap.size w w' := by
  go_enter Tryd.func8, Tryd.ntmps8
  go_wp2_with (first | (go_at_call 20; refine (poGood_any _ _).mono ?_; rintro e w' ⟨rfl, hw⟩; subst w'; first | rw [HA.out] | rw [HM.out]) | (go_at_call 21; refine (poDegree_any _ _ (by omega)).mono ?_; rintro e w' ⟨rfl, hw⟩; subst w'; rw [HB.out]) | (go_at_call 26; refine (l1In_any _ _ _ _).mono ?_; rintro e w' ⟨rfl, hw⟩; subst w'; first | rw [HD.out]))
  go_ret2
  exact ⟨rfl, Below.refl _ _⟩
theorem pwSpec_d (p k : Int) (m b : Nat) (w : World) (HA : Hid (inB p 0 2199023255551 = true)) (hm : m < 2199023255552) (HM : Hid (inB m 0 2199023255551 = true)) (HB : Hid (bl m = b)) (HD : Hid (inB ((b : Int) - 1) 1 20 = true)) (HK : Hid (inB k 0 1000000 = false)) :
    Calls Tryd.prog 8 #[.int .i64 p, .int .i64 k, .int .i64 m] w fun e w' => e = .returned (.tuple #[.int .i64 0, .bool false]) ∧ Below w.heap.size w w' := by
  go_enter Tryd.func8, Tryd.ntmps8
  go_wp2_with (first | (go_at_call 20; refine (poGood_any _ _).mono ?_; rintro e w' ⟨rfl, hw⟩; subst w'; first | rw [HA.out] | rw [HM.out]) | (go_at_call 21; refine (poDegree_any _ _ (by omega)).mono ?_; rintro e w' ⟨rfl, hw⟩; subst w'; rw [HB.out]) | (go_at_call 26; refine (l1In_any _ _ _ _).mono ?_; rintro e w' ⟨rfl, hw⟩; subst w'; first | rw [HD.out] | rw [HK.out]))
  go_ret2
  exact ⟨rfl, Below.refl _ _⟩
theorem pwImpl_a (p k m : Int) (w : World) (HA : Hid (inB p 0 2199023255551 = false)) :
    Calls Tryd.prog 9 #[.int .i64 p, .int .i64 k, .int .i64 m] w fun e w' => e = .returned (.tuple #[.int .i64 0, .bool false]) ∧ Below w.heap.size w w' := by
  go_enter Tryd.func9, Tryd.ntmps9
  go_wp2_with (first | (go_at_call 23; refine (isPoly_any _ _).mono ?_; rintro e w' ⟨rfl, hw⟩; subst w'; first | rw [HA.out]))
  go_ret2
  exact ⟨rfl, Below.refl _ _⟩
theorem pwImpl_neg (p k m : Int) (w : World) (HA : Hid (inB p 0 2199023255551 = true)) (hk : k < 0) :
    Calls Tryd.prog 9 #[.int .i64 p, .int .i64 k, .int .i64 m] w fun e w' => e = .returned (.tuple #[.int .i64 0, .bool false]) ∧ Below w.heap.size w w' := by
  go_enter Tryd.func9, Tryd.ntmps9
  go_wp2_with (first | (go_at_call 23; refine (isPoly_any _ _).mono ?_; rintro e w' ⟨rfl, hw⟩; subst w'; first | rw [HA.out]))
  go_ret2
  exact ⟨rfl, Below.refl _ _⟩
theorem pwImpl_big (p k m : Int) (w : World) (HA : Hid (inB p 0 2199023255551 = true)) (hk : 1000000 < k) :
    Calls Tryd.prog 9 #[.int .i64 p, .int .i64 k, .int .i64 m] w fun e w' => e = .returned (.tuple #[.int .i64 0, .bool false]) ∧ Below w.heap.size w w' := by
  have hk0 : ¬ k < 0 := by omega
  go_enter Tryd.func9, Tryd.ntmps9
  go_wp2_with (first | (go_at_call 23; refine (isPoly_any _ _).mono ?_; rintro e w' ⟨rfl, hw⟩; subst w'; first | rw [HA.out]))
  go_ret2
  exact ⟨rfl, Below.refl _ _⟩
theorem pwImpl_b (p k m : Int) (w : World) (HA : Hid (inB p 0 2199023255551 = true)) (hk0 : 0 ≤ k) (hk1 : k ≤ 1000000) (HM : Hid (inB m 0 2199023255551 = false)) :
    Calls Tryd.prog 9 #[.int .i64 p, .int .i64 k, .int .i64 m] w fun e w' => e = .returned (.tuple #[.int .i64 0, .bool false]) ∧ Below w.heap.size w w' := by
  go_enter Tryd.func9, Tryd.ntmps9
  go_wp2_with (first | (go_at_call 23; refine (isPoly_any _ _).mono ?_; rintro e w' ⟨rfl, hw⟩; subst w'; first | rw [HA.out]) | (go_at_call 28; refine (isPolyOf_no _ _ _ _ HM).mono ?_; rintro e w' ⟨rfl, hw⟩; subst w'))
  go_ret2
  exact ⟨rfl, Below.refl _ _⟩
theorem pwImpl_c (p k : Int) (m b : Nat) (w : World) (HA : Hid (inB p 0 2199023255551 = true)) (hk0 : 0 ≤ k) (hk1 : k ≤ 1000000) (hm : m < 2199023255552) (HM : Hid (inB m 0 2199023255551 = true)) (HB : Hid (bl m = b)) (HD : Hid (inB ((b : Int) - 1) 1 20 = false)) :
    Calls Tryd.prog 9 #[.int .i64 p, .int .i64 k, .int .i64 m] w fun e w' => e = .returned (.tuple #[.int .i64 0, .bool false]) ∧ Below w.heap.size w w' := by
  have HE : Hid (dB m 1 20 = false) := hide (by rw [← HD.out, ← HB.out]; rfl)
  go_enter Tryd.func9, Tryd.ntmps9
  go_wp2_with (first | (go_at_call 23; refine (isPoly_any _ _).mono ?_; rintro e w' ⟨rfl, hw⟩; subst w'; first | rw [HA.out]) | (go_at_call 28; refine (isPolyOf_ok _ _ _ _ hm HM).mono ?_; rintro e w' ⟨rfl, hw⟩; subst w'; rw [HE.out]))
  go_ret2
  exact ⟨rfl, Below.refl _ _⟩
theorem poTimesX (O B X N : Nat) (w : World) (hX : cm N O B = X) (hO : O < 2 ^ 20) (hB : B < 2 ^ N) (hN : N ≤ 41) :
    Calls Tryd.prog 22 #[.int .i64 O, .int .i64 B] w fun e w' => e = .returned (.int .i64 X) ∧ w' = w := by
  subst hX
  exact poTimes_any O B N 20 w hO hB (by omega)
theorem productX (O B X N : Nat) (w : World) (hX : cm N O B = X) (hS : ∀ i, i < N → O * 2 ^ i < 4611686018427387904) (hB : B < 2 ^ N) (hN : N ≤ 41) (hT : Tab w) :
    Calls Tryd.prog 25 #[.int .i64 O, .int .i64 B] w fun e w' => e = .returned (.int .i64 X) ∧ Below w.heap.size w w' := by
  subst hX
  exact product_any O B N w hB (by omega) hS hT
theorem pwSpec_ok (p k m b N : Nat) (w : World) (hN : Hid (N = 20)) (hp : p < 2199023255552) (HA : Hid (inB p 0 2199023255551 = true)) (hm : m < 2199023255552) (HM : Hid (inB m 0 2199023255551 = true)) (HB : Hid (bl m = b)) (HD : Hid (inB ((b : Int) - 1) 1 20 = true)) (HK : Hid (inB k 0 1000000 = true)) (hk : k ≤ 1000000) (hb : 2 ≤ b ∧ b ≤ 21) :
    Calls Tryd.prog 8 #[.int .i64 p, .int .i64 k, .int .i64 m] w fun e w' => e = .returned (.tuple #[.int .i64 (pwf m N 1 (rm p m) k : Nat), .bool true]) ∧ Below w.heap.size w w' := by
  have HE : Hid (dB m 1 20 = true) := hide (by rw [← HD.out, ← HB.out]; rfl)
  have hm0 : m ≠ 0 := by rintro rfl; have := HB.out; rw [bl_zero] at this; omega
  have HRL : Hid (∀ x, rm x m < 1048576) := hide fun x => Nat.lt_of_lt_of_le (rm_lt hm0) (by rw [HB.out]; exact Nat.pow_le_pow_right (n := 2) (j := 20) (by decide) (by omega))
  obtain ⟨G, hG⟩ : ∃ G, pwf m N 1 (rm p m) k = G := ⟨_, rfl⟩
  rw [hG]
  have hr := HRL.out p
  obtain ⟨R0, hR0⟩ : ∃ R0, rm p m = R0 := ⟨_, rfl⟩
  rw [hR0] at hG hr
  have HR := hide hR0
  have HG := hide hG
  have HSh : Hid (∀ o, o < 2 ^ 20 → ∀ i, i < 20 → o * 2 ^ i < 4611686018427387904) := hide fun o ho i hi => by
    have h1 : o * 2 ^ i < 2 ^ 20 * 2 ^ i := Nat.mul_lt_mul_of_pos_right ho (Nat.two_pow_pos i)
    rw [← Nat.pow_add] at h1
    exact Nat.lt_of_lt_of_le h1 (Nat.pow_le_pow_right (n := 2) (j := 62) (by decide) (by omega))
  clear hG hR0
  go_enter Tryd.func8, Tryd.ntmps8
  go_wp2_with (first | (go_at_call 20; refine (poGood_any _ _).mono ?_; rintro e w' ⟨rfl, hw⟩; subst w'; first | rw [HA.out] | rw [HM.out]) | (go_at_call 21; refine (poDegree_any _ _ (by omega)).mono ?_; rintro e w' ⟨rfl, hw⟩; subst w'; rw [HB.out]) | (go_at_call 26; refine (l1In_any _ _ _ _).mono ?_; rintro e w' ⟨rfl, hw⟩; subst w'; first | rw [HD.out] | rw [HK.out]) | (go_at_call 27; refine (poRest_any p m _ (by omega) (by omega) hm0).mono ?_; rintro e w' ⟨rfl, hw⟩; subst w'; rw [HR.out]))
  go_loopw [1, 8, 9] (fun x o b' wr => ∃ (K O B n : Nat), x = .int .i64 K ∧ o = .int .i64 O ∧ b' = .int .i64 B ∧ n ≤ 20 ∧ O < 1048576 ∧ B < 1048576 ∧ K < 2097152 ∧ Hid (K < 2 ^ n ∧ pwf m n O B K = G) ∧ Hid (Below w.heap.size w wr)) (fun x _ _ _ => (intOf x).toNat)
  case atStart => exact ⟨k, 1, R0, N, rfl, rfl, rfl, by rw [hN.out]; omega, by omega, hr, by omega, hide ⟨by rw [hN.out]; exact Nat.lt_of_le_of_lt hk (by decide), HG.out⟩, hide (Below.refl _ _)⟩
  case round =>
    obtain ⟨K, O, B, n, rfl, rfl, rfl, hn, hO, hB, hK2, HI, HBW⟩ := hrel
    by_cases h0 : K = 0
    · subst h0
      have he : O = G := by have := HI.out.2; rw [pwf_zero] at this; exact this
      subst he
      clear HI
      go_wp2
      go_ret2
      exact ⟨rfl, HBW.out⟩
    · have hpos : 0 < K := by omega
      have hn0 : n ≠ 0 := by rintro rfl; have := HI.out.1; rw [Nat.pow_zero] at this; omega
      obtain ⟨j, rfl⟩ : ∃ j, n = j + 1 := ⟨n - 1, by omega⟩
      have h6 : K / 2 < 2 ^ j := by have := HI.out.1; rw [Nat.pow_succ] at this; omega
      have HO20 : Hid (O < 2 ^ 20) := hide hO
      have HB20 : Hid (B < 2 ^ 20) := hide hB
      have hX : cm 20 O B < 4398046511104 := Nat.lt_of_lt_of_le (cm_lt (n := 20) (q := B) HO20.out) (Nat.pow_le_pow_right (n := 2) (j := 42) (by decide) (by omega))
      have hY : cm 20 B B < 4398046511104 := Nat.lt_of_lt_of_le (cm_lt (n := 20) (q := B) HB20.out) (Nat.pow_le_pow_right (n := 2) (j := 42) (by decide) (by omega))
      have hstep := HI.out.2
      have hX2 := HRL.out (cm 20 O B)
      have hY2 := HRL.out (cm 20 B B)
      have hodd : K % 2 = 1 → pwf m j (rm (cm 20 O B) m) (rm (cm 20 B B) m) (K / 2) = G := fun h => by rw [← pwf_odd h]; exact hstep
      have heven : K % 2 = 0 → pwf m j O (rm (cm 20 B B) m) (K / 2) = G := fun h => by rw [← pwf_even h0 h]; exact hstep
      obtain ⟨X, hXe⟩ : ∃ X, cm 20 O B = X := ⟨_, rfl⟩
      obtain ⟨Y, hYe⟩ : ∃ Y, cm 20 B B = Y := ⟨_, rfl⟩
      rw [hXe] at hX hX2
      rw [hYe] at hY hY2
      rw [hXe, hYe] at hodd
      rw [hYe] at heven
      obtain ⟨X2, hX2e⟩ : ∃ X2, rm X m = X2 := ⟨_, rfl⟩
      obtain ⟨Y2, hY2e⟩ : ∃ Y2, rm Y m = Y2 := ⟨_, rfl⟩
      rw [hX2e] at hX2
      rw [hY2e] at hY2
      rw [hX2e, hY2e] at hodd
      rw [hY2e] at heven
      have HX := hide hXe
      have HY := hide hYe
      have HX2 := hide hX2e
      have HY2 := hide hY2e
      clear hstep hXe hYe hX2e hY2e HI
      rcases Nat.mod_two_eq_zero_or_one K with hm2 | hm2
      · have HN : Hid (K / 2 < 2 ^ j ∧ pwf m j O Y2 (K / 2) = G) := hide ⟨h6, heven hm2⟩
        clear hodd heven h6
        have e1 : ((K : Int).tmod 2 == 1) = false := by rw [Int.tmod_eq_emod_of_nonneg (by omega)]; simp; omega
        go_wp2_with (first | (go_at_call 22; refine (poTimesX B B Y 20 _ HY.out HB20.out HB20.out (by omega)).mono ?_; rintro e w' ⟨rfl, hw⟩; subst w') | (go_at_call 27; refine (poRest_any Y m _ hY (by omega) hm0).mono ?_; rintro e w' ⟨rfl, hw⟩; subst w'; rw [HY2.out]))
        go_roundw
        case rel => exact ⟨K / 2, O, Y2, j, by go_num, rfl, rfl, by omega, hO, hY2, by omega, HN, HBW⟩
        case measure => simp [intOf] <;> omega
      · have HN : Hid (K / 2 < 2 ^ j ∧ pwf m j X2 Y2 (K / 2) = G) := hide ⟨h6, hodd hm2⟩
        clear hodd heven h6
        have e1 : ((K : Int).tmod 2 == 1) = true := by rw [Int.tmod_eq_emod_of_nonneg (by omega)]; simp; omega
        go_wp2_with (first | (go_at_call_of 22 O; refine (poTimesX O B X 20 _ HX.out HO20.out HB20.out (by omega)).mono ?_; rintro e w' ⟨rfl, hw⟩; subst w') | (go_at_call 22; refine (poTimesX B B Y 20 _ HY.out HB20.out HB20.out (by omega)).mono ?_; rintro e w' ⟨rfl, hw⟩; subst w') | (go_at_call_of 27 X; refine (poRest_any X m _ hX (by omega) hm0).mono ?_; rintro e w' ⟨rfl, hw⟩; subst w'; rw [HX2.out]) | (go_at_call 27; refine (poRest_any Y m _ hY (by omega) hm0).mono ?_; rintro e w' ⟨rfl, hw⟩; subst w'; rw [HY2.out]))
        go_roundw
        case rel => exact ⟨K / 2, X2, Y2, j, by go_num, rfl, rfl, by omega, hX2, hY2, by omega, HN, HBW⟩
        case measure => simp [intOf] <;> omega
theorem pwImpl_ok (p k m b N : Nat) (w : World) (hN : Hid (N = 20)) (hp : p < 2199023255552) (HA : Hid (inB p 0 2199023255551 = true)) (hm : m < 2199023255552) (HM : Hid (inB m 0 2199023255551 = true)) (HB : Hid (bl m = b)) (HD : Hid (inB ((b : Int) - 1) 1 20 = true)) (HK : Hid (inB k 0 1000000 = true)) (hk : k ≤ 1000000) (hb : 2 ≤ b ∧ b ≤ 21) (hT : Hid (Tab w)) :
    Calls Tryd.prog 9 #[.int .i64 p, .int .i64 k, .int .i64 m] w fun e w' => e = .returned (.tuple #[.int .i64 (pwf m N 1 (rm p m) k : Nat), .bool true]) ∧ Below w.heap.size w w' := by
  have HE : Hid (dB m 1 20 = true) := hide (by rw [← HD.out, ← HB.out]; rfl)
  have hm0 : m ≠ 0 := by rintro rfl; have := HB.out; rw [bl_zero] at this; omega
  have HRL : Hid (∀ x, rm x m < 1048576) := hide fun x => Nat.lt_of_lt_of_le (rm_lt hm0) (by rw [HB.out]; exact Nat.pow_le_pow_right (n := 2) (j := 20) (by decide) (by omega))
  obtain ⟨G, hG⟩ : ∃ G, pwf m N 1 (rm p m) k = G := ⟨_, rfl⟩
  rw [hG]
  have hr := HRL.out p
  obtain ⟨R0, hR0⟩ : ∃ R0, rm p m = R0 := ⟨_, rfl⟩
  rw [hR0] at hG hr
  have HR := hide hR0
  have HG := hide hG
  have HSh : Hid (∀ o, o < 2 ^ 20 → ∀ i, i < 20 → o * 2 ^ i < 4611686018427387904) := hide fun o ho i hi => by
    have h1 : o * 2 ^ i < 2 ^ 20 * 2 ^ i := Nat.mul_lt_mul_of_pos_right ho (Nat.two_pow_pos i)
    rw [← Nat.pow_add] at h1
    exact Nat.lt_of_lt_of_le h1 (Nat.pow_le_pow_right (n := 2) (j := 62) (by decide) (by omega))
  clear hG hR0
  go_enter Tryd.func9, Tryd.ntmps9
  go_wp2_with (first | (go_at_call 23; refine (isPoly_any _ _).mono ?_; rintro e w' ⟨rfl, hw⟩; subst w'; first | rw [HA.out]) | (go_at_call 28; refine (isPolyOf_ok _ _ _ _ hm HM).mono ?_; rintro e w' ⟨rfl, hw⟩; subst w'; rw [HE.out]) | (go_at_call 29; refine (remainder_any p m _ (by omega) (by omega) hm0).mono ?_; rintro e w' ⟨rfl, hw⟩; subst w'; rw [HR.out]))
  go_loopw [1, 8, 9] (fun x o b' wr => ∃ (K O B n : Nat), x = .int .i64 K ∧ o = .int .i64 O ∧ b' = .int .i64 B ∧ n ≤ 20 ∧ O < 1048576 ∧ B < 1048576 ∧ K < 2097152 ∧ Hid (K < 2 ^ n ∧ pwf m n O B K = G) ∧ Hid (Below w.heap.size w wr)) (fun x _ _ _ => (intOf x).toNat)
  case atStart => exact ⟨k, 1, R0, N, rfl, rfl, rfl, by rw [hN.out]; omega, by omega, hr, by omega, hide ⟨by rw [hN.out]; exact Nat.lt_of_le_of_lt hk (by decide), HG.out⟩, hide (Below.refl _ _)⟩
  case round =>
    obtain ⟨K, O, B, n, rfl, rfl, rfl, hn, hO, hB, hK2, HI, HBW⟩ := hrel
    have HTW := hide (hT.out.below HBW.out)
    by_cases h0 : K = 0
    · subst h0
      have he : O = G := by have := HI.out.2; rw [pwf_zero] at this; exact this
      subst he
      clear HI
      go_wp2
      go_ret2
      exact ⟨rfl, HBW.out⟩
    · have hpos : 0 < K := by omega
      have hn0 : n ≠ 0 := by rintro rfl; have := HI.out.1; rw [Nat.pow_zero] at this; omega
      obtain ⟨j, rfl⟩ : ∃ j, n = j + 1 := ⟨n - 1, by omega⟩
      have h6 : K / 2 < 2 ^ j := by have := HI.out.1; rw [Nat.pow_succ] at this; omega
      have HO20 : Hid (O < 2 ^ 20) := hide hO
      have HB20 : Hid (B < 2 ^ 20) := hide hB
      have hX : cm 20 O B < 4398046511104 := Nat.lt_of_lt_of_le (cm_lt (n := 20) (q := B) HO20.out) (Nat.pow_le_pow_right (n := 2) (j := 42) (by decide) (by omega))
      have hY : cm 20 B B < 4398046511104 := Nat.lt_of_lt_of_le (cm_lt (n := 20) (q := B) HB20.out) (Nat.pow_le_pow_right (n := 2) (j := 42) (by decide) (by omega))
      have hstep := HI.out.2
      have hX2 := HRL.out (cm 20 O B)
      have hY2 := HRL.out (cm 20 B B)
      have hodd : K % 2 = 1 → pwf m j (rm (cm 20 O B) m) (rm (cm 20 B B) m) (K / 2) = G := fun h => by rw [← pwf_odd h]; exact hstep
      have heven : K % 2 = 0 → pwf m j O (rm (cm 20 B B) m) (K / 2) = G := fun h => by rw [← pwf_even h0 h]; exact hstep
      obtain ⟨X, hXe⟩ : ∃ X, cm 20 O B = X := ⟨_, rfl⟩
      obtain ⟨Y, hYe⟩ : ∃ Y, cm 20 B B = Y := ⟨_, rfl⟩
      rw [hXe] at hX hX2
      rw [hYe] at hY hY2
      rw [hXe, hYe] at hodd
      rw [hYe] at heven
      obtain ⟨X2, hX2e⟩ : ∃ X2, rm X m = X2 := ⟨_, rfl⟩
      obtain ⟨Y2, hY2e⟩ : ∃ Y2, rm Y m = Y2 := ⟨_, rfl⟩
      rw [hX2e] at hX2
      rw [hY2e] at hY2
      rw [hX2e, hY2e] at hodd
      rw [hY2e] at heven
      have HX := hide hXe
      have HY := hide hYe
      have HX2 := hide hX2e
      have HY2 := hide hY2e
      clear hstep hXe hYe hX2e hY2e HI
      rcases Nat.mod_two_eq_zero_or_one K with hm2 | hm2
      · have HN : Hid (K / 2 < 2 ^ j ∧ pwf m j O Y2 (K / 2) = G) := hide ⟨h6, heven hm2⟩
        clear hodd heven h6
        have e1 : bits .and .i64 (K : Int) 1 = 0 := by rw [bits_and_one]; omega
        go_wp2_with (first | (go_at_call 25; refine (productX B B Y 20 _ HY.out (HSh.out B HB20.out) HB20.out (by omega) (by first | exact HT1.out | exact HTW.out)).mono ?_; rintro e w2 ⟨rfl, hb2⟩; have HB2 := hide (by first | exact HB1.out.trans (hb2.mono HB1.out.size) | exact HBW.out.trans (hb2.mono HBW.out.size)); clear hb2) | (go_at_call 29; refine (remainder_any Y m _ hY (by omega) hm0).mono ?_; rintro e w' ⟨rfl, hw⟩; subst w'; rw [HY2.out]))
        go_roundw
        case rel => exact ⟨K / 2, O, Y2, j, by go_num, rfl, rfl, by omega, hO, hY2, by omega, HN, HB2⟩
        case measure => simp [intOf] <;> omega
      · have HN : Hid (K / 2 < 2 ^ j ∧ pwf m j X2 Y2 (K / 2) = G) := hide ⟨h6, hodd hm2⟩
        clear hodd heven h6
        have e1 : bits .and .i64 (K : Int) 1 = 1 := by rw [bits_and_one]; omega
        go_wp2_with (first | (go_at_call_of 25 O; refine (productX O B X 20 _ HX.out (HSh.out O HO20.out) HB20.out (by omega) (by first | exact HTW.out | exact HT1.out)).mono ?_; rintro e w1 ⟨rfl, hb1⟩; have HB1 := hide (HBW.out.trans (hb1.mono HBW.out.size)); have HT1 := hide (HTW.out.below hb1); clear hb1) | (go_at_call 25; refine (productX B B Y 20 _ HY.out (HSh.out B HB20.out) HB20.out (by omega) (by first | exact HT1.out | exact HTW.out)).mono ?_; rintro e w2 ⟨rfl, hb2⟩; have HB2 := hide (by first | exact HB1.out.trans (hb2.mono HB1.out.size) | exact HBW.out.trans (hb2.mono HBW.out.size)); clear hb2) | (go_at_call_of 29 X; refine (remainder_any X m _ hX (by omega) hm0).mono ?_; rintro e w' ⟨rfl, hw⟩; subst w'; rw [HX2.out]) | (go_at_call 29; refine (remainder_any Y m _ hY (by omega) hm0).mono ?_; rintro e w' ⟨rfl, hw⟩; subst w'; rw [HY2.out]))
        go_roundw
        case rel => exact ⟨K / 2, X2, Y2, j, by go_num, rfl, rfl, by omega, hX2, hY2, by omega, HN, HB2⟩
        case measure => simp [intOf] <;> omega
theorem lawPower_eq (p k m : Int) (r : Int) (o : Bool) (w : World) (HSp : Hid (∀ w, Tab w → Calls Tryd.prog 8 #[.int .i64 p, .int .i64 k, .int .i64 m] w fun e w' => e = .returned (.tuple #[.int .i64 r, .bool o]) ∧ Below w.heap.size w w'))
    (HIm : Hid (∀ w, Tab w → Calls Tryd.prog 9 #[.int .i64 p, .int .i64 k, .int .i64 m] w fun e w' => e = .returned (.tuple #[.int .i64 r, .bool o]) ∧ Below w.heap.size w w')) (hT : Tab w) :
    Calls Tryd.prog 4 #[.int .i64 p, .int .i64 k, .int .i64 m] w fun e w' => e = .returned (.bool true) ∧ Below w.heap.size w w' := by
  have e1 : (o != o) = false := by simp
  have HT := hide hT
  clear hT
  go_enter Tryd.func4, Tryd.ntmps4
  go_wp2_with fail
  refine (HSp.out _ HT.out).mono ?_
  rintro e w1 ⟨rfl, hb1⟩
  have HB1 := hide hb1
  have HT1 := hide (HT.out.below hb1)
  clear hb1
  go_wp2_with fail
  refine (HIm.out _ HT1.out).mono ?_
  rintro e w2 ⟨rfl, hb2⟩
  have HB2 := hide (HB1.out.trans (hb2.mono HB1.out.size))
  clear hb2
  go_wp2
  go_ret
  exact ⟨rfl, HB2.out⟩
theorem lawPower (p k m : Int) (w : World) (hT : Tab w) : Calls Tryd.prog 4 #[.int .i64 p, .int .i64 k, .int .i64 m] w fun e w' => e = .returned (.bool true) ∧ Below w.heap.size w w' := by
  cases h : inB p 0 2199023255551
  · exact lawPower_eq p k m 0 false w (hide fun w _ => pwSpec_a p k m w (hide h)) (hide fun w _ => pwImpl_a p k m w (hide h)) hT
  · have HSpec : inB k 0 1000000 = false → ∀ w, Calls Tryd.prog 8 #[.int .i64 p, .int .i64 k, .int .i64 m] w fun e w' => e = .returned (.tuple #[.int .i64 0, .bool false]) ∧ Below w.heap.size w w' := fun hk w => by
      cases hm : inB m 0 2199023255551
      · exact pwSpec_b p k m w (hide h) (hide hm)
      · obtain ⟨M, rfl, hM⟩ := poly_nat hm
        cases hd : inB ((bl M : Int) - 1) 1 20
        · exact pwSpec_c p k M _ w (hide h) hM (hide hm) (hide rfl) (hide hd)
        · exact pwSpec_d p k M _ w (hide h) hM (hide hm) (hide rfl) (hide hd) (hide hk)
    cases hk : inB k 0 1000000
    · have hk' : k < 0 ∨ 1000000 < k := by simp only [inB, decide_eq_false_iff_not] at hk; omega
      rcases hk' with h1 | h1
      · exact lawPower_eq p k m 0 false w (hide fun w _ => HSpec hk w) (hide fun w _ => pwImpl_neg p k m w (hide h) h1) hT
      · exact lawPower_eq p k m 0 false w (hide fun w _ => HSpec hk w) (hide fun w _ => pwImpl_big p k m w (hide h) h1) hT
    · have hk' : 0 ≤ k ∧ k ≤ 1000000 := by simp only [inB, decide_eq_true_eq] at hk; exact hk
      cases hm : inB m 0 2199023255551
      · exact lawPower_eq p k m 0 false w (hide fun w _ => pwSpec_b p k m w (hide h) (hide hm)) (hide fun w _ => pwImpl_b p k m w (hide h) hk'.1 hk'.2 (hide hm)) hT
      · obtain ⟨M, rfl, hM⟩ := poly_nat hm
        cases hd : inB ((bl M : Int) - 1) 1 20
        · exact lawPower_eq p k _ 0 false w (hide fun w _ => pwSpec_c p k M _ w (hide h) hM (hide hm) (hide rfl) (hide hd)) (hide fun w _ => pwImpl_c p k M _ w (hide h) hk'.1 hk'.2 hM (hide hm) (hide rfl) (hide hd)) hT
        · obtain ⟨P, rfl, hP⟩ := poly_nat h
          obtain ⟨K, rfl⟩ : ∃ K : Nat, k = K := ⟨k.toNat, by omega⟩
          have hb : 2 ≤ bl M ∧ bl M ≤ 21 := by simp only [inB, decide_eq_true_eq] at hd; omega
          exact lawPower_eq _ _ _ (pwf M 20 1 (rm P M) K : Nat) true w (hide fun w _ => pwSpec_ok P K M _ 20 w (hide rfl) hP (hide h) hM (hide hm) (hide rfl) (hide hd) (hide hk) (by omega) hb) (hide fun w hT => pwImpl_ok P K M _ 20 w (hide rfl) hP (hide h) hM (hide hm) (hide rfl) (hide hd) (hide hk) (by omega) hb (hide hT)) hT
end Go.Proofs.YtmkdikoogbedkaaDoor
