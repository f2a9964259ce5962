import Derived.Test.YtdpoceijnbbmgaaTE
import Derived.Test.YtdpoceijnbbmgaaPC
namespace Go.Proofs.Ytdpoceijnbbmgaa
open Go.RowKit
set_option maxHeartbeats 1000000
theorem poTimes_any (p q n m : Nat) (w : World) (hp : p < 2 ^ m) (hq : q < 2 ^ n) (hmn : m + n ≤ 61) :
    Calls Try.prog 85 #[.int .i64 p, .int .i64 q] w fun e w' => e = .returned (.int .i64 (cm n p q : Nat)) ∧ w' = w := by
  obtain ⟨G, hG⟩ : ∃ G, cm n p q = G := ⟨_, rfl⟩
  have HG := hide hG
  have HP := hide hp
  have HQ := hide hq
  rw [hG]
  clear hG hp hq
  go_enter Try.func85, Try.ntmps85
  go_wp2
  go_loop [0, 1, 5] (fun x y o => ∃ (P Q O k : Nat), x = .int .i64 P ∧ y = .int .i64 Q ∧ o = .int .i64 O ∧ k ≤ n ∧ Hid (P < 2 ^ (m + n - k) ∧ Q < 2 ^ k ∧ O < 2 ^ 61 ∧ O ^^^ cm k P Q = G)) (fun _ y _ => (intOf y).toNat)
  case atStart => exact ⟨p, q, 0, n, rfl, rfl, rfl, Nat.le_refl _, hide ⟨by rw [Nat.add_sub_cancel]; exact HP.out, HQ.out, by decide, by rw [Nat.zero_xor]; exact HG.out⟩⟩
  case round =>
    obtain ⟨P, Q, O, k, rfl, rfl, rfl, hk, HI⟩ := hrel
    obtain ⟨h1, h2, h3, h4⟩ := HI.out
    by_cases h0 : Q = 0
    · subst h0
      have he : O = G := by rw [cm_zero, Nat.xor_zero] at h4; exact h4
      subst he
      clear h1 h2 h3 h4 HI
      go_wp2
      go_ret
      exact ⟨rfl, rfl⟩
    · have hpos : 0 < Q := by omega
      have hk0 : k ≠ 0 := by rintro rfl; rw [Nat.pow_zero] at h2; omega
      obtain ⟨j, rfl⟩ : ∃ j, k = j + 1 := ⟨k - 1, by omega⟩
      have h5 : P < 2 ^ 60 := Nat.lt_of_lt_of_le h1 (Nat.pow_le_pow_right (by decide) (by omega))
      have h5' : P < 1152921504606846976 := h5
      have h3' : O < 2305843009213693952 := h3
      have h2' : Q < 2305843009213693952 := Nat.lt_of_lt_of_le h2 (Nat.pow_le_pow_right (n := 2) (j := 61) (by decide) (by omega))
      have h6 : Q / 2 < 2 ^ j := by rw [Nat.pow_succ] at h2; omega
      have h7 : P * 2 < 2 ^ (m + n - j) := by rw [show m + n - j = m + n - (j + 1) + 1 by omega, Nat.pow_succ]; omega
      rcases Nat.mod_two_eq_zero_or_one Q with hm | hm
      · have HN : Hid (P * 2 < 2 ^ (m + n - j) ∧ Q / 2 < 2 ^ j ∧ O < 2 ^ 61 ∧ O ^^^ cm j (P * 2) (Q / 2) = G) := hide ⟨h7, h6, h3, by rw [cm_even hm] at h4; exact h4⟩
        clear h1 h2 h3 h4 HI h6 h7 h5
        have e1 : ((Q : Int).tmod 2 == 1) = false := by rw [Int.tmod_eq_emod_of_nonneg (by omega)]; simp; omega
        go_wp2
        go_round
        case rel => exact ⟨P * 2, Q / 2, O, j, by go_num, by go_num, rfl, by omega, HN⟩
        case measure => simp [intOf] <;> omega
      · have h8 : O ^^^ P < 2 ^ 61 := Nat.xor_lt_two_pow h3 (by omega)
        have HN : Hid (P * 2 < 2 ^ (m + n - j) ∧ Q / 2 < 2 ^ j ∧ O ^^^ P < 2 ^ 61 ∧ (O ^^^ P) ^^^ cm j (P * 2) (Q / 2) = G) := hide ⟨h7, h6, h8, by rw [cm_odd hm, ← Nat.xor_assoc] at h4; exact h4⟩
        have e2 := i64_xor_nat O P (by omega) (by omega)
        clear h1 h2 h3 h4 HI h6 h7 h5 h8
        have e1 : ((Q : Int).tmod 2 == 1) = true := by rw [Int.tmod_eq_emod_of_nonneg (by omega)]; simp; omega
        go_wp2
        go_round
        case rel => exact ⟨P * 2, Q / 2, O ^^^ P, j, by go_num, by go_num, rfl, by omega, HN⟩
        case measure => simp [intOf] <;> omega
theorem poShift_any (p : Nat) (w : World) (hp : p < 2199023255552) :
    Calls Try.prog 69 #[.int .i64 p] w fun e w' => e = .returned (.int .i64 (hs p (bl p) 0 : Nat)) ∧ w' = w := by
  have hb := bl_le (p := p) (n := 41) |>.2 (by omega)
  obtain ⟨b, hbe⟩ : ∃ b, bl p = b := ⟨_, rfl⟩
  rw [hbe] at hb
  obtain ⟨G, hG⟩ : ∃ G, hs p (bl p) 0 = G := ⟨_, rfl⟩
  rw [hG]
  rw [hbe] at hG
  have HB := hide hbe
  have HG := hide hG
  clear hbe hG
  go_enter Try.func69, Try.ntmps69
  go_wp2_with (go_at_call 70; refine (poDegree_any _ _ (by omega)).mono ?_; rintro e w3 ⟨rfl, rfl⟩; rw [HB.out])
  go_loop [3, 4] (fun o k => ∃ (j O : Nat), j ≤ b ∧ o = .int .i64 O ∧ k = .int .i64 ((j : Int) - 1) ∧ Hid (O < 2 ^ (b - j) ∧ hs p j O = G)) (fun _ k => (intOf k + 1).toNat)
  case atStart => exact ⟨b, 0, Nat.le_refl _, rfl, rfl, hide ⟨by rw [Nat.sub_self]; decide, HG.out⟩⟩
  case round =>
    obtain ⟨j, O, hj, rfl, rfl, HI⟩ := hrel
    obtain ⟨h1, h2⟩ := HI.out
    by_cases h0 : j = 0
    · subst h0
      have he : O = G := h2
      subst he
      clear h1 h2 HI
      go_wp2
      go_ret
      exact ⟨rfl, rfl⟩
    · obtain ⟨i, rfl⟩ : ∃ i, j = i + 1 := ⟨j - 1, by omega⟩
      have ei : ((i + 1 : Nat) : Int) - 1 = (i : Int) := by omega
      rw [ei]
      have h3 : O < 1099511627776 := Nat.lt_of_lt_of_le h1 (Nat.pow_le_pow_right (n := 2) (j := 40) (by decide) (by omega))
      have h4 : O ^^^ O * 2 < 2 ^ (b - i) := by have := hs_step_lt h1; rw [show b - (i + 1) + 1 = b - i by omega] at this; exact this
      have h5 : O ^^^ O * 2 ^^^ 1 < 2 ^ (b - i) := by have := hs_step_lt1 h1; rw [show b - (i + 1) + 1 = b - i by omega] at this; exact this
      obtain ⟨X, hX⟩ : ∃ X, O ^^^ O * 2 = X := ⟨_, rfl⟩
      have e3 : cm 2 O 3 = X := by rw [cm_three, hX]
      rw [hX] at h4 h5
      have h6 : X < 2199023255552 := Nat.lt_of_lt_of_le h4 (Nat.pow_le_pow_right (n := 2) (j := 41) (by decide) (by omega))
      have E3 := hide e3
      cases hb2 : p.testBit i
      · have HN : Hid (X < 2 ^ (b - i) ∧ hs p i X = G) := hide ⟨h4, by rw [hs_no hb2, hX] at h2; exact h2⟩
        have HT := hide hb2
        clear h1 h2 HI h4 h5 e3 hb2 ei
        go_wp2_with (first | (go_at_call 85; refine (poTimes_any O 3 2 40 _ (by omega) (by decide) (by omega)).mono ?_; rintro e w3 ⟨rfl, rfl⟩; rw [E3.out]) | (go_at_call 49; refine (grIn_any p i (by omega) (by omega) _).mono ?_; rintro e w3 ⟨rfl, rfl⟩; rw [show (i : Int).toNat = i by omega, HT.out]))
        go_round
        case rel => exact ⟨i, X, by omega, rfl, by go_num, HN⟩
        case measure => simp [intOf] <;> omega
      · have HN : Hid (X ^^^ 1 < 2 ^ (b - i) ∧ hs p i (X ^^^ 1) = G) := hide ⟨h5, by rw [hs_yes hb2, hX] at h2; exact h2⟩
        have HT := hide hb2
        have e4 := i64_xor_nat X 1 (by omega) (by omega)
        clear h1 h2 HI h4 h5 e3 hb2 ei
        go_wp2_with (first | (go_at_call 85; refine (poTimes_any O 3 2 40 _ (by omega) (by decide) (by omega)).mono ?_; rintro e w3 ⟨rfl, rfl⟩; rw [E3.out]) | (go_at_call 49; refine (grIn_any p i (by omega) (by omega) _).mono ?_; rintro e w3 ⟨rfl, rfl⟩; rw [show (i : Int).toNat = i by omega, HT.out]))
        go_round
        case rel => exact ⟨i, X ^^^ 1, by omega, by go_num, by go_num, HN⟩
        case measure => simp [intOf] <;> omega
end Go.Proofs.Ytdpoceijnbbmgaa
