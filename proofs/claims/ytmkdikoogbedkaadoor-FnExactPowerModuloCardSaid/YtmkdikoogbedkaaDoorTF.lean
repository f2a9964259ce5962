import Derived.Test.YtmkdikoogbedkaaDoorTC
namespace Go.Proofs.YtmkdikoogbedkaaDoor
open Go.RowKit
set_option maxHeartbeats 1000000
theorem poTimes_any (p q n m : Nat) (w : World) (hp : p < 2 ^ m) (hq : q < 2 ^ n) (hmn : m + n ≤ 61) :
    Calls Tryd.prog 22 #[.int .i64 p, .int .i64 q] w fun e w' => e = .returned (.int .i64 (cm n p q : Nat)) ∧ w' = w := by
  obtain ⟨G, hG⟩ : ∃ G, cm n p q = G := ⟨_, rfl⟩
  have HG := hide hG
  have HP := hide hp
  have HQ := hide hq
  rw [hG]
  clear hG hp hq
  go_enter Tryd.func22, Tryd.ntmps22
  go_wp2
  go_loop [0, 1, 5] (fun x y o => ∃ (P Q O k : Nat), x = .int .i64 P ∧ y = .int .i64 Q ∧ o = .int .i64 O ∧ k ≤ n ∧ Hid (P < 2 ^ (m + n - k) ∧ Q < 2 ^ k ∧ O < 2 ^ 61 ∧ O ^^^ cm k P Q = G)) (fun _ y _ => (intOf y).toNat)
  case atStart => exact ⟨p, q, 0, n, rfl, rfl, rfl, Nat.le_refl _, hide ⟨by rw [Nat.add_sub_cancel]; exact HP.out, HQ.out, by decide, by rw [Nat.zero_xor]; exact HG.out⟩⟩
  case round =>
    obtain ⟨P, Q, O, k, rfl, rfl, rfl, hk, HI⟩ := hrel
    obtain ⟨h1, h2, h3, h4⟩ := HI.out
    by_cases h0 : Q = 0
    · subst h0
      have he : O = G := by rw [cm_zero, Nat.xor_zero] at h4; exact h4
      subst he
      clear h1 h2 h3 h4 HI
      go_wp2
      go_ret
      exact ⟨rfl, rfl⟩
    · have hpos : 0 < Q := by omega
      have hk0 : k ≠ 0 := by rintro rfl; rw [Nat.pow_zero] at h2; omega
      obtain ⟨j, rfl⟩ : ∃ j, k = j + 1 := ⟨k - 1, by omega⟩
      have h5 : P < 2 ^ 60 := Nat.lt_of_lt_of_le h1 (Nat.pow_le_pow_right (by decide) (by omega))
      have h5' : P < 1152921504606846976 := h5
      have h3' : O < 2305843009213693952 := h3
      have h2' : Q < 2305843009213693952 := Nat.lt_of_lt_of_le h2 (Nat.pow_le_pow_right (n := 2) (j := 61) (by decide) (by omega))
      have h6 : Q / 2 < 2 ^ j := by rw [Nat.pow_succ] at h2; omega
      have h7 : P * 2 < 2 ^ (m + n - j) := by rw [show m + n - j = m + n - (j + 1) + 1 by omega, Nat.pow_succ]; omega
      rcases Nat.mod_two_eq_zero_or_one Q with hm | hm
      · have HN : Hid (P * 2 < 2 ^ (m + n - j) ∧ Q / 2 < 2 ^ j ∧ O < 2 ^ 61 ∧ O ^^^ cm j (P * 2) (Q / 2) = G) := hide ⟨h7, h6, h3, by rw [cm_even hm] at h4; exact h4⟩
        clear h1 h2 h3 h4 HI h6 h7 h5
        have e1 : ((Q : Int).tmod 2 == 1) = false := by rw [Int.tmod_eq_emod_of_nonneg (by omega)]; simp; omega
        go_wp2
        go_round
        case rel => exact ⟨P * 2, Q / 2, O, j, by go_num, by go_num, rfl, by omega, HN⟩
        case measure => simp [intOf] <;> omega
      · have h8 : O ^^^ P < 2 ^ 61 := Nat.xor_lt_two_pow h3 (by omega)
        have HN : Hid (P * 2 < 2 ^ (m + n - j) ∧ Q / 2 < 2 ^ j ∧ O ^^^ P < 2 ^ 61 ∧ (O ^^^ P) ^^^ cm j (P * 2) (Q / 2) = G) := hide ⟨h7, h6, h8, by rw [cm_odd hm, ← Nat.xor_assoc] at h4; exact h4⟩
        have e2 := i64_xor_nat O P (by omega) (by omega)
        clear h1 h2 h3 h4 HI h6 h7 h5 h8
        have e1 : ((Q : Int).tmod 2 == 1) = true := by rw [Int.tmod_eq_emod_of_nonneg (by omega)]; simp; omega
        go_wp2
        go_round
        case rel => exact ⟨P * 2, Q / 2, O ^^^ P, j, by go_num, by go_num, rfl, by omega, HN⟩
        case measure => simp [intOf] <;> omega
end Go.Proofs.YtmkdikoogbedkaaDoor
