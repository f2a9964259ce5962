import Derived.Test.YtggcjmdadomlaaaSL1
namespace Go.Proofs.Ytggcjmdadomlaaa
open Go.RowKit
set_option maxHeartbeats 2000000
/-- How many first rows below k have the row n as 0. -/
def cnK (c : Nat) (own : Bool) (n k : Nat) : Nat := (List.range k).countP (fun f => decide (prw c own 0 f n = 0))
theorem cnK_le (c : Nat) (own : Bool) (n k : Nat) : cnK c own n k ≤ k := by
  have h := List.countP_le_length (p := fun f => decide (prw c own 0 f n = 0)) (l := List.range k)
  rw [List.length_range] at h
  exact h
theorem cnK_yes {c : Nat} {own : Bool} {n k : Nat} (h : prw c own 0 k n = 0) : cnK c own n (k + 1) = cnK c own n k + 1 := by
  unfold cnK; rw [List.range_succ, List.countP_append]; simp [h]
theorem cnK_no {c : Nat} {own : Bool} {n k : Nat} (h : prw c own 0 k n ≠ 0) : cnK c own n (k + 1) = cnK c own n k := by
  unfold cnK; rw [List.range_succ, List.countP_append]; simp [h]
theorem csNullity_any (n C : Nat) (own : Bool) (w : World) (h1 : 1 ≤ C) (h2 : C ≤ 8) (hn : n ≤ 1024) :
    Calls Try.prog 77 #[.int .i64 n, .int .i64 C, .bool own] w fun e w' => e = .returned (.int .i64 (nulN C own n : Nat)) ∧ w = w' := by
  obtain ⟨P, hP⟩ : ∃ P : Nat, 2 ^ C = P := ⟨_, rfl⟩
  have hW : RowKit.wrap64 (2 ^ C) = (P : Int) := by rw [wrap_one (by omega), hP]
  have hP2 : P ≤ 65536 := by rw [← hP]; exact pow16n (by omega)
  have hcn := nul_count C own n
  rw [hP] at hcn
  have HC : Hid (cnK C own n P = 2 ^ nulN C own n) := Lib.hid hcn
  have HP := Lib.hid hP
  have hN : nulN C own n ≤ 8 := by unfold nulN; omega
  clear hP hcn
  go_enter Try.func77, Try.ntmps77
  go_wp2
  go_loop [7, 8] (fun v i => ∃ k : Nat, k ≤ P ∧ i = .int .i64 k ∧ v = .int .i64 (cnK C own n k : Nat)) (fun _ i => P - (intOf i).toNat)
  case atStart => exact ⟨0, by omega, rfl, rfl⟩
  case round =>
    obtain ⟨k, hk, rfl, rfl⟩ := hrel
    by_cases hlt : k < P
    · have hF : k < 2 ^ C := by rw [HP.out]; exact hlt
      have HF := Lib.hid hF
      have hle := cnK_le C own n k
      clear hF
      by_cases hz : prw C own 0 k n = 0
      · have t := nat_eq0 hz
        have HS := Lib.hid (cnK_yes hz)
        clear hz
        go_wp2_with (go_at_call 72; refine (swp (csBehind_any C k n own _ (by omega) HF.out (by omega))).mono ?_; rintro e w' ⟨rfl, rfl⟩)
        go_round
        case rel => exact ⟨k + 1, by omega, by go_num, by rw [HS.out]; go_num⟩
        case measure => simp [intOf]; omega
      · have t := nat_neq0 hz
        have HS := Lib.hid (cnK_no hz)
        clear hz
        go_wp2_with (go_at_call 72; refine (swp (csBehind_any C k n own _ (by omega) HF.out (by omega))).mono ?_; rintro e w' ⟨rfl, rfl⟩)
        go_round
        case rel => exact ⟨k + 1, by omega, by go_num, by rw [HS.out]⟩
        case measure => simp [intOf]; omega
    · have hkn : k = P := by omega
      subst hkn
      obtain ⟨N, hNN⟩ : ∃ N, nulN C own n = N := ⟨_, rfl⟩
      rw [hNN] at hN HC
      obtain ⟨D, hD⟩ : ∃ D, cnK C own n k = D := ⟨_, rfl⟩
      have hDN : D = 2 ^ N := by rw [← hD]; exact HC.out
      have HD := Lib.hid hDN
      have HN := Lib.hid hNN
      rw [hD]
      clear HC hNN hD hDN
      go_wp2
      go_loop [9] (fun i => ∃ j : Nat, j ≤ N ∧ i = .int .i64 j) (fun i => N - (intOf i).toNat)
      case atStart => exact ⟨0, by omega, rfl⟩
      case round =>
        obtain ⟨j, hj, rfl⟩ := hrel
        have hW2 : RowKit.wrap64 (2 ^ j) = ((2 ^ j : Nat) : Int) := by rw [wrap_one (by omega)]
        by_cases hl2 : j < N
        · have hlt3 : 2 ^ j < D := by rw [HD.out]; exact Nat.pow_lt_pow_right (by decide) hl2
          generalize 2 ^ j = q at hW2 hlt3
          go_wp2
          go_round
          case rel => exact ⟨j + 1, by omega, by go_num⟩
          case measure => simp [intOf]; omega
        · have hjN : j = N := by omega
          subst hjN
          have hge3 : ¬ 2 ^ j < D := by rw [HD.out]; omega
          generalize 2 ^ j = q at hW2 hge3
          go_wp2
          go_ret
          exact ⟨by rw [HN.out]; rfl, rfl⟩
end Go.Proofs.Ytggcjmdadomlaaa
