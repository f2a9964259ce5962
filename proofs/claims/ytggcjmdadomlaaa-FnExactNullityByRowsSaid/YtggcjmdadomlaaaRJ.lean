import Derived.Test.YtggcjmdadomlaaaRI
namespace Go.Proofs.Ytggcjmdadomlaaa
open Go.RowKit
set_option maxHeartbeats 1000000
/-- K is the first number behind which a first row has come again. -/
def Per (c : Nat) (own : Bool) (f K : Nat) : Prop := 1 ≤ K ∧ K ≤ 2 ^ (2 * c) ∧ prb c own 0 f K = 0 ∧ prw c own 0 f K = f ∧ ∀ j, 1 ≤ j → j < K → ¬ (prb c own 0 f j = 0 ∧ prw c own 0 f j = f)
theorem per_ex {c f : Nat} {own : Bool} (hf : f < 2 ^ c) : ∃ K, Per c own f K := by
  obtain ⟨k, h1, h2, h3⟩ := pat_returns (own := own) hf
  have hk : prb c own 0 f k = 0 ∧ prw c own 0 f k = f := ⟨congrArg Prod.fst h3, congrArg Prod.snd h3⟩
  clear h3
  have H : ∀ n k, k ≤ n → 1 ≤ k → k ≤ 2 ^ (2 * c) → (prb c own 0 f k = 0 ∧ prw c own 0 f k = f) → ∃ K, Per c own f K := by
    intro n
    induction n with
    | zero => intro k h0 h1; omega
    | succ n ih =>
      intro k h0 h1 h2 hk
      by_cases h : ∃ j, 1 ≤ j ∧ j < k ∧ (prb c own 0 f j = 0 ∧ prw c own 0 f j = f)
      · obtain ⟨j, g1, g2, g3⟩ := h
        exact ih j (by omega) g1 (by omega) g3
      · exact ⟨k, h1, h2, hk.1, hk.2, fun j g1 g2 g3 => h ⟨j, g1, g2, g3⟩⟩
  exact H k k (Nat.le_refl _) h1 h2 hk
theorem nat_eq {a b : Nat} (h : a = b) : ((a : Int) == (b : Int)) = true := by subst h; simp
theorem nat_neq {a b : Nat} (h : a ≠ b) : ((a : Int) == (b : Int)) = false := by simp; omega
theorem nat_eq0 {a : Nat} (h : a = 0) : ((a : Int) == 0) = true := by subst h; rfl
theorem nat_neq0 {a : Nat} (h : a ≠ 0) : ((a : Int) == 0) = false := by simp; omega
theorem nat_bne {a b : Nat} (h : a = b) : ((a : Int) != (b : Int)) = false := by subst h; simp
theorem nat_bneT {a b : Nat} (h : a ≠ b) : ((a : Int) != (b : Int)) = true := by simp; omega
theorem nat_bne0 {a : Nat} (h : a = 0) : ((a : Int) != 0) = false := by subst h; rfl
theorem nat_bne0T {a : Nat} (h : a ≠ 0) : ((a : Int) != 0) = true := by simp; omega
theorem rpSpec_ok (C F K : Nat) (own : Bool) (w : World) (h1 : 1 ≤ C) (h2 : C ≤ 6) (HF : Hid (inB F 0 (2 ^ C - 1) = true)) (h4 : F < 2 ^ C) (h0 : F ≠ 0) (HP : Hid (Per C own F K)) :
    Calls Try.prog 34 #[.int .i64 C, .bool own, .int .i64 F] w fun e w' => e = .returned (.tuple #[.int .i64 K, .bool true]) ∧ w = w' := by
  have e0 := nat_neq0 h0
  have hK : K ≤ 4096 := Nat.le_trans HP.out.2.1 (Nat.pow_le_pow_right (n := 2) (j := 12) (by decide) (by omega))
  have hK1 := HP.out.1
  go_enter Try.func34, Try.ntmps34
  go_wp2_with (first | (go_at_call 70; refine (csWide_ok C _ _ h1 (by omega)).mono ?_; rintro e w' ⟨rfl, rfl⟩; rw [HF.out]))
  go_loop [8, 9, 10] (fun b x i => ∃ j : Nat, j < K ∧ i = .int .i64 ((j + 1 : Nat) : Int) ∧ b = .int .i64 (prb C own 0 F j : Nat) ∧ x = .int .i64 (prw C own 0 F j : Nat)) (fun _ _ i => K + 1 - (intOf i).toNat)
  case atStart => exact ⟨0, by omega, rfl, rfl, rfl⟩
  case round =>
    obtain ⟨j, hj, rfl, rfl, rfl⟩ := hrel
    have hx1 := prw_lt (own := own) (l := 0) h4 j
    have h16 := pow16n (show C ≤ 16 by omega)
    have g2 : rt C own (prw C own 0 F j) < 2 ^ C := rt_lt hx1
    have g3 : prb C own 0 F j < 2 ^ C := prb_lt h4 j
    have HX := Lib.hid (show bits .xor .i64 ((rt C own (prw C own 0 F j) : Nat) : Int) ((prb C own 0 F j : Nat) : Int) = (prw C own 0 F (j + 1) : Nat) by
      rw [i64_xor_nat _ _ (by omega) (by omega), prw_succ0, Nat.xor_comm])
    clear h16 g2 g3
    by_cases hjK : j + 1 = K
    · have t1 : ((prw C own 0 F j : Nat) : Int) = 0 := by have := HP.out.2.2.1; rw [← hjK, prb_succ] at this; omega
      have t2 : (bits .xor .i64 ((rt C own (prw C own 0 F j) : Nat) : Int) ((prb C own 0 F j : Nat) : Int) == (F : Int)) = true := by rw [HX.out, hjK]; exact nat_eq HP.out.2.2.2.1
      have t1' := nat_eq0 (a := prw C own 0 F j) (by omega)
      clear t1
      go_wp2_with (first | (go_at_call 75; refine (csToggles_any C _ own _ (by omega) hx1).mono ?_; rintro e w' ⟨rfl, rfl⟩))
      go_ret2
      exact ⟨by rw [← hjK]; rfl, rfl⟩
    · have hn := HP.out.2.2.2.2 (j + 1) (by omega) (by omega)
      rw [prb_succ] at hn
      by_cases hz : prw C own 0 F j = 0
      · have t2 : (bits .xor .i64 ((rt C own (prw C own 0 F j) : Nat) : Int) ((prb C own 0 F j : Nat) : Int) == (F : Int)) = false := by rw [HX.out]; exact nat_neq (fun h => hn ⟨hz, h⟩)
        have t1 := nat_eq0 hz
        have HZ := Lib.hid hz
        clear hz hn
        go_wp2_with (first | (go_at_call 75; refine (csToggles_any C _ own _ (by omega) hx1).mono ?_; rintro e w' ⟨rfl, rfl⟩))
        go_round
        case rel => exact ⟨j + 1, by omega, by go_num, rfl, congrArg (Value.int .i64) HX.out⟩
        case measure => simp [intOf]; omega
      · have t1 := nat_neq0 hz
        clear hn hz
        go_wp2_with (first | (go_at_call 75; refine (csToggles_any C _ own _ (by omega) hx1).mono ?_; rintro e w' ⟨rfl, rfl⟩))
        go_round
        case rel => exact ⟨j + 1, by omega, by go_num, rfl, congrArg (Value.int .i64) HX.out⟩
        case measure => simp [intOf]; omega
theorem rpImpl_ok (C F K : Nat) (own : Bool) (w : World) (h1 : 1 ≤ C) (h2 : C ≤ 6) (HF : Hid (inB F 0 (2 ^ C - 1) = true)) (h4 : F < 2 ^ C) (h0 : F ≠ 0) (HP : Hid (Per C own F K)) :
    Calls Try.prog 35 #[.int .i64 C, .bool own, .int .i64 F] w fun e w' => e = .returned (.tuple #[.int .i64 K, .bool true]) ∧ Below w.heap.size w w' := by
  have e0 := nat_neq0 h0
  obtain ⟨P, hP⟩ : ∃ P : Nat, 2 ^ (2 * C) = P := ⟨_, rfl⟩
  have hP2 : P ≤ 4096 := by rw [← hP]; exact Nat.pow_le_pow_right (n := 2) (j := 12) (by decide) (by omega)
  have hW : RowKit.wrap64 (2 ^ (2 * C)) = (P : Int) := by
    rw [← pow_nat, hP]; exact IntWalk.wrap64_in _ (by omega)
  have hKP : K ≤ P := by rw [← hP]; exact HP.out.2.1
  have hK1 := HP.out.1
  clear hP
  go_enter Try.func35, Try.ntmps35
  go_wp2_with (first | (go_at_call 73; refine (isRow_ok C _ _ h1 (by omega)).mono ?_; rintro e w' ⟨rfl, rfl⟩; rw [HF.out]) | (go_at_call 76; refine (pattern_zero P C F own _ (by omega) (by omega) h4).mono ?_; rintro e w2 ⟨A, d, m, rfl, hm, ho, hb⟩; obtain ⟨b, hA, hBb, hbl, hmd, hdm, hcell⟩ := ho.read hm (k := P) (by rw [rows_length] at hm; omega); subst hA; have HS := Lib.hid (ho.src hm); rw [rows_length] at hm; subst hm; have HB := Lib.hid hb; clear ho hdm hb hcell))
  clear hW
  go_loop [10] (fun i => ∃ j : Nat, j < K ∧ i = .int .i64 ((j + 1 : Nat) : Int)) (fun i => K + 1 - (intOf i).toNat)
  case atStart => exact ⟨0, by omega, rfl⟩
  case round =>
    obtain ⟨j, hj, rfl⟩ := hrel
    obtain ⟨b1, off1, hA, hbl1, c1⟩ := HS.out j (by omega)
    obtain ⟨b2, off2, hA2, hbl2, c2⟩ := HS.out (j + 1) (by omega)
    injection hA with hA; injection hA with x1 x2; subst x1 x2
    injection hA2 with hA2; injection hA2 with x1 x2; subst x1 x2
    rw [Nat.zero_add, rows_get (by omega)] at c1 c2
    have hi1 : ((j + 1 : Nat) : Int) - 1 = (j : Int) := by omega
    by_cases hjK : j + 1 = K
    · have t1 : ((prw C own 0 F j : Nat) : Int) = 0 := by have := HP.out.2.2.1; rw [← hjK, prb_succ] at this; omega
      have t2 := nat_bne (a := prw C own 0 F (j + 1)) (b := F) (by rw [hjK]; exact HP.out.2.2.2.1)
      have t1' := nat_bne0 (a := prw C own 0 F j) (by omega)
      have HJ := Lib.hid hjK
      clear t1 hjK
      go_wp2
      go_ret2
      exact ⟨by rw [← HJ.out]; rfl, HB.out⟩
    · have hn := HP.out.2.2.2.2 (j + 1) (by omega) (by omega)
      rw [prb_succ] at hn
      by_cases hz : prw C own 0 F j = 0
      · have t2 := nat_bneT (a := prw C own 0 F (j + 1)) (b := F) (fun h => hn ⟨hz, h⟩)
        have t1 := nat_bne0 hz
        clear hz hn
        go_wp2
        go_round
        case rel => exact ⟨j + 1, by omega, by go_num⟩
        case measure => simp [intOf]; omega
      · have t1 := nat_bne0T hz
        clear hn hz
        go_wp2
        go_round
        case rel => exact ⟨j + 1, by omega, by go_num⟩
        case measure => simp [intOf]; omega
end Go.Proofs.Ytggcjmdadomlaaa
