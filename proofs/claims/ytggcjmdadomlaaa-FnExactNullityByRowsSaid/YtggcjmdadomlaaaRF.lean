import Derived.Test.YtggcjmdadomlaaaRE
namespace Go.Proofs.Ytggcjmdadomlaaa
open Go.RowKit
set_option maxHeartbeats 1000000
theorem chase_step {c l f k : Nat} {own : Bool} (hc : c ≤ 16) (hf : f < 2 ^ c) :
    bits .xor .i64 (bits .xor .i64 ((lr c l k : Nat) : Int) ((rt c own (prw c own l f k) : Nat) : Int)) ((prb c own l f k : Nat) : Int) = (prw c own l f (k + 1) : Nat) := by
  have h0 := pow16n hc
  have h1 : lr c l k < 2 ^ c := lr_lt k
  have h2 : rt c own (prw c own l f k) < 2 ^ c := rt_lt (prw_lt hf k)
  have h3 : prb c own l f k < 2 ^ c := prb_lt hf k
  have h4 : lr c l k ^^^ rt c own (prw c own l f k) < 2 ^ c := Nat.xor_lt_two_pow h1 h2
  rw [i64_xor_nat _ _ (by omega) (by omega), i64_xor_nat _ _ (by omega) (by omega), prw_succ]
  congr 1
  simp only [Nat.xor_assoc, Nat.xor_comm (rt c own (prw c own l f k))]
theorem csChase_any (R c l f : Nat) (own : Bool) (w : World) (hs : Sides R c) (hl : l < 9223372036854775808) (hf : f < 2 ^ c) :
    Calls Try.prog 59 #[.int .i64 R, .int .i64 c, .bool own, .int .i64 l, .int .i64 f] w fun e w' => e = .returned (.tuple #[.int .i64 (prs c own l f R : Nat), .int .i64 (prw c own l f R : Nat)]) ∧ ∃ n, w' = w.drewN n := by
  obtain ⟨s1, s2, s3, s4, s5⟩ := hs
  have HF := Lib.hid hf
  have HL := Lib.hid hl
  have HP := Lib.hid s5
  clear hf hl s5
  go_enter Try.func59, Try.ntmps59
  go_wp2
  go_loopw [12, 13, 14, 15, 16] (fun v x b y i wr => ∃ (k : Nat) (z : Int), k ≤ R ∧ i = .int .i64 k ∧ v = .int .i64 (prs c own l f k : Nat) ∧ x = .int .i64 (prw c own l f k : Nat) ∧ b = .int .i64 (prb c own l f k : Nat) ∧ y = .int .i64 z ∧ Hid (1 ≤ k → z = (prw c own l f k : Nat)) ∧ ∃ n, wr = w.drewN n) (fun _ _ _ _ i _ => R - (intOf i).toNat)
  case atStart => exact ⟨0, 0, by omega, rfl, rfl, rfl, rfl, rfl, Lib.hid (fun h => absurd h (by omega)), 0, rfl⟩
  case round =>
    obtain ⟨k, z, hk, rfl, rfl, rfl, rfl, rfl, HZ, nn, rfl⟩ := hrel
    by_cases hlt : k < R
    · obtain ⟨p, hp⟩ : ∃ p : Nat, c * k = p := ⟨_, rfl⟩
      have hk16 : c * (k + 1) ≤ 16 := by
        have h1 : c * (k + 1) ≤ c * R := Nat.mul_le_mul_left c hlt
        have h2 := HP.out
        rw [Nat.mul_comm R c] at h2
        omega
      have hp16 : p ≤ 16 := by rw [Nat.mul_succ] at hk16; omega
      have hmul : (c : Int) * (k : Int) = (p : Int) := by rw [← hp]; exact (Int.natCast_mul c k).symm
      have HK := Lib.hid (presses_step (own := own) (l := l) HF.out hp hk16)
      have HX := Lib.hid (chase_step (k := k) (own := own) (l := l) s4 HF.out)
      have hx1 := prw_lt (own := own) (l := l) HF.out k
      clear hp hk16
      go_wp2_with (first | (go_at_call 93; refine (csRow_any c l k _ s4 HL.out (by omega)).mono ?_; rintro e w' ⟨rfl, n2, rfl⟩) | (go_at_call 75; refine (csToggles_any c _ own _ s4 hx1).mono ?_; rintro e w' ⟨rfl, rfl⟩))
      go_roundw
      case rel => exact ⟨k + 1, _, by omega, by go_num, congrArg (Value.int .i64) HK.out, congrArg (Value.int .i64) HX.out, rfl, rfl, Lib.hid (fun _ => HX.out), _, by first | rfl | exact World.drewN_drewN _ _ _⟩
      case measure => simp [intOf]; omega
    · have hkn : k = R := by omega
      subst hkn
      have hz := HZ.out (by omega)
      subst hz
      go_wp2
      go_ret2
      exact ⟨rfl, _, rfl⟩
theorem csBehind_any (c f K : Nat) (own : Bool) (w : World) (hc : c ≤ 16) (hf : f < 2 ^ c) (hK : K ≤ 1048576) :
    Calls Try.prog 72 #[.int .i64 c, .bool own, .int .i64 f, .int .i64 K] w fun e w' => e = .returned (.int .i64 (prw c own 0 f K : Nat)) ∧ w' = w := by
  have HF := Lib.hid hf
  clear hf
  go_enter Try.func72, Try.ntmps72
  go_wp2
  go_loop [3, 9, 10] (fun i b x => ∃ (k j : Nat), k + j = K ∧ i = .int .i64 j ∧ x = .int .i64 (prw c own 0 f k : Nat) ∧ b = .int .i64 (prb c own 0 f k : Nat)) (fun i _ _ => (intOf i).toNat)
  case atStart => exact ⟨0, K, by omega, rfl, rfl, rfl⟩
  case round =>
    obtain ⟨k, j, hk, rfl, rfl, rfl⟩ := hrel
    by_cases hlt : 0 < j
    · have hx1 := prw_lt (own := own) (l := 0) HF.out k
      have h16 := pow16n hc
      have h2 : rt c own (prw c own 0 f k) < 2 ^ c := rt_lt hx1
      have h3 : prb c own 0 f k < 2 ^ c := prb_lt HF.out k
      have HX := Lib.hid (show bits .xor .i64 ((rt c own (prw c own 0 f k) : Nat) : Int) ((prb c own 0 f k : Nat) : Int) = (prw c own 0 f (k + 1) : Nat) by
        rw [i64_xor_nat _ _ (by omega) (by omega), prw_succ0, Nat.xor_comm])
      obtain ⟨j', hj'⟩ : ∃ j', j = j' + 1 := ⟨j - 1, by omega⟩
      subst hj'
      go_wp2_with (first | (go_at_call 75; refine (csToggles_any c _ own _ hc hx1).mono ?_; rintro e w' ⟨rfl, rfl⟩))
      go_round
      case rel => exact ⟨k + 1, j', by omega, by first | rfl | go_num, congrArg (Value.int .i64) HX.out, rfl⟩
      case measure => simp [intOf]
    · have hj : j = 0 := by omega
      subst hj
      have hk' : k = K := by omega
      subst hk'
      go_wp2
      go_ret
      exact ⟨rfl, rfl⟩
end Go.Proofs.Ytggcjmdadomlaaa
