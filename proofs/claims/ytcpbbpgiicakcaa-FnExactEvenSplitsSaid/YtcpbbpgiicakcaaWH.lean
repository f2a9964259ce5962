import Derived.Test.YtcpbbpgiicakcaaWG
namespace Go.Proofs.Ytcpbbpgiicakcaa
open Go.RowKit
set_option maxHeartbeats 2000000
theorem soTop_any (s : Nat) (w : World) (hs : s < 1099511627776) (h0 : s ≠ 0) :
    Calls Try.prog 92 #[.int .i64 s] w fun e w' => e = .returned (.int .i64 (s.log2 : Nat)) ∧ w' = w := by
  have hL := log40 h0 hs
  go_enter Try.func92, Try.ntmps92
  go_wp2
  go_loop [0, 3] (fun x t => ∃ k : Nat, k ≤ s.log2 + 1 ∧ x = .int .i64 ((s / 2 ^ k : Nat) : Int) ∧ t = .int .i64 ((k : Int) - 1)) (fun x _ => (intOf x).toNat)
  case atStart => exact ⟨0, by omega, by simp, rfl⟩
  case round =>
    obtain ⟨k, hk, rfl, rfl⟩ := hrel
    obtain ⟨x, hx⟩ : ∃ x, s / 2 ^ k = x := ⟨_, rfl⟩
    have hx2 : Hid (s / 2 ^ (k + 1) = x / 2) := hide (by rw [Nat.pow_succ, ← Nat.div_div_eq_div_mul, hx])
    have hxs : x ≤ s := by rw [← hx]; exact Nat.div_le_self _ _
    rw [hx]
    by_cases hp : 0 < x
    · have hkl : k ≤ s.log2 := by
        apply (Nat.le_log2 h0).2
        rcases Nat.lt_or_ge s (2 ^ k) with h | h
        · rw [Nat.div_eq_of_lt h] at hx; omega
        · exact h
      clear hx
      go_wp2
      go_round
      case rel => exact ⟨k + 1, by omega, by rw [hx2.out]; go_num, by go_num⟩
      case measure => simp [intOf] <;> omega
    · have hke : s.log2 + 1 = k := by
        have h1 : s < 2 ^ k := by
          have := (Nat.div_eq_zero_iff (a := s) (b := 2 ^ k)).1 (by omega)
          have := Nat.two_pow_pos k
          omega
        have := (Nat.log2_lt h0).2 h1
        omega
      have hz : ((x : Nat) : Int) = 0 := by omega
      rw [hz]
      clear hx hz
      go_wp2
      go_ret
      exact ⟨ret_int (by omega), rfl⟩
theorem pop_zero (k : Nat) : popN k 0 = 0 := by
  induction k with
  | zero => rfl
  | succ k ih => simp [popN, ih]
theorem pop_le (k x : Nat) : popN k x ≤ k := by
  induction k generalizing x with
  | zero => simp [popN]
  | succ k ih => have := ih (x / 2); simp only [popN]; omega
theorem grCount_any (x : Nat) (w : World) (hx : x < 65536) : Calls Try.prog 84 #[.int .i64 x] w fun e w' => e = .returned (.int .i64 (popN 16 x : Nat)) ∧ w' = w := by
  go_enter Try.func84, Try.ntmps84
  go_wp2
  go_loop [0, 3] (fun s t => ∃ k y c : Nat, k ≤ 16 ∧ y < 2 ^ k ∧ s = .int .i64 y ∧ t = .int .i64 c ∧ c ≤ 16 ∧ c + k ≤ 16 ∧ Hid (c + popN k y = popN 16 x)) (fun s _ => (intOf s).toNat)
  case atStart => exact ⟨16, x, 0, by omega, hx, rfl, rfl, by omega, by omega, hide (by simp)⟩
  case round =>
    obtain ⟨k, y, c, hk, hy, rfl, rfl, hc, hck, HP⟩ := hrel
    have hy16 : y < 65536 := Nat.lt_of_lt_of_le hy (Nat.pow_le_pow_right (n := 2) (j := 16) (by decide) hk)
    by_cases hpos : 0 < y
    · have hk1 : 1 ≤ k := by
        rcases Nat.eq_zero_or_pos k with h | h
        · subst h; simp at hy; omega
        · exact h
      obtain ⟨q, hq⟩ : ∃ q, k = q + 1 := ⟨k - 1, by omega⟩
      have hy2 : y / 2 < 2 ^ q := by rw [hq, Nat.pow_succ] at hy; omega
      have HQ := hide hq
      have HY := hide hy
      have HY2 := hide hy2
      clear hq hy hy2
      go_wp2
      go_round
      case rel =>
        have hq := HQ.out
        refine ⟨q, y / 2, c + y % 2, by omega, HY2.out, by go_num, by go_num, by omega, by omega, hide ?_⟩
        rw [← HP.out, hq]
        simp only [popN]
        omega
      case measure => simp [intOf]; omega
    · have hy0 : y = 0 := by omega
      have HY := hide hy
      clear hy
      go_wp2
      go_ret
      refine ⟨?_, rfl⟩
      rw [← HP.out, hy0, pop_zero]
      rfl
end Go.Proofs.Ytcpbbpgiicakcaa
