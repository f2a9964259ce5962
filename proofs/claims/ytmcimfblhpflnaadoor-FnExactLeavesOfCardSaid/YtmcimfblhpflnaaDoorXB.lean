import Derived.Test.YtmcimfblhpflnaaDoorOC
namespace Go.Proofs.YtmcimfblhpflnaaDoor
open Go.RowKit
set_option maxHeartbeats 2000000
theorem pop_zero (k : Nat) : popN k 0 = 0 := by
  induction k with
  | zero => rfl
  | succ k ih => simp [popN, ih]
theorem pop_le (k x : Nat) : popN k x ≤ k := by
  induction k generalizing x with
  | zero => simp [popN]
  | succ k ih => have := ih (x / 2); simp only [popN]; omega
theorem grCount_any (x : Nat) (w : World) (hx : x < 65536) : Calls Tryd.prog 54 #[.int .i64 x] w fun e w' => e = .returned (.int .i64 (popN 16 x : Nat)) ∧ w' = w := by
  go_enter Tryd.func54, Tryd.ntmps54
  go_wp2
  go_loop [0, 3] (fun s t => ∃ k y c : Nat, k ≤ 16 ∧ y < 2 ^ k ∧ s = .int .i64 y ∧ t = .int .i64 c ∧ c ≤ 16 ∧ c + k ≤ 16 ∧ Hid (c + popN k y = popN 16 x)) (fun s _ => (intOf s).toNat)
  case atStart => exact ⟨16, x, 0, by omega, hx, rfl, rfl, by omega, by omega, hide (by simp)⟩
  case round =>
    obtain ⟨k, y, c, hk, hy, rfl, rfl, hc, hck, HP⟩ := hrel
    have hy16 : y < 65536 := Nat.lt_of_lt_of_le hy (Nat.pow_le_pow_right (n := 2) (j := 16) (by decide) hk)
    by_cases hpos : 0 < y
    · have hk1 : 1 ≤ k := by
        rcases Nat.eq_zero_or_pos k with h | h
        · subst h; simp at hy; omega
        · exact h
      obtain ⟨q, hq⟩ : ∃ q, k = q + 1 := ⟨k - 1, by omega⟩
      have hy2 : y / 2 < 2 ^ q := by rw [hq, Nat.pow_succ] at hy; omega
      have HQ := hide hq
      have HY := hide hy
      have HY2 := hide hy2
      clear hq hy hy2
      go_wp2
      go_round
      case rel =>
        have hq := HQ.out
        refine ⟨q, y / 2, c + y % 2, by omega, HY2.out, by go_num, by go_num, by omega, by omega, hide ?_⟩
        rw [← HP.out, hq]
        simp only [popN]
        omega
      case measure => simp [intOf]; omega
    · have hy0 : y = 0 := by omega
      have HY := hide hy
      clear hy
      go_wp2
      go_ret
      refine ⟨?_, rfl⟩
      rw [← HP.out, hy0, pop_zero]
      rfl
end Go.Proofs.YtmcimfblhpflnaaDoor
