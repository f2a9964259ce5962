import Derived.Test.YtibikoajejfdeaaB
import Derived.Test.YtibikoajejfdeaaMB
import Derived.Test.YtibikoajejfdeaaPB
import Derived.Test.YtibikoajejfdeaaSH
import Derived.Shelf.Lay
import Derived.Shelf.Small.Bits
import Derived.Lib.ItoaNum
namespace Go.Proofs.Ytibikoajejfdeaa.T
open Go.RowKit
set_option maxHeartbeats 1000000
theorem ret_i {k : IntKind} {a b : Int} (h : a = b) : Ending.returned (.int k a) = .returned (.int k b) := by rw [h]
theorem i64_and_nat (a b : Nat) (ha : a < 9223372036854775808) (hb : b < 9223372036854775808) : bits .and .i64 (a : Int) (b : Int) = ((a &&& b : Nat) : Int) := by
  have hx : a &&& b < 2 ^ 63 := Nat.and_lt_two_pow a (by omega)
  show IntKind.i64.wrap ((BitVec.ofInt 64 (a : Int) &&& BitVec.ofInt 64 (b : Int)).toNat : Int) = _
  rw [BitVec.toNat_and, ofInt_i64 a ha, ofInt_i64 b hb, IntKind.wrap_i64]
  omega
theorem wrap_in {x : Int} (h : -9223372036854775808 ≤ x ∧ x ≤ 9223372036854775807) : IntKind.i64.wrap x = x := IntWalk.i64_in _ h
theorem pow62 {n : Nat} (h : n ≤ 62) : 2 ^ n ≤ 4611686018427387904 := by
  have h1 : 2 ^ n ≤ 2 ^ 62 := Nat.pow_le_pow_right (by decide) h
  exact h1
theorem l1In_any (s lo hi : Int) (w : World) :
    Calls Try.prog 18 #[.int .i64 s, .int .i64 lo, .int .i64 hi] w fun e w' => e = .returned (.bool (inB s lo hi)) ∧ w' = w := by
  by_cases h1 : lo ≤ s <;> by_cases h2 : s ≤ hi
  all_goals
    go_enter Try.func18, Try.ntmps18
    go_wp2
    go_ret
    simp [inB, h1, h2]
theorem isSetOf41 (s : Int) (w : World) :
    Calls Try.prog 46 #[.int .i64 41, .int .i64 s] w fun e w' => e = .returned (.bool (inB s 0 2199023255551)) ∧ w' = w := by
  go_enter Try.func46, Try.ntmps46
  go_wp2
  go_ret
  refine ⟨?_, rfl⟩
  have h := isSet_in s 41
  have e : (2 : Int) ^ 41 - 1 = 2199023255551 := by decide
  have e2 : (2 : Int) ^ 41 = 2199023255552 := by decide
  rw [e, e2] at h
  rw [← h]
  rfl
theorem isPoly_any (s : Int) (w : World) :
    Calls Try.prog 34 #[.int .i64 s] w fun e w' => e = .returned (.bool (inB s 0 2199023255551)) ∧ w' = w := by
  go_enter Try.func34, Try.ntmps34
  go_wp2_with (go_at_call 46; refine (isSetOf41 _ _).mono ?_; rintro e w' ⟨rfl, rfl⟩)
  go_ret
  exact ⟨rfl, rfl⟩
theorem poly_nat {s : Int} (h : inB s 0 2199023255551 = true) : ∃ p : Nat, s = p ∧ p < 2199023255552 := by
  simp only [inB, decide_eq_true_eq] at h
  exact ⟨s.toNat, by omega, by omega⟩
theorem bitLen_bl {x : Nat} (h : x < 4611686018427387904) : Lib.bitLen x = bl x := by
  by_cases h0 : x = 0
  · subst h0; rfl
  · have hb := Lib.bitLenAux_bounds 64 x (by have : (2 : Nat) ^ 64 = 18446744073709551616 := rfl; omega) h0
    show Lib.bitLenAux 64 x = _
    rw [bl_pos h0]
    obtain ⟨h1, h2, h3⟩ := hb
    have a1 := (Nat.le_log2 h0).2 h2
    have a2 := (Nat.log2_lt h0).2 h3
    omega
theorem bl62 {x : Nat} (h : x < 4611686018427387904) : bl x ≤ 62 := bl_le.2 h
theorem greatest_any (s : Nat) (w : World) (hs : s < 4611686018427387904) :
    Calls Try.prog 37 #[.int .i64 s] w fun e w' => e = .returned (.int .i64 ((bl s : Int) - 1)) ∧ w' = w := by
  have hb := bitLen_bl hs
  have hcon := Any.bits_Len Try.len (s : Int) w (by omega) (by omega)
  change Calls Try.prog 48 _ _ _ at hcon
  rw [Int.toNat_natCast, hb] at hcon
  have hl := bl62 hs
  have HC := hide hcon
  clear hcon hb
  go_enter Try.func37, Try.ntmps37
  go_wp2_with (go_at_call 48; refine HC.out.mono ?_; rintro e w3 ⟨rfl, rfl⟩)
  go_ret
  exact ⟨ret_i (by omega), rfl⟩
theorem degree_any (s : Nat) (w : World) (hs : s < 4611686018427387904) :
    Calls Try.prog 26 #[.int .i64 s] w fun e w' => e = .returned (.int .i64 ((bl s : Int) - 1)) ∧ w' = w := by
  go_enter Try.func26, Try.ntmps26
  go_wp2_with (go_at_call 37; refine (greatest_any _ _ hs).mono ?_; rintro e w3 ⟨rfl, rfl⟩)
  go_ret
  exact ⟨rfl, rfl⟩
theorem has_any (s : Nat) (i : Int) (h0 : 0 ≤ i) (h1 : i < 64) (w : World) :
    Calls Try.prog 40 #[.int .i64 s, .int .i64 i] w fun e w' => e = .returned (.bool (s.testBit i.toNat)) ∧ w' = w := by
  go_enter Try.func40, Try.ntmps40
  go_wp2
  go_ret
  refine ⟨?_, rfl⟩
  rw [← bt_nat, ← has_eq]
  rfl
end Go.Proofs.Ytibikoajejfdeaa.T
