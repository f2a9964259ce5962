import Derived.Test.YtibikoajejfdeaaTA
namespace Go.Proofs.Ytibikoajejfdeaa.T
open Go.RowKit
set_option maxHeartbeats 1000000
theorem pow42 {n : Nat} (h : n ≤ 42) : 2 ^ n ≤ 4398046511104 := by
  have h1 : 2 ^ n ≤ 2 ^ 42 := Nat.pow_le_pow_right (by decide) h
  exact h1
theorem bl42 {x : Nat} (h : x < 4398046511104) : bl x ≤ 42 := bl_le.2 h
theorem wrap_sh (q k : Nat) (h : q * 2 ^ k < 4398046511104) : RowKit.wrap64 ((q : Int) * 2 ^ k) = ((q * 2 ^ k : Nat) : Int) := by
  rw [← pow_nat, ← Int.natCast_mul]
  exact IntWalk.wrap64_in _ (by omega)
theorem wrap_p (k : Nat) (h : k < 42) : RowKit.wrap64 (2 ^ k) = ((2 ^ k : Nat) : Int) := by
  have h1 := pow42 (show k ≤ 42 by omega)
  rw [← pow_nat]
  generalize 2 ^ k = x at h1
  exact IntWalk.wrap64_in _ (by omega)
theorem p2_42 {k : Nat} (h : k < 42) : 2 ^ k < 4398046511104 := by
  have h1 : 2 ^ k < 2 ^ 42 := Nat.pow_lt_pow_right (by decide) h
  exact h1
theorem or42 {a b : Nat} (ha : a < 4398046511104) (hb : b < 4398046511104) : a ||| b < 4398046511104 := by
  have : a ||| b < 2 ^ 42 := Nat.or_lt_two_pow (by omega) (by omega)
  omega
theorem xor42 {a b : Nat} (ha : a < 4398046511104) (hb : b < 4398046511104) : a ^^^ b < 4398046511104 := by
  have : a ^^^ b < 2 ^ 42 := Nat.xor_lt_two_pow (by omega) (by omega)
  omega
theorem or_p (O k : Nat) (hO : O < 4398046511104) (hk : 2 ^ k < 4398046511104) : bits .or .i64 (O : Int) (RowKit.wrap64 (2 ^ k)) = ((O ||| 2 ^ k : Nat) : Int) := by
  rw [← pow_nat]
  generalize 2 ^ k = x at hk
  rw [IntWalk.wrap64_in _ (by omega)]; exact i64_or_nat _ _ (by omega) (by omega)
theorem xor_p (a b : Nat) (ha : a < 4398046511104) (hb : b < 4398046511104) : bits .xor .i64 (a : Int) (b : Int) = ((a ^^^ b : Nat) : Int) := i64_xor_nat _ _ (by omega) (by omega)
theorem xor_sh (a q k : Nat) (ha : a < 4398046511104) (h : q * 2 ^ k < 4398046511104) : bits .xor .i64 (a : Int) (RowKit.wrap64 ((q : Int) * 2 ^ k)) = ((a ^^^ q * 2 ^ k : Nat) : Int) := by
  rw [wrap_sh q k h]; exact xor_p a _ ha h
end Go.Proofs.Ytibikoajejfdeaa.T
