/-
The operations of 64 bit numbers on rows of lights. Plain arithmetic; nothing here speaks of the program.
-/
import Derived.Test.YtmcimfblhpflnaaM
import Derived.Test.YtmcimfblhpflnaaKB
namespace Go.Proofs.Ytmcimfblhpflnaa
theorem pow16n {n : Nat} (h : n ≤ 16) : (2 : Nat) ^ n ≤ 65536 := Nat.pow_le_pow_right (n := 2) (j := 16) (by decide) h
theorem i64_and_nat (a b : Nat) (ha : a < 9223372036854775808) (hb : b < 9223372036854775808) : bits .and .i64 (a : Int) (b : Int) = ((a &&& b : Nat) : Int) := by
  have hx : a &&& b < 2 ^ 63 := Nat.and_lt_two_pow a (by omega)
  show IntKind.i64.wrap ((BitVec.ofInt 64 (a : Int) &&& BitVec.ofInt 64 (b : Int)).toNat : Int) = _
  rw [BitVec.toNat_and, ofInt_i64 a ha, ofInt_i64 b hb, IntKind.wrap_i64]
  omega
theorem wrap_one {c : Nat} (h : c ≤ 16) : RowKit.wrap64 (2 ^ c) = ((2 ^ c : Nat) : Int) := by
  have h := pow16n h
  rw [← pow_nat]
  generalize 2 ^ c = x at h
  exact IntWalk.wrap64_in _ (by omega)
theorem mask_wrap {c : Nat} (h : c ≤ 16) : RowKit.wrap64 (RowKit.wrap64 (2 ^ c) - 1) = ((2 ^ c - 1 : Nat) : Int) := by
  have h2 := pow16n h
  have h3 := Nat.two_pow_pos c
  rw [wrap_one h]
  generalize 2 ^ c = x at h2 h3
  rw [IntWalk.wrap64_in _ (by omega)]
  omega
theorem and_mask (a c : Nat) (ha : a < 9223372036854775808) (h : c ≤ 16) : bits .and .i64 (a : Int) (RowKit.wrap64 (RowKit.wrap64 (2 ^ c) - 1)) = ((a % 2 ^ c : Nat) : Int) := by
  have h2 := pow16n h
  rw [mask_wrap h, i64_and_nat a _ ha (by omega), Nat.and_two_pow_sub_one_eq_mod]
theorem xor_sh (x : Nat) (hx : x < 4611686018427387904) : bits .xor .i64 ((x : Int) * 2) ((x : Int) / 2) = ((2 * x ^^^ x / 2 : Nat) : Int) := by
  have e1 : (x : Int) * 2 = ((2 * x : Nat) : Int) := by omega
  have e2 : (x : Int) / 2 = ((x / 2 : Nat) : Int) := by omega
  rw [e1, e2, i64_xor_nat _ _ (by omega) (by omega)]
theorem sh_lt {x : Nat} (hx : x < 4611686018427387904) : (2 * x ^^^ x / 2) < 9223372036854775808 := by
  have : (2 * x ^^^ x / 2) < 2 ^ 63 := Nat.xor_lt_two_pow (by omega) (by omega)
  exact this
theorem csT_false (c x : Nat) (hc : c ≤ 16) (hx : x < 2 ^ c) : bits .and .i64 (bits .xor .i64 ((x : Int) * 2) ((x : Int) / 2)) (RowKit.wrap64 (RowKit.wrap64 (2 ^ c) - 1)) = (rt c false x : Nat) := by
  have h2 := pow16n hc
  rw [xor_sh x (by omega), and_mask _ _ (sh_lt (by omega)) hc]
  simp [rt]
theorem csT_true (c x : Nat) (hc : c ≤ 16) (hx : x < 2 ^ c) : bits .and .i64 (bits .xor .i64 (bits .xor .i64 ((x : Int) * 2) ((x : Int) / 2)) (x : Int)) (RowKit.wrap64 (RowKit.wrap64 (2 ^ c) - 1)) = (rt c true x : Nat) := by
  have h2 := pow16n hc
  have h3 : (2 * x ^^^ x / 2) < 9223372036854775808 := sh_lt (by omega)
  rw [xor_sh x (by omega), i64_xor_nat _ _ h3 (by omega), and_mask _ _ (Nat.xor_lt_two_pow (n := 63) h3 (by omega)) hc, ← rt_mask hx]
  simp
theorem rowT_true (c x : Nat) (hc : c ≤ 16) (hx : x < 2 ^ c) : bits .xor .i64 (bits .and .i64 (bits .xor .i64 ((x : Int) * 2) ((x : Int) / 2)) (RowKit.wrap64 (RowKit.wrap64 (2 ^ c) - 1))) (x : Int) = (rt c true x : Nat) := by
  have h2 := pow16n hc
  have h3 : rt c false x < 2 ^ c := rt_lt hx
  rw [csT_false c x hc hx, i64_xor_nat _ _ (by omega) (by omega)]
  simp [rt]
/-- The lights of a row. -/
theorem row_bits (c l r : Nat) (hc : c ≤ 16) (hl : l < 9223372036854775808) : bits .and .i64 ((l : Int) / 2 ^ (c * r)) (RowKit.wrap64 (RowKit.wrap64 (2 ^ c) - 1)) = (lr c l r : Nat) := by
  have e : (l : Int) / 2 ^ (c * r) = ((l / 2 ^ (c * r) : Nat) : Int) := by rw [← pow_nat]; omega
  rw [e, and_mask _ _ (Nat.lt_of_le_of_lt (Nat.div_le_self _ _) hl) hc]
  rfl
theorem div_min (l p : Nat) (hl : l < 9223372036854775808) : l / 2 ^ min p 64 = l / 2 ^ p := by
  by_cases h : p ≤ 64
  · rw [Nat.min_eq_left h]
  · rw [Nat.min_eq_right (by omega), Nat.div_eq_of_lt (by omega), Nat.div_eq_of_lt]
    have : 2 ^ 64 ≤ 2 ^ p := Nat.pow_le_pow_right (by decide) (by omega)
    omega
theorem row_bits_min (c l r p : Nat) (hc : c ≤ 16) (hl : l < 9223372036854775808) (hp : c * r = p) : bits .and .i64 ((l : Int) / 2 ^ min p 64) (RowKit.wrap64 (RowKit.wrap64 (2 ^ c) - 1)) = (lr c l r : Nat) := by
  have e : (l : Int) / 2 ^ min p 64 = ((l / 2 ^ p : Nat) : Int) := by rw [← pow_nat, ← div_min l p hl]; omega
  rw [e, and_mask _ _ (Nat.lt_of_le_of_lt (Nat.div_le_self _ _) hl) hc, ← hp]
  rfl
end Go.Proofs.Ytmcimfblhpflnaa
