/-
Plain arithmetic of sets told as numbers: bits, graphs. Nothing here speaks of the program.
-/
import Derived.Laws.BitsAllLaws
import Derived.Laws.BitsLemmas
import Derived.Laws.Bits64
import Derived.RowKit
import Derived.IntWalk
namespace Go.Proofs.YtibikoajejfdeaaDoor

/-- Is i in the set s? -/
def bt (s : Int) (i : Nat) : Bool := decide (s / 2 ^ i % 2 = 1)

theorem bits_and_one (x : Int) : bits .and .i64 x 1 = x % 2 := by
  show IntKind.i64.wrap ((BitVec.ofInt 64 x &&& BitVec.ofInt 64 1).toNat : Int) = _
  have h1 : BitVec.ofInt 64 1 = 1#64 := rfl
  rw [h1, BitVec.toNat_and]
  have h2 : (1#64).toNat = 1 := rfl
  rw [h2, Nat.and_one_is_mod, BitVec.toNat_ofInt, IntKind.wrap_i64]
  omega
theorem has_eq (s : Int) (i : Nat) : (bits .and .i64 (s / 2 ^ i) 1 == 1) = bt s i := by
  rw [bits_and_one, Bool.eq_iff_iff]; simp [bt]
theorem grIn_eq (s : Int) (i : Nat) (h : 0 ≤ s) : ((s / 2 ^ i).tmod 2 == 1) = bt s i := by
  have : 0 ≤ s / 2 ^ i := Int.ediv_nonneg h (by have : (0 : Int) < 2 ^ i := Int.pow_pos (by decide); omega)
  rw [Int.tmod_eq_emod_of_nonneg this, Bool.eq_iff_iff]; simp [bt]
theorem isSet_eq (s : Int) (n : Nat) : (s / 2 ^ n == 0) = decide (0 ≤ s ∧ s < 2 ^ n) := by
  have hp : (0 : Int) < 2 ^ n := Int.pow_pos (by decide)
  rw [Bool.eq_iff_iff]
  simp only [beq_iff_eq, decide_eq_true_eq]
  constructor
  · intro h
    have := Int.mul_ediv_add_emod s (2 ^ n)
    have h1 := Int.emod_nonneg s (show (2 : Int) ^ n ≠ 0 by omega)
    have h2 := Int.emod_lt_of_pos s hp
    rw [h] at this
    simp at this
    omega
  · intro ⟨h0, h1⟩
    exact Int.ediv_eq_zero_of_lt h0 h1
theorem pow_nat (n : Nat) : ((2 ^ n : Nat) : Int) = 2 ^ n := by rw [Int.natCast_pow]; rfl
theorem pow16 {n : Nat} (h : n ≤ 16) : (1 : Int) ≤ 2 ^ n ∧ (2 : Int) ^ n ≤ 65536 := by
  have h1 : 2 ^ n ≤ 2 ^ 16 := Nat.pow_le_pow_right (by decide) h
  have h2 : 1 ≤ 2 ^ n := Nat.one_le_two_pow
  have h3 : (2 : Nat) ^ 16 = 65536 := rfl
  rw [← pow_nat]
  omega
/-- lo ≤ s ≤ hi, as a test. -/
def inB (s lo hi : Int) : Bool := decide (lo ≤ s ∧ s ≤ hi)
theorem isSet_in (s : Int) (n : Nat) : (s / 2 ^ n == 0) = inB s 0 (2 ^ n - 1) := by
  rw [isSet_eq, inB, decide_eq_decide]; omega
/-- All of f 0, .., f (n - 1) lie there. -/
def allB (n : Nat) (f : Nat → Int) (lo hi : Int) : Bool := decide (∀ k, k < n → lo ≤ f k ∧ f k ≤ hi)
def Good (n : Nat) (f : Nat → Int) : Prop :=
  1 ≤ n ∧ n ≤ 16 ∧ (∀ k, k < n → 0 ≤ f k ∧ f k < 2 ^ n) ∧ ∀ i, i < n → ∀ j, j < n → bt (f i) j = true → i ≠ j ∧ bt (f j) i = true
open Classical in
/-- Are f 0, .., f (n - 1) the neighbours of a graph of n buttons? -/
noncomputable def goodB (n : Nat) (f : Nat → Int) : Bool := decide (Good n f)
theorem goodB_yes {n : Nat} {f : Nat → Int} (h : Good n f) : goodB n f = true := by simp [goodB, h]
theorem goodB_no {n : Nat} {f : Nat → Int} (h : ¬ Good n f) : goodB n f = false := by simp [goodB, h]
theorem goodB_iff {n : Nat} {f : Nat → Int} : goodB n f = true ↔ Good n f := by simp [goodB]
theorem goodB_not {n : Nat} {f : Nat → Int} : goodB n f = false ↔ ¬ Good n f := by simp [goodB]

theorem ofInt_i64 (a : Nat) (ha : a < 9223372036854775808) : (BitVec.ofInt 64 (a : Int)).toNat = a := by
  rw [BitVec.ofInt_natCast, BitVec.toNat_ofNat]; exact Nat.mod_eq_of_lt (by omega)
theorem i64_or_nat (a b : Nat) (ha : a < 9223372036854775808) (hb : b < 9223372036854775808) : bits .or .i64 (a : Int) (b : Int) = ((a ||| b : Nat) : Int) := by
  have hx : a ||| b < 2 ^ 63 := Nat.or_lt_two_pow (by omega) (by omega)
  show IntKind.i64.wrap ((BitVec.ofInt 64 (a : Int) ||| BitVec.ofInt 64 (b : Int)).toNat : Int) = _
  rw [BitVec.toNat_or, ofInt_i64 a ha, ofInt_i64 b hb, IntKind.wrap_i64]
  omega
theorem i64_xor_nat (a b : Nat) (ha : a < 9223372036854775808) (hb : b < 9223372036854775808) : bits .xor .i64 (a : Int) (b : Int) = ((a ^^^ b : Nat) : Int) := by
  have hx : a ^^^ b < 2 ^ 63 := Nat.xor_lt_two_pow (by omega) (by omega)
  show IntKind.i64.wrap ((BitVec.ofInt 64 (a : Int) ^^^ BitVec.ofInt 64 (b : Int)).toNat : Int) = _
  rw [BitVec.toNat_xor, ofInt_i64 a ha, ofInt_i64 b hb, IntKind.wrap_i64]
  omega
theorem pow_lt16 {j : Nat} (hj : j < 16) : 2 ^ j < 65536 := by
  have h1 : 2 ^ j < 2 ^ 16 := Nat.pow_lt_pow_right (by decide) hj
  exact h1
/-- x with the bit j. -/
theorem or_pow (a j : Nat) (ha : a < 65536) (hj : j < 16) : bits .or .i64 (a : Int) (2 ^ j) = ((a ||| 2 ^ j : Nat) : Int) := by
  have h := pow_lt16 hj
  rw [← i64_or_nat a (2 ^ j) (by omega) (by omega), pow_nat]
theorem wrap_pow {j : Nat} (hj : j < 16) : RowKit.wrap64 (2 ^ j) = 2 ^ j := by
  have h := pow_lt16 hj
  rw [← pow_nat]
  generalize 2 ^ j = x at h
  exact IntWalk.wrap64_in _ (by omega)
theorem or_wrap (a j : Nat) (ha : a < 65536) (hj : j < 16) : bits .or .i64 (a : Int) (RowKit.wrap64 (2 ^ j)) = ((a ||| 2 ^ j : Nat) : Int) := by
  rw [wrap_pow hj, or_pow a j ha hj]
theorem or_lt16 {a b : Nat} (ha : a < 65536) (hb : b < 65536) : a ||| b < 65536 := Nat.or_lt_two_pow (n := 16) ha hb
/-- The edge i, j is added: two elements are joined to each other. -/
def lk (i j : Nat) (F : Nat → Nat) : Nat → Nat := fun k => if k = j then (if j = i then F k ||| 2 ^ j else F k) ||| 2 ^ i else if k = i then F k ||| 2 ^ j else F k
theorem lk_lt {i j : Nat} {F : Nat → Nat} {n : Nat} (hi : i < 16) (hj : j < 16) (hF : ∀ k, k < n → F k < 65536) : ∀ k, k < n → lk i j F k < 65536 := by
  intro k hk
  have h1 := pow_lt16 hi
  have h2 := pow_lt16 hj
  have h3 := hF k hk
  unfold lk
  split
  · split
    · exact or_lt16 (or_lt16 h3 h2) h1
    · exact or_lt16 h3 h1
  · split
    · exact or_lt16 h3 h2
    · exact h3
end Go.Proofs.YtibikoajejfdeaaDoor
