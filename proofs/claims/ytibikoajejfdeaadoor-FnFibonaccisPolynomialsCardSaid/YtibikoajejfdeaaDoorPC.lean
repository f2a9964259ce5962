/-
Polynomials over two elements, told as numbers: the reverse, the derivative. Plain arithmetic; nothing here speaks of the program.
-/
import Derived.Test.YtibikoajejfdeaaDoorPB
import Derived.Test.YtibikoajejfdeaaDoorMB
namespace Go.Proofs.YtibikoajejfdeaaDoor
/-- Blocks of s bits change places with their neighbours. -/
def swp (s m x : Nat) : Nat := (x >>> s &&& m) ||| ((x &&& m) <<< s)
def sg (s i : Nat) : Nat := if (i / s) % 2 = 0 then i + s else i - s
def mk_ok (s m : Nat) : Prop := ∀ i, i < 64 → m.testBit i = decide ((i / s) % 2 = 0)
theorem swp_bit {s m x i : Nat} (hs : 0 < s) (hm : mk_ok s m) (hi : i < 64) : (swp s m x).testBit i = x.testBit (sg s i) := by
  unfold swp sg
  rw [Nat.testBit_or, Nat.testBit_and, Nat.testBit_shiftRight, Nat.testBit_shiftLeft, Nat.testBit_and, hm i hi]
  by_cases h : (i / s) % 2 = 0
  · rw [if_pos h]
    by_cases h2 : s ≤ i
    · have h3 := Nat.div_eq_sub_div hs h2
      rw [hm (i - s) (by omega)]
      have h4 : ¬ ((i - s) / s) % 2 = 0 := by omega
      simp [h, h4, Nat.add_comm]
    · simp [h, h2, Nat.add_comm]
  · rw [if_neg h]
    have h2 : s ≤ i := by
      rcases Nat.lt_or_ge i s with h1 | h1
      · rw [Nat.div_eq_of_lt h1] at h; exact absurd rfl h
      · exact h1
    have h3 := Nat.div_eq_sub_div hs h2
    rw [hm (i - s) (by omega)]
    have h4 : ((i - s) / s) % 2 = 0 := by omega
    simp [h, h2, h4]
def m1 : Nat := 6148914691236517205
def m2 : Nat := 3689348814741910323
def m4 : Nat := 1085102592571150095
def m8 : Nat := 71777214294589695
def m16 : Nat := 281470681808895
theorem ok1 : mk_ok 1 m1 := by unfold mk_ok; decide
theorem ok2 : mk_ok 2 m2 := by unfold mk_ok; decide
theorem ok4 : mk_ok 4 m4 := by unfold mk_ok; decide
theorem ok8 : mk_ok 8 m8 := by unfold mk_ok; decide
theorem ok16 : mk_ok 16 m16 := by unfold mk_ok; decide
/-- All bytes, then all bits, in the other order. -/
def rvb (x : Nat) : Nat := (swp 16 m16 (swp 8 m8 x)) >>> 32 ||| ((swp 16 m16 (swp 8 m8 x)) <<< 32) % 2 ^ 64
def rev (x : Nat) : Nat := rvb (swp 4 m4 (swp 2 m2 (swp 1 m1 x)))
theorem sg_all : ∀ i, i < 64 → sg 16 i < 64 ∧ sg 8 (sg 16 i) < 64 ∧ sg 4 (sg 8 (sg 16 i)) < 64 ∧ sg 2 (sg 4 (sg 8 (sg 16 i))) < 64 := by decide
theorem sg_low : ∀ i, i < 32 → sg 1 (sg 2 (sg 4 (sg 8 (sg 16 (32 + i))))) = 63 - i := by decide
theorem sg_hi : ∀ i, i < 64 → 32 ≤ i → sg 1 (sg 2 (sg 4 (sg 8 (sg 16 (i - 32))))) = 63 - i := by decide
theorem rev_mid {x i : Nat} (hi : i < 64) : (swp 16 m16 (swp 8 m8 (swp 4 m4 (swp 2 m2 (swp 1 m1 x))))).testBit i = x.testBit (sg 1 (sg 2 (sg 4 (sg 8 (sg 16 i))))) := by
  obtain ⟨h1, h2, h3, h4⟩ := sg_all i hi
  rw [swp_bit (by decide) ok16 hi, swp_bit (by decide) ok8 h1, swp_bit (by decide) ok4 h2, swp_bit (by decide) ok2 h3, swp_bit (by decide) ok1 h4]
theorem and_lt_m {a m n : Nat} (h : m < 2 ^ n) : a &&& m < 2 ^ n := Nat.and_lt_two_pow a h
theorem swp_lt {s m x : Nat} (h : m < 2 ^ 64) (h2 : (x &&& m) <<< s < 2 ^ 64) : swp s m x < 2 ^ 64 := Nat.or_lt_two_pow (and_lt_m h) h2
theorem shl_lt {a n s : Nat} (h : a < 2 ^ n) : a <<< s < 2 ^ (n + s) := by rw [Nat.shiftLeft_eq, Nat.pow_add]; exact Nat.mul_lt_mul_of_pos_right h (Nat.two_pow_pos s)
theorem swp16_lt (x : Nat) : swp 16 m16 x < 2 ^ 64 := swp_lt (by decide) (shl_lt (n := 48) (and_lt_m (by decide)))
theorem rev_bit {x i : Nat} (hi : i < 64) : (rev x).testBit i = x.testBit (63 - i) := by
  unfold rev rvb
  have hlt := swp16_lt (swp 8 m8 (swp 4 m4 (swp 2 m2 (swp 1 m1 x))))
  rw [Nat.testBit_or, Nat.testBit_shiftRight, Nat.testBit_mod_two_pow, Nat.testBit_shiftLeft]
  by_cases h : i < 32
  · rw [rev_mid (by omega), sg_low i h]
    simp [show ¬ 32 ≤ i by omega]
  · rw [rev_mid (i := i - 32) (by omega), sg_hi i hi (by omega), Nat.testBit_lt_two_pow (i := 32 + i) (Nat.lt_of_lt_of_le hlt (Nat.pow_le_pow_right (by decide) (by omega)))]
    simp [hi, show 32 ≤ i by omega]
theorem rev_lt (x : Nat) : rev x < 2 ^ 64 := by
  refine Nat.or_lt_two_pow ?_ (Nat.mod_lt _ (by decide))
  exact Nat.lt_of_le_of_lt (by rw [Nat.shiftRight_eq_div_pow]; exact Nat.div_le_self _ _) (swp16_lt _)
/-- The reverse of a polynomial, by n of its powers from the greatest on. -/
def rvp (p n : Nat) : Nat := litN (fun j => p.testBit (bl p - 1 - j)) n
theorem rvp_zero (p : Nat) : rvp p 0 = 0 := rfl
theorem rvp_yes {p n : Nat} (h : p.testBit (bl p - 1 - n) = true) : rvp p (n + 1) = rvp p n ||| 2 ^ n := by show litN _ (n + 1) = _; rw [litN, if_pos h]; rfl
theorem rvp_no {p n : Nat} (h : p.testBit (bl p - 1 - n) = false) : rvp p (n + 1) = rvp p n := by show litN _ (n + 1) = _; rw [litN, if_neg (by rw [h]; decide)]; rfl
theorem rvp_lt (p n : Nat) : rvp p n < 2 ^ n := Nat.lt_pow_two_of_testBit _ fun j hj => by unfold rvp; rw [litN_bit]; simp; omega
theorem rev_rvp {p : Nat} (h : bl p ≤ 64) : rev p / 2 ^ (64 - bl p) = rvp p (bl p) := by
  apply Nat.eq_of_testBit_eq
  intro j
  unfold rvp
  rw [Nat.testBit_div_two_pow, litN_bit]
  by_cases hj : j < bl p
  · rw [rev_bit (by omega)]
    simp only [hj, decide_true, Bool.true_and]
    congr 1; omega
  · rw [Nat.testBit_lt_two_pow (Nat.lt_of_lt_of_le (rev_lt p) (Nat.pow_le_pow_right (by decide) (by omega)))]
    simp [hj]
/-- The derivative, by the odd powers below 2 n. -/
def drv (p : Nat) : Nat → Nat
  | 0 => 0
  | n + 1 => if p.testBit (2 * n + 1) then drv p n ||| 2 ^ (2 * n) else drv p n
theorem drv_yes {p n : Nat} (h : p.testBit (2 * n + 1) = true) : drv p (n + 1) = drv p n ||| 2 ^ (2 * n) := by rw [drv, if_pos h]
theorem drv_no {p n : Nat} (h : p.testBit (2 * n + 1) = false) : drv p (n + 1) = drv p n := by rw [drv, if_neg (by rw [h]; decide)]
theorem drv_bit (p n j : Nat) : (drv p n).testBit j = (decide (j < 2 * n ∧ j % 2 = 0) && p.testBit (j + 1)) := by
  induction n with
  | zero => simp [drv]
  | succ n ih =>
    by_cases hj : 2 * n = j
    · subst hj
      cases h : p.testBit (2 * n + 1)
      · rw [drv_no h, ih]; simp
      · rw [drv_yes h, Nat.testBit_or, ih, Nat.testBit_two_pow]; simp [h]
    · have e : decide (j < 2 * n ∧ j % 2 = 0) = decide (j < 2 * (n + 1) ∧ j % 2 = 0) := by rw [decide_eq_decide]; omega
      rw [← e, ← ih]
      cases h : p.testBit (2 * n + 1)
      · rw [drv_no h]
      · rw [drv_yes h, Nat.testBit_or, Nat.testBit_two_pow]; simp [hj]
theorem drv_lt (p n : Nat) : drv p n < 2 ^ (2 * n) := Nat.lt_pow_two_of_testBit _ fun j hj => by rw [drv_bit]; simp; omega
theorem m1_bit {j : Nat} (h : j < 64) : m1.testBit j = decide (j % 2 = 0) := by rw [ok1 j h, Nat.div_one]
theorem drv_end {p n : Nat} (h : bl p ≤ 2 * n + 1) (h64 : bl p ≤ 64) : p / 2 &&& m1 = drv p n := by
  apply Nat.eq_of_testBit_eq
  intro j
  rw [drv_bit, Nat.testBit_and, Nat.testBit_div_two]
  by_cases hj : j + 1 < bl p
  · rw [m1_bit (by omega)]
    by_cases h2 : j % 2 = 0
    · simp [h2, show j < 2 * n by omega]
    · simp [h2]
  · rw [Nat.testBit_lt_two_pow (Nat.lt_of_lt_of_le (lt_bl p) (Nat.pow_le_pow_right (by decide) (show bl p ≤ j + 1 by omega)))]
    simp
/-- The polynomial with x + 1 for x: what the powers from k on give. -/
theorem hs_yes {p k o : Nat} (h : p.testBit k = true) : hs p (k + 1) o = hs p k ((o ^^^ o * 2) ^^^ 1) := by rw [hs, if_pos h]
theorem hs_no {p k o : Nat} (h : p.testBit k = false) : hs p (k + 1) o = hs p k (o ^^^ o * 2) := by rw [hs, if_neg (by rw [h]; decide), Nat.xor_zero]
theorem hs_step_lt {o j : Nat} (h : o < 2 ^ j) : o ^^^ o * 2 < 2 ^ (j + 1) := Nat.xor_lt_two_pow (Nat.lt_of_lt_of_le h (Nat.pow_le_pow_right (by decide) (by omega))) (by rw [Nat.pow_succ]; omega)
theorem hs_step_lt1 {o j : Nat} (h : o < 2 ^ j) : (o ^^^ o * 2) ^^^ 1 < 2 ^ (j + 1) := Nat.xor_lt_two_pow (hs_step_lt h) (Nat.one_lt_two_pow (by omega))
end Go.Proofs.YtibikoajejfdeaaDoor
