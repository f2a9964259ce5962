import Derived.Lib.TrailingZeros
namespace Go.Proofs.YtibikoajejfdeaaDoor
/-- What the buttons below k of a set toggle. -/
def effN (T : Nat → Nat) (p : Nat) : Nat → Nat
  | 0 => 0
  | k + 1 => if p.testBit k then effN T p k ^^^ T k else effN T p k
theorem effN_xor (T : Nat → Nat) (p q k : Nat) : effN T (p ^^^ q) k = effN T p k ^^^ effN T q k := by
  induction k with
  | zero => simp [effN]
  | succ k ih =>
    simp only [effN, Nat.testBit_xor, ih]
    cases h1 : p.testBit k <;> cases h2 : q.testBit k
    · simp
    · simp [Nat.xor_assoc]
    · simp [Nat.xor_assoc, Nat.xor_comm (effN T q k)]
    · simp only [Bool.xor_self, Bool.false_eq_true, if_false, if_true]
      rw [Nat.xor_assoc, ← Nat.xor_assoc (T k), Nat.xor_comm (T k), Nat.xor_assoc (effN T q k), Nat.xor_self, Nat.xor_zero]
theorem effN_bit (T : Nat → Nat) (i k : Nat) : effN T (2 ^ i) k = if i < k then T i else 0 := by
  induction k with
  | zero => simp [effN]
  | succ k ih =>
    simp only [effN, Nat.testBit_two_pow, ih]
    by_cases h : i = k
    · subst h; simp
    · have h2 : (i < k + 1) ↔ i < k := by omega
      simp [h, h2]
theorem effN_lt {T : Nat → Nat} {n : Nat} (hT : ∀ i, i < n → T i < 2 ^ n) (p : Nat) : ∀ k, k ≤ n → effN T p k < 2 ^ n := by
  intro k
  induction k with
  | zero => intro _; exact Nat.two_pow_pos n
  | succ k ih =>
    intro hk
    simp only [effN]
    split
    · exact Nat.xor_lt_two_pow (ih (by omega)) (hT k (by omega))
    · exact ih (by omega)
/-- The lowest bit taken away. -/
theorem low_off {s i : Nat} (h : s.testBit i = true) (hl : ∀ j, j < i → s.testBit j = false) : s &&& (s - 1) = s ^^^ 2 ^ i := by
  have e : s = 2 ^ i * (s / 2 ^ i) := by
    have h0 : s % 2 ^ i = 0 := by
      apply Nat.eq_of_testBit_eq
      intro j
      rw [Nat.testBit_mod_two_pow]
      by_cases hj : j < i
      · simp [hj, hl j hj]
      · simp [hj]
    have := Nat.div_add_mod s (2 ^ i)
    omega
  have hodd : s / 2 ^ i % 2 = 1 := by rw [Nat.testBit_eq_decide_div_mod_eq, decide_eq_true_eq] at h; exact h
  obtain ⟨q, hq⟩ : ∃ q, s / 2 ^ i = 2 * q + 1 := ⟨s / 2 ^ i / 2, by omega⟩
  have hs : s = 2 ^ i * (2 * q) + 2 ^ i := by rw [e, hq, Nat.mul_add, Nat.mul_one]
  have hp := Nat.two_pow_pos i
  have hs1 : s - 1 = 2 ^ i * (2 * q) + (2 ^ i - 1) := by omega
  apply Nat.eq_of_testBit_eq
  intro j
  rw [Nat.testBit_and, Nat.testBit_xor, Nat.testBit_two_pow]
  rcases Nat.lt_trichotomy j i with hj | hj | hj
  · simp [hl j hj, show ¬ i = j by omega]
  · subst hj
    have : (s - 1).testBit j = false := by
      rw [hs1, Nat.testBit_two_pow_mul_add _ (by omega)]
      simp
    simp [h, this]
  · have h1 : (s - 1).testBit j = s.testBit j := by
      rw [hs1]
      have h2 : s = 2 ^ i * (2 * q + 1) + 0 := by rw [hs]; rw [Nat.mul_add]; omega
      rw [h2, Nat.testBit_two_pow_mul_add _ (by omega), Nat.testBit_two_pow_mul_add _ (by omega)]
      simp only [show ¬ j < i by omega, if_false]
      obtain ⟨d, hd⟩ : ∃ d, j - i = d + 1 := ⟨j - i - 1, by omega⟩
      rw [hd, Nat.testBit_succ, Nat.testBit_succ]
      congr 1
      omega
    rw [h1]; simp [show ¬ i = j by omega]
theorem ctz_low {x : Nat} (h0 : x ≠ 0) (h : x < 2 ^ 64) : x.testBit (Lib.ctz 64 x) = true ∧ (∀ j, j < Lib.ctz 64 x → x.testBit j = false) := by
  obtain ⟨m, hm, hk⟩ := Lib.ctzFrom_spec 64 x (by omega) h
  have e : Lib.ctz 64 x = Lib.ctzFrom 64 x := by simp [Lib.ctz, h0]
  rw [e]
  generalize Lib.ctzFrom 64 x = i at hm
  subst hm
  refine ⟨?_, fun j hj => ?_⟩
  · rw [Nat.testBit_two_pow_mul]; simp
  · rw [Nat.testBit_two_pow_mul]; simp; omega
/-- The lights while the buttons of r are still to be pressed. -/
def curE (T : Nat → Nat) (n s p r : Nat) : Nat := s ^^^ (effN T p n ^^^ effN T r n)
theorem effN_zero (T : Nat → Nat) (k : Nat) : effN T 0 k = 0 := by
  induction k with
  | zero => rfl
  | succ k ih => simp [effN, ih]
theorem curE_start (T : Nat → Nat) (n s p : Nat) : curE T n s p p = s := by simp [curE]
theorem curE_end (T : Nat → Nat) (n s p : Nat) : curE T n s p 0 = s ^^^ effN T p n := by simp [curE, effN_zero]
theorem curE_step {T : Nat → Nat} {n s p r i : Nat} (hi : i < n) (hb : r.testBit i = true) (hl : ∀ j, j < i → r.testBit j = false) : curE T n s p (r &&& (r - 1)) = curE T n s p r ^^^ T i := by
  rw [low_off hb hl]
  unfold curE
  rw [effN_xor, effN_bit, if_pos hi]
  simp only [Nat.xor_assoc]
theorem low_lt {r i : Nat} (hb : r.testBit i = true) (hl : ∀ j, j < i → r.testBit j = false) : r &&& (r - 1) < r := by
  have h0 : r ≠ 0 := by rintro rfl; simp at hb
  have h1 : r &&& (r - 1) ≤ r - 1 := Nat.and_le_right
  omega
theorem bit_lt {r i n : Nat} (hb : r.testBit i = true) (hr : r < 2 ^ n) : i < n := by
  rcases Nat.lt_or_ge i n with h | h
  · exact h
  · rw [Nat.testBit_lt_two_pow (Nat.lt_of_lt_of_le hr (Nat.pow_le_pow_right (by decide) h))] at hb; cases hb
end Go.Proofs.YtibikoajejfdeaaDoor
