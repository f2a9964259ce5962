/-
Polynomials over two elements, told as numbers: degrees, division, products. Plain arithmetic; nothing here speaks of the program.
-/
namespace Go.Proofs.YtibikoajejfdeaaDoor
/-- The number of bits: one more than the degree, 0 for 0. -/
def bl (p : Nat) : Nat := if p = 0 then 0 else p.log2 + 1
theorem bl_zero : bl 0 = 0 := rfl
theorem bl_pos {p : Nat} (h : p ≠ 0) : bl p = p.log2 + 1 := if_neg h
theorem lt_bl (p : Nat) : p < 2 ^ bl p := by
  by_cases h : p = 0
  · subst h; exact Nat.one_pos
  · rw [bl_pos h]; exact Nat.lt_log2_self
theorem bl_le {p n : Nat} : bl p ≤ n ↔ p < 2 ^ n := by
  constructor
  · intro h; exact Nat.lt_of_lt_of_le (lt_bl p) (Nat.pow_le_pow_right (by decide) h)
  · intro h
    by_cases h0 : p = 0
    · subst h0; exact Nat.zero_le _
    · rw [bl_pos h0]; exact (Nat.log2_lt h0).2 h
theorem bl_self {p : Nat} (h : p ≠ 0) : 2 ^ (bl p - 1) ≤ p := by rw [bl_pos h]; exact Nat.log2_self_le h
theorem bl_eq_zero {p : Nat} : bl p = 0 ↔ p = 0 := by
  constructor
  · intro h; by_cases h0 : p = 0
    · exact h0
    · rw [bl_pos h0] at h; omega
  · rintro rfl; rfl
theorem bl_eq {p n : Nat} (h1 : 2 ^ n ≤ p) (h2 : p < 2 ^ (n + 1)) : bl p = n + 1 := by
  have h3 := bl_le.2 h2
  have h4 : ¬ bl p ≤ n := fun h => absurd (bl_le.1 h) (by omega)
  omega
theorem tb_top {p n : Nat} (h1 : p < 2 ^ (n + 1)) : p.testBit n = decide (2 ^ n ≤ p) := by
  rw [Nat.testBit_eq_decide_div_mod_eq, decide_eq_decide]
  have hp : 0 < 2 ^ n := Nat.two_pow_pos n
  constructor
  · intro h
    rcases Nat.lt_or_ge p (2 ^ n) with h2 | h2
    · rw [Nat.div_eq_of_lt h2] at h; cases h
    · exact h2
  · intro h
    have : p / 2 ^ n = 1 := by
      apply Nat.div_eq_of_lt_le
      · omega
      · rw [Nat.pow_succ] at h1; omega
    rw [this]
theorem bl_bit {p n : Nat} (h : bl p = n + 1) : p.testBit n = true := by
  have h1 := lt_bl p
  rw [h] at h1
  rw [tb_top h1, decide_eq_true_eq]
  have h0 : p ≠ 0 := by rintro rfl; rw [bl_zero] at h; cases h
  have := bl_self h0
  rw [h] at this
  exact this
theorem lt_of_no_bit {p n : Nat} (h1 : p < 2 ^ (n + 1)) (h2 : p.testBit n = false) : p < 2 ^ n := by
  rw [tb_top h1, decide_eq_false_iff_not] at h2
  omega
/-- n steps of a division by q of degree d, the greatest first: the quotient so far and what is left. -/
def dvk (q d : Nat) : Nat → Nat → Nat → Nat × Nat
  | 0, o, p => (o, p)
  | k + 1, o, p => if p.testBit (k + d) then dvk q d k (o ||| 2 ^ k) (p ^^^ q * 2 ^ k) else dvk q d k o p
theorem dvk_zero (q d o p : Nat) : dvk q d 0 o p = (o, p) := rfl
theorem dvk_yes {q d k o p : Nat} (h : p.testBit (k + d) = true) : dvk q d (k + 1) o p = dvk q d k (o ||| 2 ^ k) (p ^^^ q * 2 ^ k) := by rw [dvk, if_pos h]
theorem dvk_no {q d k o p : Nat} (h : p.testBit (k + d) = false) : dvk q d (k + 1) o p = dvk q d k o p := by rw [dvk, if_neg (by rw [h]; decide)]
theorem bit_out {p n m : Nat} (h : p < 2 ^ n) (h2 : n ≤ m) : p.testBit m = false := Nat.testBit_lt_two_pow (Nat.lt_of_lt_of_le h (Nat.pow_le_pow_right (by decide) h2))
theorem dvk_skip {q d o p m n : Nat} (h : p < 2 ^ (m + d)) (hmn : m ≤ n) : dvk q d n o p = dvk q d m o p := by
  obtain ⟨j, rfl⟩ : ∃ j, n = m + j := ⟨n - m, by omega⟩
  clear hmn
  induction j with
  | zero => rfl
  | succ j ih => rw [← Nat.add_assoc, dvk_no (bit_out h (by omega)), ih]
theorem sh_lt' {q d k : Nat} (hq : q < 2 ^ (d + 1)) : q * 2 ^ k < 2 ^ (k + d + 1) := by
  have h : 2 ^ (k + d + 1) = 2 ^ (d + 1) * 2 ^ k := by rw [← Nat.pow_add]; congr 1; omega
  rw [h]
  exact Nat.mul_lt_mul_of_pos_right hq (Nat.two_pow_pos k)
theorem sh_bit {q d k : Nat} (h : q.testBit d = true) : (q * 2 ^ k).testBit (k + d) = true := by
  rw [Nat.testBit_mul_two_pow]
  simp [h]
/-- One step clears the greatest power. -/
theorem step_lt {q d k p : Nat} (hq : q < 2 ^ (d + 1)) (ht : q.testBit d = true) (hp : p < 2 ^ (k + d + 1)) (hb : p.testBit (k + d) = true) : p ^^^ q * 2 ^ k < 2 ^ (k + d) := by
  apply lt_of_no_bit (Nat.xor_lt_two_pow hp (sh_lt' hq))
  rw [Nat.testBit_xor, hb, sh_bit ht]; rfl
theorem dvk_rest_lt {q d : Nat} (hq : q < 2 ^ (d + 1)) (ht : q.testBit d = true) : ∀ (n o p : Nat), p < 2 ^ (n + d) → (dvk q d n o p).2 < 2 ^ d
  | 0, _, p, h => by rw [Nat.zero_add] at h; exact h
  | n + 1, o, p, h => by
    have h' : p < 2 ^ (n + d + 1) := by rw [show n + d + 1 = n + 1 + d by omega]; exact h
    cases hb : p.testBit (n + d)
    · rw [dvk_no hb]; exact dvk_rest_lt hq ht n o p (lt_of_no_bit h' hb)
    · rw [dvk_yes hb]; exact dvk_rest_lt hq ht n _ _ (step_lt hq ht h' hb)
theorem xx' (a b : Nat) : a ^^^ b ^^^ b = a := by rw [Nat.xor_assoc, Nat.xor_self, Nat.xor_zero]
theorem x4 (a b c d : Nat) : (a ^^^ b) ^^^ (c ^^^ d) = (a ^^^ c) ^^^ (b ^^^ d) := by
  rw [Nat.xor_assoc, Nat.xor_assoc, ← Nat.xor_assoc b, ← Nat.xor_assoc c, Nat.xor_comm b c]
theorem dvk_rest_o {q d : Nat} : ∀ (n o o' p : Nat), (dvk q d n o p).2 = (dvk q d n o' p).2
  | 0, _, _, _ => rfl
  | n + 1, o, o', p => by
    cases hb : p.testBit (n + d)
    · rw [dvk_no hb, dvk_no hb]; exact dvk_rest_o n _ _ _
    · rw [dvk_yes hb, dvk_yes hb]; exact dvk_rest_o n _ _ _
/-- What is left of a sum. -/
theorem dvk_rest_xor {q d : Nat} : ∀ (n o a b : Nat), (dvk q d n o (a ^^^ b)).2 = (dvk q d n o a).2 ^^^ (dvk q d n o b).2
  | 0, _, _, _ => rfl
  | n + 1, o, a, b => by
    cases ha : a.testBit (n + d) <;> cases hb : b.testBit (n + d)
    · rw [dvk_no (by rw [Nat.testBit_xor, ha, hb]; rfl), dvk_no ha, dvk_no hb]; exact dvk_rest_xor n o a b
    · rw [dvk_yes (by rw [Nat.testBit_xor, ha, hb]; rfl), dvk_no ha, dvk_yes hb, dvk_rest_o n (o ||| 2 ^ n) o, dvk_rest_o n (o ||| 2 ^ n) o, Nat.xor_assoc]; exact dvk_rest_xor n o a _
    · rw [dvk_yes (by rw [Nat.testBit_xor, ha, hb]; rfl), dvk_yes ha, dvk_no hb, dvk_rest_o n (o ||| 2 ^ n) o, dvk_rest_o n (o ||| 2 ^ n) o (a ^^^ _), Nat.xor_assoc, Nat.xor_comm b, ← Nat.xor_assoc]; exact dvk_rest_xor n o _ b
    · rw [dvk_no (by rw [Nat.testBit_xor, ha, hb]; rfl), dvk_yes ha, dvk_yes hb, dvk_rest_o n (o ||| 2 ^ n) o, dvk_rest_o n (o ||| 2 ^ n) o, ← dvk_rest_xor n o _ _, x4, Nat.xor_self, Nat.xor_zero]
theorem dvk_quot_lt {q d : Nat} : ∀ (n o p m : Nat), n ≤ m → o < 2 ^ m → (dvk q d n o p).1 < 2 ^ m
  | 0, _, _, _, _, h => h
  | n + 1, o, p, m, hm, h => by
    cases hb : p.testBit (n + d)
    · rw [dvk_no hb]; exact dvk_quot_lt n o p m (by omega) h
    · rw [dvk_yes hb]; exact dvk_quot_lt n _ _ m (by omega) (Nat.or_lt_two_pow h (Nat.pow_lt_pow_right (by decide) (by omega)))
theorem dvk_quot_ge {q d : Nat} : ∀ (n o p : Nat), o ≤ (dvk q d n o p).1
  | 0, _, _ => Nat.le_refl _
  | n + 1, o, p => by
    cases hb : p.testBit (n + d)
    · rw [dvk_no hb]; exact dvk_quot_ge n o p
    · rw [dvk_yes hb]; exact Nat.le_trans Nat.left_le_or (dvk_quot_ge n _ _)
/-- The quotient and what is left. -/
def dv (p q : Nat) : Nat × Nat := dvk q (bl q - 1) (bl p - (bl q - 1)) 0 p
def rm (p q : Nat) : Nat := (dv p q).2
def qu (p q : Nat) : Nat := (dv p q).1
theorem dv_at {p q n : Nat} (h : p < 2 ^ (n + (bl q - 1))) : dvk q (bl q - 1) n 0 p = dv p q := by
  have h1 := bl_le.2 h
  exact dvk_skip (by
    have h2 := lt_bl p
    exact Nat.lt_of_lt_of_le h2 (Nat.pow_le_pow_right (by decide) (by omega))) (by omega)
theorem q_lt {q : Nat} (h : q ≠ 0) : q < 2 ^ (bl q - 1 + 1) := by
  have h1 := lt_bl q
  have h2 : bl q ≠ 0 := fun e => h (bl_eq_zero.1 e)
  rw [show bl q - 1 + 1 = bl q by omega]; exact h1
theorem q_top {q : Nat} (h : q ≠ 0) : q.testBit (bl q - 1) = true := by
  have h2 : bl q ≠ 0 := fun e => h (bl_eq_zero.1 e)
  exact bl_bit (by omega)
theorem rm_lt {p q : Nat} (h : q ≠ 0) : rm p q < 2 ^ (bl q - 1) := by
  have h2 := lt_bl p
  exact dvk_rest_lt (q_lt h) (q_top h) _ _ _ (Nat.lt_of_lt_of_le h2 (Nat.pow_le_pow_right (by decide) (by omega)))
theorem rm_lt_self {p q : Nat} (h : q ≠ 0) : rm p q < q := by
  exact Nat.lt_of_lt_of_le (rm_lt h) (bl_self h)
theorem rm_small {p q : Nat} (h : p < 2 ^ (bl q - 1)) : rm p q = p := by
  have h1 := bl_le.2 h
  unfold rm dv
  rw [show bl p - (bl q - 1) = 0 by omega]; rfl
theorem rm_xor (a b q : Nat) : rm (a ^^^ b) q = rm a q ^^^ rm b q := by
  obtain ⟨n, hn⟩ : ∃ n, bl a ≤ n ∧ bl b ≤ n := ⟨bl a + bl b, by omega⟩
  have ha : a < 2 ^ (n + (bl q - 1)) := bl_le.1 (by omega)
  have hb : b < 2 ^ (n + (bl q - 1)) := bl_le.1 (by omega)
  have hab := Nat.xor_lt_two_pow ha hb
  unfold rm
  rw [← dv_at ha, ← dv_at hb, ← dv_at hab]
  exact dvk_rest_xor _ _ _ _
theorem qu_lt {p q : Nat} : qu p q < 2 ^ (bl p - (bl q - 1)) := dvk_quot_lt _ _ _ _ (Nat.le_refl _) (Nat.two_pow_pos _)
theorem qu_ge {p q n : Nat} (h : bl p - (bl q - 1) = n + 1) : 2 ^ n ≤ qu p q := by
  have hb : p.testBit (n + (bl q - 1)) = true := bl_bit (by omega)
  unfold qu dv
  rw [h, dvk_yes hb]
  exact Nat.le_trans Nat.right_le_or (dvk_quot_ge _ _ _)
theorem qu_bl {p q n : Nat} (h : bl p - (bl q - 1) = n + 1) : bl (qu p q) = n + 1 := by
  apply bl_eq (qu_ge h)
  have := qu_lt (p := p) (q := q)
  rw [h] at this
  exact this
/-- The product, by n bits of q. -/
def cm : Nat → Nat → Nat → Nat
  | 0, _, _ => 0
  | n + 1, p, q => (if q % 2 = 1 then p else 0) ^^^ cm n (p * 2) (q / 2)
theorem cm_odd {n p q : Nat} (h : q % 2 = 1) : cm (n + 1) p q = p ^^^ cm n (p * 2) (q / 2) := by rw [cm, if_pos h]
theorem cm_even {n p q : Nat} (h : q % 2 = 0) : cm (n + 1) p q = cm n (p * 2) (q / 2) := by rw [cm, if_neg (by omega), Nat.zero_xor]
theorem cm_zero (n p : Nat) : cm n p 0 = 0 := by
  induction n generalizing p with
  | zero => rfl
  | succ n ih => rw [cm_even rfl]; exact ih _
theorem cm_more {n q : Nat} (p : Nat) (h : q < 2 ^ n) (m : Nat) (hm : n ≤ m) : cm m p q = cm n p q := by
  induction n generalizing p q m with
  | zero => have : q = 0 := by simpa using h
            subst this; rw [cm_zero, cm_zero]
  | succ n ih =>
    obtain ⟨m', rfl⟩ : ∃ m', m = m' + 1 := ⟨m - 1, by omega⟩
    have h2 : q / 2 < 2 ^ n := by rw [Nat.pow_succ] at h; omega
    rw [cm, cm, ih _ h2 m' (by omega)]
theorem cm_lt {n p q m : Nat} (hp : p < 2 ^ m) : cm n p q < 2 ^ (m + n) := by
  induction n generalizing p q m with
  | zero => exact Nat.two_pow_pos _
  | succ n ih =>
    have h2 : p * 2 < 2 ^ (m + 1) := by rw [Nat.pow_succ]; omega
    have h3 := ih (q := q / 2) h2
    rw [show m + (n + 1) = m + 1 + n by omega]
    rw [cm]
    refine Nat.xor_lt_two_pow ?_ h3
    split
    · exact Nat.lt_of_lt_of_le hp (Nat.pow_le_pow_right (by decide) (by omega))
    · exact Nat.two_pow_pos _
/-- A product of polynomials of degrees below a and b + 1. -/
theorem cm_lt' {p q a b : Nat} (hp : p < 2 ^ a) (hq : q < 2 ^ (b + 1)) (n : Nat) (hn : b + 1 ≤ n) : cm n p q < 2 ^ (a + b) := by
  rw [cm_more p hq n hn]
  clear hn n
  induction b generalizing p q a with
  | zero =>
    rw [cm]
    show _ ^^^ 0 < _
    rw [Nat.xor_zero]
    split
    · exact hp
    · exact Nat.two_pow_pos _
  | succ b ih =>
    have h2 : p * 2 < 2 ^ (a + 1) := by rw [Nat.pow_succ]; omega
    have h4 : q / 2 < 2 ^ (b + 1) := by rw [Nat.pow_succ] at hq; omega
    have h3 := ih h2 h4
    rw [cm, show a + (b + 1) = a + 1 + b by omega]
    refine Nat.xor_lt_two_pow ?_ h3
    split
    · exact Nat.lt_of_lt_of_le hp (Nat.pow_le_pow_right (by decide) (by omega))
    · exact Nat.two_pow_pos _
theorem cm_three (p : Nat) : cm 2 p 3 = p ^^^ p * 2 := by
  rw [cm_odd rfl, cm_odd rfl]; show p ^^^ (p * 2 ^^^ 0) = _; rw [Nat.xor_zero]
/-- The product as a sum over the bits of q below n. -/
def cb (p q : Nat) : Nat → Nat
  | 0 => 0
  | n + 1 => cb p q n ^^^ (if q.testBit n then p * 2 ^ n else 0)
theorem cb_shift (p q n : Nat) : cb p q (n + 1) = (if q % 2 = 1 then p else 0) ^^^ cb (p * 2) (q / 2) n := by
  induction n with
  | zero =>
    show 0 ^^^ (if q.testBit 0 = true then p * 2 ^ 0 else 0) = _ ^^^ 0
    rw [Nat.zero_xor, Nat.xor_zero, Nat.testBit_zero, Nat.pow_zero, Nat.mul_one]
    simp
  | succ n ih =>
    have e : (2 : Nat) ^ (n + 1) = 2 * 2 ^ n := by rw [Nat.pow_succ, Nat.mul_comm]
    show cb p q (n + 1) ^^^ (if q.testBit (n + 1) = true then p * 2 ^ (n + 1) else 0) = _ ^^^ (cb (p * 2) (q / 2) n ^^^ (if (q / 2).testBit n = true then p * 2 * 2 ^ n else 0))
    rw [ih, Nat.xor_assoc, e, ← Nat.mul_assoc, Nat.testBit_succ]
theorem cm_cb (n p q : Nat) : cm n p q = cb p q n := by
  induction n generalizing p q with
  | zero => rfl
  | succ n ih => rw [cb_shift, cm, ih]
end Go.Proofs.YtibikoajejfdeaaDoor
