/-
Polynomials over two elements, told as numbers: common divisors, factors, powers, orders, Fibonacci's. Plain arithmetic; nothing here speaks of the program.
-/
import Derived.Test.YtibikoajejfdeaaDoorPA
namespace Go.Proofs.YtibikoajejfdeaaDoor
/-- The common divisor, by at most n divisions. -/
def gcf : Nat → Nat → Nat → Nat
  | 0, p, _ => p
  | n + 1, p, q => if q = 0 then p else gcf n q (rm p q)
theorem gcf_zero (n p : Nat) : gcf n p 0 = p := by cases n <;> rfl
theorem gcf_step {n p q : Nat} (h : q ≠ 0) : gcf (n + 1) p q = gcf n q (rm p q) := by rw [gcf, if_neg h]
/-- The least factor at q or behind it, or p. -/
def lff (p : Nat) : Nat → Nat → Nat
  | 0, _ => p
  | n + 1, q => if 2 * (bl q - 1) ≤ bl p - 1 then (if rm p q = 0 then q else lff p n (q + 1)) else p
def lf (p : Nat) : Nat := lff p 2097152 2
theorem lff_end {p n q : Nat} (h : ¬ 2 * (bl q - 1) ≤ bl p - 1) : lff p n q = p := by
  cases n
  · rfl
  · rw [lff, if_neg h]
theorem lff_hit {p n q : Nat} (h : 2 * (bl q - 1) ≤ bl p - 1) (h2 : rm p q = 0) : lff p (n + 1) q = q := by rw [lff, if_pos h, if_pos h2]
theorem lff_next {p n q : Nat} (h : 2 * (bl q - 1) ≤ bl p - 1) (h2 : rm p q ≠ 0) : lff p (n + 1) q = lff p n (q + 1) := by rw [lff, if_pos h, if_neg h2]
theorem bl_ge {p n : Nat} (h : 2 ^ n ≤ p) : n + 1 ≤ bl p := by
  rcases Nat.lt_or_ge n (bl p) with h1 | h1
  · exact h1
  · have := lt_bl p
    have h2 : 2 ^ bl p ≤ 2 ^ n := Nat.pow_le_pow_right (by decide) h1
    omega
theorem bl_mono {p q : Nat} (h : p ≤ q) : bl p ≤ bl q := bl_le.2 (Nat.lt_of_le_of_lt h (lt_bl q))
theorem bl_two {q : Nat} (h : 2 ≤ q) : 2 ≤ bl q := bl_ge (n := 1) h
theorem lff_ge {p n q : Nat} (h2 : 2 ≤ p) (hq : 2 ≤ q) : 2 ≤ lff p n q := by
  induction n generalizing q with
  | zero => exact h2
  | succ n ih =>
    rw [lff]
    split
    · split
      · exact hq
      · exact ih (by omega)
    · exact h2
theorem lff_le {p n q : Nat} (hp : p ≠ 0) : bl (lff p n q) ≤ bl p := by
  induction n generalizing q with
  | zero => exact Nat.le_refl _
  | succ n ih =>
    rw [lff]
    split
    · split
      · have : bl p ≠ 0 := fun e => hp (bl_eq_zero.1 e)
        omega
      · exact ih
    · exact Nat.le_refl _
theorem lf_ge {p : Nat} (h : 2 ≤ p) : 2 ≤ lf p := lff_ge h (Nat.le_refl _)
theorem lf_le {p : Nat} (h : 2 ≤ p) : bl (lf p) ≤ bl p := lff_le (by omega)
/-- The quotient by the least factor: smaller, and not 0. -/
theorem lf_qu {p : Nat} (h : 2 ≤ p) : 1 ≤ qu p (lf p) ∧ bl (qu p (lf p)) + 1 ≤ bl p := by
  have h1 := bl_two (lf_ge h)
  have h2 := lf_le h
  obtain ⟨n, hn⟩ : ∃ n, bl p - (bl (lf p) - 1) = n + 1 := ⟨bl p - (bl (lf p) - 1) - 1, by omega⟩
  have h3 := qu_bl hn
  have h4 := qu_ge hn
  have h5 := Nat.two_pow_pos n
  exact ⟨by omega, by omega⟩
/-- The factors, at most n of them. -/
def fcs : Nat → Nat → List Nat
  | 0, _ => []
  | n + 1, p => if p = 1 then [] else lf p :: fcs n (qu p (lf p))
theorem fcs_one (n : Nat) : fcs n 1 = [] := by cases n <;> rfl
theorem fcs_step {n p : Nat} (h : p ≠ 1) : fcs (n + 1) p = lf p :: fcs n (qu p (lf p)) := by rw [fcs, if_neg h]
theorem fcs_len (n p : Nat) : (fcs n p).length ≤ n := by
  induction n generalizing p with
  | zero => exact Nat.le_refl _
  | succ n ih =>
    rw [fcs]
    split
    · exact Nat.zero_le _
    · rw [List.length_cons]; exact Nat.succ_le_succ (ih _)
/-- The power o times b to the k, by m. -/
def pwf (m : Nat) : Nat → Nat → Nat → Nat → Nat
  | 0, o, _, _ => o
  | n + 1, o, b, k => if k = 0 then o else pwf m n (if k % 2 = 1 then rm (cm 20 o b) m else o) (rm (cm 20 b b) m) (k / 2)
theorem pwf_zero (m n o b : Nat) : pwf m n o b 0 = o := by cases n <;> rfl
theorem pwf_odd {m n o b k : Nat} (h : k % 2 = 1) : pwf m (n + 1) o b k = pwf m n (rm (cm 20 o b) m) (rm (cm 20 b b) m) (k / 2) := by rw [pwf, if_neg (by omega), if_pos h]
theorem pwf_even {m n o b k : Nat} (h0 : k ≠ 0) (h : k % 2 = 0) : pwf m (n + 1) o b k = pwf m n o (rm (cm 20 b b) m) (k / 2) := by rw [pwf, if_neg h0, if_neg (by omega)]
/-- Pairs of numbers below m: among more than m * m of them two are the same. -/
theorem pigeon' (m : Nat) : ∀ (n : Nat) (g : Nat → Nat), (∀ k, k < n → g k < m) → m < n → ∃ i j, i < j ∧ j < n ∧ g i = g j := by
  induction m with
  | zero => intro n g h hn; exact absurd (h 0 (by omega)) (by omega)
  | succ m ih =>
    intro n g h hn
    by_cases hx : ∃ i, i < n - 1 ∧ g i = g (n - 1)
    · obtain ⟨i, hi, e⟩ := hx
      exact ⟨i, n - 1, by omega, by omega, e⟩
    · have hne : ∀ i, i < n - 1 → g i ≠ g (n - 1) := fun i hi e => hx ⟨i, hi, e⟩
      obtain ⟨i, j, hij, hj, e⟩ := ih (n - 1) (fun k => if g k = m then g (n - 1) else g k) (fun k hk => by
        have h1 := h k (by omega)
        have h2 := h (n - 1) (by omega)
        have h3 := hne k hk
        show (if g k = m then g (n - 1) else g k) < m
        split
        · omega
        · omega) (by omega)
      refine ⟨i, j, hij, by omega, ?_⟩
      have h1 := hne i (by omega)
      have h2 := hne j hj
      split at e <;> split at e <;> omega
/-- The remainders of the powers of x. -/
def po (p : Nat) : Nat → Nat
  | 0 => 1
  | k + 1 => rm (po p k * 2) p
theorem po_succ (p k : Nat) : po p (k + 1) = rm (po p k * 2) p := rfl
theorem po_lt {p : Nat} (h : 2 ≤ p) (k : Nat) : po p k < 2 ^ (bl p - 1) := by
  cases k with
  | zero =>
    have := bl_two h
    exact Nat.one_lt_two_pow (by omega)
  | succ k => exact rm_lt (by omega)
theorem rm_two {p a : Nat} (ha : a < 2 ^ (bl p - 1)) : rm (a * 2) p = if (a * 2).testBit (bl p - 1) then a * 2 ^^^ p else a * 2 := by
  have h1 : a * 2 < 2 ^ (1 + (bl p - 1)) := by rw [Nat.add_comm, Nat.pow_succ]; omega
  unfold rm
  rw [← dv_at h1, dvk, Nat.zero_add, Nat.pow_zero, Nat.mul_one]
  split <;> rfl
theorem rm_two_zero {p a : Nat} (hodd : p % 2 = 1) (ha : a < 2 ^ (bl p - 1)) (h0 : rm (a * 2) p = 0) : a = 0 := by
  rw [rm_two ha] at h0
  split at h0
  · have := congrArg (fun x => x.testBit 0) h0
    simp [hodd] at this
  · omega
theorem xor_zero_iff {a b : Nat} (h : a ^^^ b = 0) : a = b := by
  have : a ^^^ b ^^^ b = 0 ^^^ b := by rw [h]
  rw [xx', Nat.zero_xor] at this
  exact this
theorem xor_two (a b : Nat) : a * 2 ^^^ b * 2 = (a ^^^ b) * 2 := by
  apply Nat.eq_of_testBit_eq
  intro i
  have e : ∀ x : Nat, (x * 2).testBit i = (decide (i ≥ 1) && x.testBit (i - 1)) := fun x => by
    have h := Nat.testBit_mul_two_pow x i 1
    rw [Nat.pow_one] at h
    exact h
  rw [Nat.testBit_xor, e, e, e (a ^^^ b), Nat.testBit_xor]
  cases decide (i ≥ 1) <;> rfl
theorem po_back {p : Nat} (h : 2 ≤ p) (hodd : p % 2 = 1) {i j : Nat} (e : po p (i + 1) = po p (j + 1)) : po p i = po p j := by
  rw [po_succ, po_succ] at e
  have h1 : rm ((po p i ^^^ po p j) * 2) p = 0 := by rw [← xor_two, rm_xor, e, Nat.xor_self]
  exact xor_zero_iff (rm_two_zero hodd (Nat.xor_lt_two_pow (po_lt h i) (po_lt h j)) h1)
theorem po_shift {p : Nat} (h : 2 ≤ p) (hodd : p % 2 = 1) : ∀ (i j : Nat), po p i = po p (i + j) → po p j = 1
  | 0, j, e => by rw [Nat.zero_add] at e; exact e.symm
  | i + 1, j, e => po_shift h hodd i j (po_back h hodd (by rw [e, show i + 1 + j = i + j + 1 by omega]))
theorem least_ex {P : Nat → Prop} (n : Nat) (h : P n) : ∃ k, k ≤ n ∧ P k ∧ ∀ j, j < k → ¬ P j := by
  induction n using Nat.strongRecOn with
  | ind n ih =>
    by_cases hx : ∃ j, j < n ∧ P j
    · obtain ⟨j, hj, hp⟩ := hx
      obtain ⟨k, hk, h1, h2⟩ := ih j hj hp
      exact ⟨k, by omega, h1, h2⟩
    · exact ⟨n, Nat.le_refl _, h, fun j hj hp => hx ⟨j, hj, hp⟩⟩
/-- K is the order: the first power behind the power 0 that leaves 1. -/
structure Ord (p K : Nat) : Prop where
  pos : 1 ≤ K
  le : K ≤ 2 ^ (bl p - 1)
  one : po p K = 1
  first : ∀ j, 1 ≤ j → j < K → po p j ≠ 1
theorem ord_ex {p : Nat} (h : 2 ≤ p) (hodd : p % 2 = 1) : ∃ K, Ord p K := by
  obtain ⟨i, j, hij, hj, e⟩ := pigeon' (2 ^ (bl p - 1)) (2 ^ (bl p - 1) + 1) (po p) (fun k _ => po_lt h k) (by omega)
  have h1 : po p (j - i) = 1 := po_shift h hodd i (j - i) (by rw [show i + (j - i) = j by omega]; exact e)
  obtain ⟨k, hk, ⟨h2, h3⟩, h4⟩ := least_ex (P := fun k => 1 ≤ k ∧ po p k = 1) (j - i) ⟨by omega, h1⟩
  exact ⟨k, h2, by omega, h3, fun j hj1 hj2 e => h4 j hj2 ⟨hj1, e⟩⟩
/-- Fibonacci's polynomials. -/
def fi : Nat → Nat
  | 0 => 0
  | 1 => 1
  | n + 2 => fi (n + 1) * 2 ^^^ fi n
theorem fi_two (n : Nat) : fi (n + 2) = fi (n + 1) * 2 ^^^ fi n := rfl
theorem fi_lt : ∀ n, fi n < 2 ^ n
  | 0 => Nat.one_pos
  | 1 => by decide
  | n + 2 => by
    have h1 := fi_lt (n + 1)
    have h2 := fi_lt n
    rw [fi_two]
    refine Nat.xor_lt_two_pow ?_ (Nat.lt_of_lt_of_le h2 (Nat.pow_le_pow_right (by decide) (by omega)))
    rw [Nat.pow_succ 2 (n + 1)]; omega
/-- What is left of them by p. -/
def fr (p : Nat) : Nat → Nat
  | 0 => 0
  | 1 => 1
  | n + 2 => rm (fr p (n + 1) * 2 ^^^ fr p n) p
theorem fr_two (p n : Nat) : fr p (n + 2) = rm (fr p (n + 1) * 2 ^^^ fr p n) p := rfl
theorem fr_lt {p : Nat} (h : 2 ≤ p) : ∀ n, fr p n < 2 ^ (bl p - 1)
  | 0 => Nat.two_pow_pos _
  | 1 => Nat.one_lt_two_pow (by have := bl_two h; omega)
  | n + 2 => rm_lt (by omega)
theorem fr_spec {p : Nat} (h : 2 ≤ p) (n : Nat) : fr p (n + 2) = rm (fr p (n + 1) * 2) p ^^^ fr p n := by
  rw [fr_two, rm_xor, rm_small (fr_lt h n)]
/-- The polynomial with x + 1 for x, by the powers below k. -/
def hs (p : Nat) : Nat → Nat → Nat
  | 0, o => o
  | k + 1, o => hs p k (o ^^^ o * 2 ^^^ (if p.testBit k then 1 else 0))
end Go.Proofs.YtibikoajejfdeaaDoor
