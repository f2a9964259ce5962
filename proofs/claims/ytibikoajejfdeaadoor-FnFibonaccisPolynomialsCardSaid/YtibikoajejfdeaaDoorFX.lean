/-
Fibonacci's polynomials, number by number: common divisors, squares; and what they leave by a polynomial. Nothing here speaks of the program.
-/
import Derived.Test.YtibikoajejfdeaaDoorPB
import Derived.Test.YtibikoajejfdeaaDoorPC
namespace Go.Proofs.YtibikoajejfdeaaDoor
/-- What is a sum of shifted g's. -/
inductive Mul (g : Nat) : Nat → Prop
  | zero : Mul g 0
  | add (k : Nat) {a : Nat} : Mul g a → Mul g (a ^^^ g * 2 ^ k)
theorem Mul.xor {g a b : Nat} (ha : Mul g a) (hb : Mul g b) : Mul g (a ^^^ b) := by
  induction hb with
  | zero => rwa [Nat.xor_zero]
  | add k _ ih => rw [← Nat.xor_assoc]; exact ih.add k
theorem Mul.self (g : Nat) : Mul g g := by
  have := (Mul.zero (g := g)).add 0
  rwa [Nat.pow_zero, Nat.mul_one, Nat.zero_xor] at this
theorem Mul.dbl {g a : Nat} (h : Mul g a) : Mul g (a * 2) := by
  induction h with
  | zero => exact .zero
  | add k _ ih =>
    rw [← xor_two, Nat.mul_assoc, ← Nat.pow_succ]
    exact ih.add (k + 1)
theorem Mul.shl {g a : Nat} (h : Mul g a) : ∀ k, Mul g (a * 2 ^ k)
  | 0 => by rwa [Nat.pow_zero, Nat.mul_one]
  | k + 1 => by rw [Nat.pow_succ, ← Nat.mul_assoc]; exact (h.shl k).dbl
theorem Mul.trans {g q a : Nat} (h : Mul g q) (ha : Mul q a) : Mul g a := by
  induction ha with
  | zero => exact .zero
  | add k _ ih => exact ih.xor (h.shl k)
theorem dvk_mul (q d : Nat) : ∀ (K o p : Nat), Mul q (p ^^^ (dvk q d K o p).2)
  | 0, o, p => by show Mul q (p ^^^ p); rw [Nat.xor_self]; exact .zero
  | K + 1, o, p => by
    cases hb : p.testBit (K + d)
    · rw [dvk_no hb]; exact dvk_mul q d K o p
    · rw [dvk_yes hb]
      have := (dvk_mul q d K (o ||| 2 ^ K) (p ^^^ q * 2 ^ K)).add K
      rwa [Nat.xor_assoc, Nat.xor_comm (dvk q d K _ _).2, ← Nat.xor_assoc, xx'] at this
theorem rm_mul (p q : Nat) : Mul q (p ^^^ rm p q) := dvk_mul _ _ _ _ _
theorem dvk_nil (q d : Nat) : ∀ K o, (dvk q d K o 0).2 = 0
  | 0, _ => rfl
  | K + 1, o => by rw [dvk_no (Nat.zero_testBit _)]; exact dvk_nil q d K o
theorem rm_shl {g : Nat} (hg : g ≠ 0) (k : Nat) : rm (g * 2 ^ k) g = 0 := by
  have h := sh_lt' (k := k) (q_lt hg)
  unfold rm
  rw [← dv_at (n := k + 1) (by rw [show k + 1 + (bl g - 1) = k + (bl g - 1) + 1 by omega]; exact h), dvk_yes (sh_bit (q_top hg)), Nat.xor_self]
  exact dvk_nil _ _ _ _
theorem Mul.rm {g a : Nat} (hg : g ≠ 0) (h : Mul g a) : Go.Proofs.YtibikoajejfdeaaDoor.rm a g = 0 := by
  induction h with
  | zero => exact dvk_nil _ _ _ _
  | add k _ ih => rw [rm_xor, ih, rm_shl hg, Nat.xor_zero]
theorem Mul.of_rm {g a : Nat} (h : Go.Proofs.YtibikoajejfdeaaDoor.rm a g = 0) : Mul g a := by
  have := rm_mul a g
  rwa [h, Nat.xor_zero] at this
theorem rm_dbl {p : Nat} (h : p ≠ 0) (a : Nat) : rm (a * 2) p = rm (rm a p * 2) p := by
  have h1 := (rm_mul a p).dbl
  rw [← xor_two] at h1
  have h2 := h1.rm h
  rw [rm_xor] at h2
  exact xor_zero_iff h2
theorem fr_fi {p : Nat} (h : 2 ≤ p) : ∀ n, fr p n = rm (fi n) p
  | 0 => by rw [show fi 0 = 0 from rfl]; exact (rm_small (Nat.two_pow_pos _)).symm
  | 1 => by rw [show fi 1 = 1 from rfl, rm_small (Nat.one_lt_two_pow (by have := bl_two h; omega))]; rfl
  | n + 2 => by rw [fr_spec h, fi_two, rm_xor, rm_dbl (by omega) (fi (n + 1)), ← fr_fi h (n + 1), ← fr_fi h n]
/-- The greatest common divisor of two numbers, as the law takes it. -/
def gn2 : Nat → Nat → Nat → Nat
  | 0, a, _ => a
  | k + 1, a, b => if b = 0 then a else gn2 k b (a % b)
theorem gn2_zero (k a : Nat) : gn2 k a 0 = a := by cases k <;> rfl
theorem gn2_step {k a b : Nat} (h : b ≠ 0) : gn2 (k + 1) a b = gn2 k b (a % b) := by rw [gn2, if_neg h]
theorem gn2_le : ∀ (k a b : Nat), a ≤ 41 → b ≤ 41 → gn2 k a b ≤ 41
  | 0, _, _, h, _ => h
  | k + 1, a, b, h, h2 => by
    by_cases e : b = 0
    · subst e; rw [gn2_zero]; exact h
    · rw [gn2_step e]; exact gn2_le k b (a % b) h2 (by have := Nat.mod_lt a (Nat.pos_of_ne_zero e); omega)
/-- The first polynomials. -/
def lits : List Nat := [0, 1, 2, 5, 8, 21, 34, 81, 128, 337, 546, 1301, 2056, 5381, 8706, 20737, 32768, 86273, 139778, 333061, 526344, 1377557, 2228770, 5308753, 8388736, 22085713, 35782690, 85262357, 134742024, 352649221, 570556418, 1359020033, 2147483648, 5653987329, 9160491010, 21827485701, 34494480392, 90279575573, 146064670754, 347914436689, 549764202624, 1447409287505]
def lf42 (n : Nat) : Nat := lits.getD n 0
def litC : Nat → Nat → List Nat → Bool
  | _, _, [] => true
  | a, b, x :: xs => (x == a) && litC b (b * 2 ^^^ a) xs
theorem litC_all : ∀ (xs : List Nat) (n : Nat), litC (fi n) (fi (n + 1)) xs = true → ∀ j, j < xs.length → xs.getD j 0 = fi (n + j)
  | [], _, _, j, hj => absurd hj (by simp)
  | x :: xs, n, h, j, hj => by
    rw [litC, Bool.and_eq_true, beq_iff_eq] at h
    cases j with
    | zero => exact h.1
    | succ j =>
      have := litC_all xs (n + 1) h.2 j (by simpa using hj)
      rw [show n + (j + 1) = n + 1 + j by omega, ← this]
      rfl
theorem lits_ok : litC 0 1 lits = true := by kernel_rfl
theorem lf_fi {n : Nat} (h : n ≤ 41) : lf42 n = fi n := by
  have := litC_all lits 0 lits_ok n (by show n < 42; omega)
  rwa [Nat.zero_add] at this
theorem lits_bl : ((List.range 42).all fun n => bl (lf42 n) == n) = true := by kernel_rfl
theorem fi_bl {n : Nat} (h : n ≤ 41) : bl (fi n) = n := by
  have := List.all_eq_true.1 lits_bl n (List.mem_range.2 (by omega))
  rw [beq_iff_eq, lf_fi h] at this
  exact this
theorem lits_gcd : ((List.range 42).all fun i => (List.range 42).all fun j => gcf (lf42 j) (lf42 i) (lf42 j) == lf42 (gn2 j i j)) = true := by kernel_rfl
theorem fi_gcd {i j : Nat} (hi : i ≤ 41) (hj : j ≤ 41) : gcf (fi j) (fi i) (fi j) = fi (gn2 j i j) := by
  have h := List.all_eq_true.1 lits_gcd i (List.mem_range.2 (by omega))
  have := List.all_eq_true.1 h j (List.mem_range.2 (by omega))
  rw [beq_iff_eq, lf_fi hi, lf_fi hj, lf_fi (gn2_le _ _ _ hi hj)] at this
  exact this
theorem lits_sq : ((List.range 20).all fun k => (cm 2 (cm (k + 1) (lf42 (k + 1)) (lf42 (k + 1))) 2 == lf42 (2 * (k + 1))) && (bl (cm (k + 1) (lf42 (k + 1)) (lf42 (k + 1))) == 2 * k + 1)) = true := by kernel_rfl
theorem fi_sq {n : Nat} (h1 : 1 ≤ n) (h : n ≤ 20) : cm 2 (cm n (fi n) (fi n)) 2 = fi (2 * n) ∧ bl (cm n (fi n) (fi n)) = 2 * n - 1 := by
  obtain ⟨k, rfl⟩ : ∃ k, n = k + 1 := ⟨n - 1, by omega⟩
  have := List.all_eq_true.1 lits_sq k (List.mem_range.2 (by omega))
  rw [Bool.and_eq_true, beq_iff_eq, beq_iff_eq, lf_fi (by omega), lf_fi (by omega)] at this
  exact ⟨this.1, by rw [this.2]; omega⟩
theorem fi_41 {n : Nat} (h : n ≤ 41) : fi n < 2199023255552 := Nat.lt_of_lt_of_le (fi_lt n) (Nat.pow_le_pow_right (n := 2) (j := 41) (by decide) h)
end Go.Proofs.YtibikoajejfdeaaDoor
