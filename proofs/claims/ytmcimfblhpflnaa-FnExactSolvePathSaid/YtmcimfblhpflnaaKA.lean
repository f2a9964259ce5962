/-
Rows of a chase, told as numbers: plain arithmetic; nothing here speaks of the program.
-/
import Derived.Test.YtmcimfblhpflnaaLA
namespace Go.Proofs.Ytmcimfblhpflnaa
/-- What the presses x in a row of c columns toggle there. -/
def rt (c : Nat) (own : Bool) (x : Nat) : Nat := (2 * x ^^^ x / 2) % 2 ^ c ^^^ (if own then x else 0)
/-- The lights of the row r. -/
def lr (c l r : Nat) : Nat := l / 2 ^ (c * r) % 2 ^ c
/-- The rows k - 1 and k behind a first row. -/
def pat (c : Nat) (own : Bool) (l f : Nat) : Nat → Nat × Nat
  | 0 => (0, f)
  | k + 1 => ((pat c own l f k).2, lr c l k ^^^ (pat c own l f k).1 ^^^ rt c own (pat c own l f k).2)
/-- The row k. -/
def prw (c : Nat) (own : Bool) (l f k : Nat) : Nat := (pat c own l f k).2
/-- The row k - 1. -/
def prb (c : Nat) (own : Bool) (l f k : Nat) : Nat := (pat c own l f k).1
/-- The presses of the rows below r. -/
def prs (c : Nat) (own : Bool) (l f : Nat) : Nat → Nat
  | 0 => 0
  | r + 1 => prs c own l f r ||| prw c own l f r * 2 ^ (c * r)
section
variable {c l f : Nat} {own : Bool}
theorem prw_zero : prw c own l f 0 = f := rfl
theorem prb_zero : prb c own l f 0 = 0 := rfl
theorem prb_succ (k : Nat) : prb c own l f (k + 1) = prw c own l f k := rfl
theorem prw_succ (k : Nat) : prw c own l f (k + 1) = lr c l k ^^^ prb c own l f k ^^^ rt c own (prw c own l f k) := rfl
theorem rt_lt {x : Nat} (h : x < 2 ^ c) : rt c own x < 2 ^ c := by
  unfold rt
  refine Nat.xor_lt_two_pow (Nat.mod_lt _ (Nat.two_pow_pos c)) ?_
  split
  · exact h
  · exact Nat.two_pow_pos c
theorem lr_lt (r : Nat) : lr c l r < 2 ^ c := Nat.mod_lt _ (Nat.two_pow_pos c)
theorem pat_lt (hf : f < 2 ^ c) (k : Nat) : (pat c own l f k).1 < 2 ^ c ∧ (pat c own l f k).2 < 2 ^ c := by
  induction k with
  | zero => exact ⟨Nat.two_pow_pos c, hf⟩
  | succ k ih => exact ⟨ih.2, Nat.xor_lt_two_pow (Nat.xor_lt_two_pow (lr_lt k) ih.1) (rt_lt ih.2)⟩
theorem prw_lt (hf : f < 2 ^ c) (k : Nat) : prw c own l f k < 2 ^ c := (pat_lt hf k).2
theorem prb_lt (hf : f < 2 ^ c) (k : Nat) : prb c own l f k < 2 ^ c := (pat_lt hf k).1
theorem prs_lt (hf : f < 2 ^ c) (r : Nat) : prs c own l f r < 2 ^ (c * r) := by
  induction r with
  | zero => simp [prs]
  | succ r ih =>
    have e : 2 ^ (c * (r + 1)) = 2 ^ c * 2 ^ (c * r) := by rw [Nat.mul_succ, Nat.pow_add, Nat.mul_comm]
    refine Nat.or_lt_two_pow (Nat.lt_of_lt_of_le ih (Nat.pow_le_pow_right (by decide) (Nat.mul_le_mul_left c (Nat.le_succ r)))) ?_
    rw [e]
    exact Nat.mul_lt_mul_of_lt_of_le (prw_lt hf r) (Nat.le_refl _) (Nat.two_pow_pos _)
/-- What a row toggles, masked at the end. -/
theorem rt_mask {x : Nat} (h : x < 2 ^ c) : ((2 * x ^^^ x / 2) ^^^ (if own then x else 0)) % 2 ^ c = rt c own x := by
  unfold rt
  rw [Nat.xor_mod_two_pow]
  congr 1
  split
  · exact Nat.mod_eq_of_lt h
  · exact Nat.zero_mod _
/-- Without lights. -/
theorem lr_zero (r : Nat) : lr c 0 r = 0 := by simp [lr]
theorem prw_succ0 (k : Nat) : prw c own 0 f (k + 1) = prb c own 0 f k ^^^ rt c own (prw c own 0 f k) := by rw [prw_succ, lr_zero, Nat.zero_xor]
theorem div_two_xor (x y : Nat) : (x ^^^ y) / 2 = x / 2 ^^^ y / 2 := by
  apply Nat.eq_of_testBit_eq; intro i; simp only [Nat.testBit_div_two, Nat.testBit_xor]
theorem mul_two_xor (x y : Nat) : 2 * (x ^^^ y) = 2 * x ^^^ 2 * y := by
  have h : ∀ a : Nat, 2 * a = a <<< 1 := fun a => by rw [Nat.shiftLeft_eq]; omega
  rw [h, h, h, Nat.shiftLeft_xor_distrib]
theorem rt_xor (x y : Nat) : rt c own (x ^^^ y) = rt c own x ^^^ rt c own y := by
  unfold rt
  rw [mul_two_xor, div_two_xor]
  have e : (2 * x ^^^ 2 * y) ^^^ (x / 2 ^^^ y / 2) = (2 * x ^^^ x / 2) ^^^ (2 * y ^^^ y / 2) := by
    simp only [Nat.xor_assoc]; rw [xlc (2 * y)]
  rw [e, Nat.xor_mod_two_pow]
  cases own
  · simp
  · simp only [if_true, Nat.xor_assoc]; rw [xlc _ x y]
theorem rt_zero : rt c own 0 = 0 := by simp [rt]
theorem pat_xor (f g k : Nat) : prb c own 0 (f ^^^ g) k = prb c own 0 f k ^^^ prb c own 0 g k ∧ prw c own 0 (f ^^^ g) k = prw c own 0 f k ^^^ prw c own 0 g k := by
  induction k with
  | zero => exact ⟨(Nat.xor_zero 0).symm, rfl⟩
  | succ k ih =>
    refine ⟨ih.2, ?_⟩
    rw [prw_succ0, prw_succ0, prw_succ0, ih.1, ih.2, rt_xor]
    simp only [Nat.xor_assoc]; rw [xlc (prb c own 0 g k)]
theorem prw_xor (f g k : Nat) : prw c own 0 (f ^^^ g) k = prw c own 0 f k ^^^ prw c own 0 g k := (pat_xor f g k).2
theorem pat_zero (k : Nat) : prb c own 0 0 k = 0 ∧ prw c own 0 0 k = 0 := by
  induction k with
  | zero => exact ⟨rfl, rfl⟩
  | succ k ih => exact ⟨ih.2, by rw [prw_succ0, ih.1, ih.2, rt_zero]; rfl⟩
/-- Lights of the last row alone are left as they are. -/
theorem pat_last {c last f : Nat} {own : Bool} (R : Nat) : ∀ k, k ≤ R → prb c own (last * 2 ^ (c * R)) f k = prb c own 0 f k ∧ prw c own (last * 2 ^ (c * R)) f k = prw c own 0 f k := by
  intro k
  induction k with
  | zero => intro _; exact ⟨rfl, rfl⟩
  | succ k ih =>
    intro hk
    obtain ⟨h1, h2⟩ := ih (by omega)
    refine ⟨h2, ?_⟩
    have e : lr c (last * 2 ^ (c * R)) k = 0 := by
      unfold lr
      have e1 : c * R = c * k + c * (R - k) := by rw [← Nat.mul_add]; congr 1; omega
      have e2 : c * (R - k) = c + c * (R - k - 1) := by
        obtain ⟨d, hd⟩ : ∃ d, R - k = d + 1 := ⟨R - k - 1, by omega⟩
        rw [hd, Nat.add_sub_cancel, Nat.mul_succ, Nat.add_comm]
      rw [e1, Nat.pow_add, Nat.mul_comm (2 ^ (c * k)), ← Nat.mul_assoc, Nat.mul_div_cancel _ (Nat.two_pow_pos _), e2, Nat.pow_add, Nat.mul_comm (2 ^ c), ← Nat.mul_assoc, Nat.mul_mod_left]
    rw [prw_succ, prw_succ, h1, h2, e, lr_zero]
theorem prw_last {c last f : Nat} {own : Bool} (hl : last < 2 ^ c) (R : Nat) : prw c own (last * 2 ^ (c * R)) f (R + 1) = last ^^^ prw c own 0 f (R + 1) := by
  obtain ⟨h1, h2⟩ := pat_last (c := c) (last := last) (own := own) (f := f) R R (Nat.le_refl R)
  have e : lr c (last * 2 ^ (c * R)) R = last := by
    unfold lr; rw [Nat.mul_div_cancel _ (Nat.two_pow_pos _), Nat.mod_eq_of_lt hl]
  rw [prw_succ, prw_succ, h1, h2, e, lr_zero, Nat.zero_xor, Nat.xor_assoc]
/-- A row and the one behind it tell the one before them. -/
theorem pat_back {f : Nat} {i j : Nat} (h : pat c own 0 f (i + 1) = pat c own 0 f (j + 1)) : pat c own 0 f i = pat c own 0 f j := by
  have h1 : prw c own 0 f i = prw c own 0 f j := congrArg Prod.fst h
  have h2 : prw c own 0 f (i + 1) = prw c own 0 f (j + 1) := congrArg Prod.snd h
  rw [prw_succ0, prw_succ0, h1] at h2
  have h3 : prb c own 0 f i = prb c own 0 f j := by
    have := congrArg (· ^^^ rt c own (prw c own 0 f j)) h2
    simp only [xx] at this
    exact this
  exact Prod.ext h3 h1
theorem pat_shift {f : Nat} : ∀ (i j : Nat), pat c own 0 f i = pat c own 0 f (i + j) → pat c own 0 f j = (0, f)
  | 0, j, h => by rw [Nat.zero_add] at h; exact h.symm
  | i + 1, j, h => pat_shift i j (pat_back (by rw [h, show i + 1 + j = i + j + 1 by omega]))
/-- Pairs of numbers below m: among more than m * m of them two are the same. -/
theorem pigeon (m : Nat) : ∀ (n : Nat) (g : Nat → Nat), (∀ k, k < n → g k < m) → m < n → ∃ i j, i < j ∧ j < n ∧ g i = g j := by
  induction m with
  | zero => intro n g h hn; exact absurd (h 0 (by omega)) (by omega)
  | succ m ih =>
    intro n g h hn
    by_cases hx : ∃ i, i < n - 1 ∧ g i = g (n - 1)
    · obtain ⟨i, hi, e⟩ := hx
      exact ⟨i, n - 1, by omega, by omega, e⟩
    · -- the greatest value m is exchanged for the last one's
      have hne : ∀ i, i < n - 1 → g i ≠ g (n - 1) := fun i hi e => hx ⟨i, hi, e⟩
      obtain ⟨i, j, hij, hj, e⟩ := ih (n - 1) (fun k => if g k = m then g (n - 1) else g k) (fun k hk => by
        have h1 := h k (by omega)
        have h2 := h (n - 1) (by omega)
        have h3 := hne k hk
        show (if g k = m then g (n - 1) else g k) < m
        split
        · omega
        · omega) (by omega)
      refine ⟨i, j, hij, by omega, ?_⟩
      have h1 := hne i (by omega)
      have h2 := hne j hj
      split at e <;> split at e <;> omega
theorem pat_returns {f : Nat} (hf : f < 2 ^ c) : ∃ k, 1 ≤ k ∧ k ≤ 2 ^ (2 * c) ∧ pat c own 0 f k = (0, f) := by
  have hp : 2 ^ (2 * c) = 2 ^ c * 2 ^ c := by rw [← Nat.pow_add]; congr 1; omega
  obtain ⟨i, j, hij, hj, e⟩ := pigeon (2 ^ (2 * c)) (2 ^ (2 * c) + 1) (fun k => prb c own 0 f k * 2 ^ c + prw c own 0 f k) (fun k _ => by
    have h1 := prb_lt (own := own) (l := 0) hf k
    have h2 := prw_lt (own := own) (l := 0) hf k
    rw [hp]
    have : (prb c own 0 f k + 1) * 2 ^ c ≤ 2 ^ c * 2 ^ c := Nat.mul_le_mul_right _ h1
    rw [Nat.add_mul] at this
    omega) (by omega)
  have h1 := prw_lt (own := own) (l := 0) hf i
  have h2 := prw_lt (own := own) (l := 0) hf j
  have ew : prw c own 0 f i = prw c own 0 f j := by
    have := congrArg (· % 2 ^ c) e
    simp only [Nat.mul_comm _ (2 ^ c), Nat.mul_add_mod, Nat.mod_eq_of_lt h1, Nat.mod_eq_of_lt h2] at this
    exact this
  have eb : prb c own 0 f i = prb c own 0 f j := by
    rw [ew] at e
    exact Nat.eq_of_mul_eq_mul_right (Nat.two_pow_pos c) (Nat.add_right_cancel e)
  refine ⟨j - i, by omega, by omega, pat_shift i (j - i) ?_⟩
  rw [show i + (j - i) = j by omega]
  exact Prod.ext eb ew
end
end Go.Proofs.Ytmcimfblhpflnaa
