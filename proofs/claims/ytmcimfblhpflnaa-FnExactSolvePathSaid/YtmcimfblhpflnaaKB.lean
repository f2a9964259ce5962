/-
How many numbers a map of sums takes to 0, by the basis of its images: plain arithmetic; nothing here speaks of the program.
-/
import Derived.Test.YtmcimfblhpflnaaKA
namespace Go.Proofs.Ytmcimfblhpflnaa
/-- The basis of the images of the first k powers of 2. -/
def gB (g : Nat → Nat) : Nat → List Nat
  | 0 => []
  | k + 1 => add (gB g k) (g (2 ^ k))
/-- How many numbers below 2 ^ k are taken to x. -/
def gC (g : Nat → Nat) (k x : Nat) : Nat := (List.range (2 ^ k)).countP (fun f => decide (g f = x))
theorem add_pow {f k : Nat} (h : f < 2 ^ k) : 2 ^ k + f = f ^^^ 2 ^ k := by
  apply Nat.eq_of_testBit_eq
  intro i
  rw [Nat.testBit_xor, Nat.testBit_two_pow]
  rcases Nat.lt_trichotomy i k with hi | hi | hi
  · rw [Nat.testBit_two_pow_add_gt hi, decide_eq_false (by omega : ¬ k = i), Bool.xor_false]
  · subst hi
    rw [Nat.testBit_two_pow_add_eq]
    simp [Nat.testBit_lt_two_pow h]
  · have h1 : (2 ^ k + f).testBit i = false := Nat.testBit_lt_two_pow (Nat.lt_of_lt_of_le (by omega : 2 ^ k + f < 2 ^ (k + 1)) (Nat.pow_le_pow_right (by decide) hi))
    have h2 : f.testBit i = false := Nat.testBit_lt_two_pow (Nat.lt_of_lt_of_le h (Nat.pow_le_pow_right (by decide) (by omega)))
    rw [h1, h2]; simp; omega
theorem gC_succ {g : Nat → Nat} (hg : ∀ x y, g (x ^^^ y) = g x ^^^ g y) (k x : Nat) : gC g (k + 1) x = gC g k x + gC g k (x ^^^ g (2 ^ k)) := by
  unfold gC
  have e : (2 : Nat) ^ (k + 1) = 2 ^ k + 2 ^ k := by rw [Nat.pow_succ]; omega
  rw [e, List.range_add, List.countP_append, List.countP_map]
  congr 1
  apply List.countP_congr
  intro f hf
  have hf' := List.mem_range.1 hf
  simp only [Function.comp, decide_eq_true_eq]
  rw [add_pow hf', hg]
  constructor
  · intro h; rw [← h, xx]
  · intro h; rw [h, xx]
theorem filter_split {α : Type} (p q : α → Bool) (L : List α) (h : ∀ b ∈ L, p b = !q b) : (L.filter p).length + (L.filter q).length = L.length := by
  induction L with
  | nil => rfl
  | cons a L ih =>
    have h1 := ih (fun b hb => h b (by simp [hb]))
    have h2 := h a (by simp)
    cases hq : q a <;> simp [hq, h2] <;> omega
theorem put_length {B : List Nat} {r : Nat} (hr : r ≠ 0) (hc : Cl B r) : (put B r).length = B.length + 1 := by
  have h := filter_split (fun b : Nat => decide (b.log2 < r.log2)) (fun b : Nat => decide (r.log2 < b.log2)) B (fun b hb => by
    have := hc.ne hr hb
    by_cases h1 : b.log2 < r.log2
    · simp [h1]; omega
    · have h2 : r.log2 < b.log2 := by omega
      simp [h1, h2])
  unfold put
  simp only [List.length_append, List.length_cons, List.length_map]
  omega
theorem gB_bas (g : Nat → Nat) (k : Nat) : Bas (gB g k) := by
  induction k with
  | zero => exact Bas.nil
  | succ k ih => exact add_bas ih _
theorem gB_le (g : Nat → Nat) (k : Nat) : (gB g k).length ≤ k := by
  induction k with
  | zero => exact Nat.le_refl _
  | succ k ih =>
    simp only [gB, add]
    split
    · omega
    · rename_i h
      rw [put_length h (lin_clean (gB_bas g k) _)]; omega
theorem gB_lt {g : Nat → Nat} {n : Nat} (hg : ∀ i, g (2 ^ i) < 2 ^ n) (k : Nat) : ∀ b ∈ gB g k, b < 2 ^ n := by
  induction k with
  | zero => intro b hb; cases hb
  | succ k ih => exact add_lt ih (hg k)
theorem gC_zero {g : Nat → Nat} (h0 : g 0 = 0) (x : Nat) : gC g 0 x = if x = 0 then 1 else 0 := by
  unfold gC
  have e : List.range (2 ^ 0) = [0] := rfl
  rw [e]
  by_cases hx : x = 0
  · subst hx; simp [h0]
  · have : ¬ (g 0 = x) := by rw [h0]; omega
    simp [this, hx]
theorem xor_eq_zero {a b : Nat} : a ^^^ b = 0 ↔ a = b := by
  constructor
  · intro h; have := congrArg (· ^^^ b) h; simp only [xx, Nat.zero_xor] at this; exact this
  · intro h; rw [h, Nat.xor_self]
theorem gC_count {g : Nat → Nat} (hg : ∀ x y, g (x ^^^ y) = g x ^^^ g y) (k : Nat) : ∀ x, gC g k x = if lin (gB g k) x = 0 then 2 ^ (k - (gB g k).length) else 0 := by
  have h0 : g 0 = 0 := by have := hg 0 0; rw [Nat.xor_self, Nat.xor_self] at this; exact this
  induction k with
  | zero => intro x; rw [gC_zero h0]; simp [gB, lin, cor]
  | succ k ih =>
    intro x
    have hB := gB_bas g k
    have hle := gB_le g k
    rw [gC_succ hg, ih, ih, lin_xor]
    by_cases hz : lin (gB g k) (g (2 ^ k)) = 0
    · have e : gB g (k + 1) = gB g k := by simp only [gB, add]; rw [if_pos hz]
      rw [e, hz, Nat.xor_zero]
      split
      · rw [show k + 1 - (gB g k).length = (k - (gB g k).length) + 1 by omega, Nat.pow_succ]; omega
      · rfl
    · have hc := lin_clean hB (g (2 ^ k))
      have e : gB g (k + 1) = put (gB g k) (lin (gB g k) (g (2 ^ k))) := by simp only [gB, add]; rw [if_neg hz]
      rw [e, put_lin hB hz hc, put_length hz hc, show k + 1 - ((gB g k).length + 1) = k - (gB g k).length by omega]
      obtain ⟨r, hr⟩ : ∃ r, lin (gB g k) (g (2 ^ k)) = r := ⟨_, rfl⟩
      rw [hr] at hz ⊢
      by_cases h1 : lin (gB g k) x = 0
      · have h2 : ¬ (lin (gB g k) x ^^^ r = 0) := by rw [h1, Nat.zero_xor]; exact hz
        have h3 : stp (lin (gB g k) x) r = 0 := by rw [h1]; simp [stp]
        rw [if_pos h1, if_neg h2, if_pos h3]; rfl
      · by_cases h2 : lin (gB g k) x ^^^ r = 0
        · have h3 : stp (lin (gB g k) x) r = 0 := by rw [xor_eq_zero.1 h2]; simp [stp, bit_top hz]
          rw [if_neg h1, if_pos h2, if_pos h3]; omega
        · have h3 : ¬ stp (lin (gB g k) x) r = 0 := by
            rw [stp]; split
            · exact h2
            · exact h1
          rw [if_neg h1, if_neg h2, if_neg h3]
theorem gC_kernel {g : Nat → Nat} (hg : ∀ x y, g (x ^^^ y) = g x ^^^ g y) (k : Nat) : gC g k 0 = 2 ^ (k - (gB g k).length) := by
  rw [gC_count hg, if_pos (lin_zero _)]
end Go.Proofs.Ytmcimfblhpflnaa
