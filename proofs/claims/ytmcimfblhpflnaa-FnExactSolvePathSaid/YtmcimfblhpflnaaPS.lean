/-
A path is a grid of one column: what presses leave on it, bit by bit. Nothing here speaks of the program.
-/
import Derived.Test.YtmcimfblhpflnaaKA
import Derived.Test.YtmcimfblhpflnaaM
import Derived.Test.YtmcimfblhpflnaaEff
namespace Go.Proofs.Ytmcimfblhpflnaa
def pathF : Nat → Nat → Nat
  | 0 => fun _ => 0
  | m + 1 => lk m (m + 1) (pathF m)
def tog (F : Nat → Nat) (own : Bool) (i : Nat) : Nat := if own then F i ||| 2 ^ i else F i
theorem tp_bit (x y : Nat) : (2 ^ x).testBit y = true ↔ x = y := by rw [Nat.testBit_two_pow]; simp
theorem lk_path (m k j : Nat) (F : Nat → Nat) : (lk m (m + 1) F k).testBit j = true ↔ (F k).testBit j = true ∨ (k = m ∧ j = m + 1) ∨ (k = m + 1 ∧ j = m) := by
  unfold lk
  by_cases h1 : k = m + 1
  · rw [if_pos h1, if_neg (by omega), Nat.testBit_or, Bool.or_eq_true, tp_bit]
    constructor
    · rintro (h | h)
      · exact .inl h
      · right; omega
    · rintro (h | h)
      · exact .inl h
      · right; omega
  · by_cases h2 : k = m
    · rw [if_neg h1, if_pos h2, Nat.testBit_or, Bool.or_eq_true, tp_bit]
      constructor
      · rintro (h | h)
        · exact .inl h
        · right; omega
      · rintro (h | h)
        · exact .inl h
        · right; omega
    · rw [if_neg h1, if_neg h2]
      constructor
      · intro h; exact .inl h
      · rintro (h | h)
        · exact h
        · omega
theorem path_bit (k j : Nat) : ∀ m, (pathF m k).testBit j = true ↔ (j = k + 1 ∧ j ≤ m) ∨ (k = j + 1 ∧ k ≤ m)
  | 0 => by simp [pathF]; omega
  | m + 1 => by
    rw [pathF, lk_path, path_bit k j m]
    omega
theorem tog_bit (m : Nat) (own : Bool) (k j : Nat) : (tog (pathF m) own k).testBit j = true ↔ (own = true ∧ j = k) ∨ (j = k + 1 ∧ j ≤ m) ∨ (k = j + 1 ∧ k ≤ m) := by
  unfold tog
  cases own
  · simp only [Bool.false_eq_true, if_false, false_and, false_or]
    exact path_bit k j m
  · rw [if_pos rfl, Nat.testBit_or, Bool.or_eq_true, tp_bit, path_bit]
    constructor
    · rintro (h | h)
      · exact .inr h
      · exact .inl ⟨rfl, h.symm⟩
    · rintro (⟨_, h⟩ | h)
      · exact .inr h.symm
      · exact .inl h
/-- What the presses below K do to the light j. -/
theorem eff_bit (own : Bool) (p n j : Nat) (hj : j < n) : ∀ K, K ≤ n → (effN (tog (pathF (n - 1)) own) p K).testBit j = ((decide (j < K) && (own && p.testBit j)) ^^ ((decide (1 ≤ j ∧ j - 1 < K) && p.testBit (j - 1)) ^^ (decide (j + 1 < K) && p.testBit (j + 1))))
  | 0, _ => by simp [effN]
  | K + 1, hK => by
    have ih := eff_bit own p n j hj K (by omega)
    have ht := tog_bit (n - 1) own K j
    have hx : (effN (tog (pathF (n - 1)) own) p (K + 1)).testBit j = ((effN (tog (pathF (n - 1)) own) p K).testBit j ^^ (p.testBit K && (tog (pathF (n - 1)) own K).testBit j)) := by
      rw [effN]
      cases hp : p.testBit K
      · simp
      · rw [if_pos rfl, Nat.testBit_xor]; simp
    rw [hx, ih]
    by_cases h1 : j = K
    · subst h1
      have e : (tog (pathF (n - 1)) own j).testBit j = own := by
        rw [Bool.eq_iff_iff, ht]; simp
      rw [e]
      have a1 : decide (j < j) = false := by simp
      have a2 : decide (j < j + 1) = true := by simp
      have a3 : decide (1 ≤ j ∧ j - 1 < j) = decide (1 ≤ j ∧ j - 1 < j + 1) := by rw [decide_eq_decide]; omega
      have a4 : decide (j + 1 < j) = false := by simp
      have a5 : decide (j + 1 < j + 1) = false := by simp
      rw [a1, a2, a3, a4, a5]
      cases own <;> cases p.testBit j <;> cases (decide (1 ≤ j ∧ j - 1 < j + 1) && p.testBit (j - 1)) <;> rfl
    · by_cases h2 : j = K + 1
      · subst h2
        have e : (tog (pathF (n - 1)) own K).testBit (K + 1) = true := by rw [ht]; right; left; omega
        rw [e]
        have a1 : decide (K + 1 < K) = false := by simp
        have a2 : decide (K + 1 < K + 1) = false := by simp
        have a3 : decide (1 ≤ K + 1 ∧ K + 1 - 1 < K) = false := by simp
        have a4 : decide (1 ≤ K + 1 ∧ K + 1 - 1 < K + 1) = true := by simp
        have a5 : decide (K + 1 + 1 < K) = false := by simp; omega
        have a6 : decide (K + 1 + 1 < K + 1) = false := by simp
        rw [a1, a2, a3, a4, a5, a6, Nat.add_sub_cancel]
        cases p.testBit K <;> rfl
      · by_cases h3 : K = j + 1
        · subst h3
          have e : (tog (pathF (n - 1)) own (j + 1)).testBit j = true := by rw [ht]; right; right; omega
          rw [e]
          have a1 : decide (j < j + 1) = true := by simp
          have a2 : decide (j < j + 1 + 1) = true := by simp; omega
          have a3 : decide (1 ≤ j ∧ j - 1 < j + 1) = decide (1 ≤ j ∧ j - 1 < j + 1 + 1) := by rw [decide_eq_decide]; omega
          have a5 : decide (j + 1 < j + 1) = false := by simp
          have a6 : decide (j + 1 < j + 1 + 1) = true := by simp
          rw [a1, a2, a3, a5, a6]
          cases (own && p.testBit j) <;> cases (decide (1 ≤ j ∧ j - 1 < j + 1 + 1) && p.testBit (j - 1)) <;> cases p.testBit (j + 1) <;> rfl
        · have e : (tog (pathF (n - 1)) own K).testBit j = false := by
            cases hb : (tog (pathF (n - 1)) own K).testBit j
            · rfl
            · have := ht.1 hb; omega
          rw [e]
          have a1 : decide (j < K) = decide (j < K + 1) := by rw [decide_eq_decide]; omega
          have a3 : decide (1 ≤ j ∧ j - 1 < K) = decide (1 ≤ j ∧ j - 1 < K + 1) := by rw [decide_eq_decide]; omega
          have a5 : decide (j + 1 < K) = decide (j + 1 < K + 1) := by rw [decide_eq_decide]; omega
          rw [a1, a3, a5]
          simp
theorem eff_high (own : Bool) (p n j : Nat) (hn : 1 ≤ n) (hj : n ≤ j) : ∀ K, K ≤ n → (effN (tog (pathF (n - 1)) own) p K).testBit j = false
  | 0, _ => by simp [effN]
  | K + 1, hK => by
    have ih := eff_high own p n j hn hj K (by omega)
    have e : (tog (pathF (n - 1)) own K).testBit j = false := by
      cases hb : (tog (pathF (n - 1)) own K).testBit j
      · rfl
      · have := (tog_bit (n - 1) own K j).1 hb; omega
    rw [effN]
    split
    · rw [Nat.testBit_xor, ih, e]; rfl
    · exact ih
section
variable {own : Bool} {l f : Nat}
/-- Is the button k pressed? -/
def rb (own : Bool) (l f k : Nat) : Bool := decide (prw 1 own l f k = 1)
theorem prw_two (hf : f < 2) (k : Nat) : prw 1 own l f k = (rb own l f k).toNat := by
  have h := prw_lt (c := 1) (own := own) (l := l) (f := f) (by simpa using hf) k
  unfold rb
  by_cases e : prw 1 own l f k = 1
  · simp [e]
  · simp [e]; omega
theorem lr_one (l k : Nat) : lr 1 l k = (l.testBit k).toNat := by
  rw [lr, Nat.one_mul, Nat.testBit_eq_decide_div_mod_eq]
  by_cases h : l / 2 ^ k % 2 = 1
  · simp [h]
  · simp [h]; omega
theorem rt_one (x : Bool) : rt 1 own x.toNat = (own && x).toNat := by cases own <;> cases x <;> rfl
theorem xor_toNat (a b : Bool) : a.toNat ^^^ b.toNat = (a ^^ b).toNat := by cases a <;> cases b <;> rfl
theorem toNat_inj {a b : Bool} (h : a.toNat = b.toNat) : a = b := by cases a <;> cases b <;> simp at h <;> rfl
theorem rb_zero (hf : f < 2) : rb own l f 0 = f.testBit 0 := by
  have : f = 0 ∨ f = 1 := by omega
  rcases this with rfl | rfl <;> rfl
theorem rb_succ (hf : f < 2) (k : Nat) : rb own l f (k + 1) = (l.testBit k ^^ ((decide (1 ≤ k) && rb own l f (k - 1)) ^^ (own && rb own l f k))) := by
  apply toNat_inj
  rw [← prw_two hf, prw_succ, lr_one, prw_two hf k, rt_one]
  cases k with
  | zero => rw [prb_zero, Nat.xor_zero, xor_toNat]; simp
  | succ k =>
    rw [prb_succ, prw_two hf k, xor_toNat, xor_toNat]
    simp
theorem prs_bit (hf : f < 2) (r j : Nat) : (prs 1 own l f r).testBit j = (decide (j < r) && rb own l f j) := by
  induction r with
  | zero => simp [prs]
  | succ r ih =>
    rw [prs, Nat.testBit_or, ih, Nat.one_mul, prw_two hf r]
    by_cases e : j = r
    · subst e
      cases hr : rb own l f j <;> simp
    · have h1 : ((rb own l f r).toNat * 2 ^ r).testBit j = false := by
        cases rb own l f r
        · simp
        · simp only [Bool.toNat_true, Nat.one_mul]
          cases hb : (2 ^ r).testBit j
          · rfl
          · exact absurd ((tp_bit r j).1 hb).symm e
      rw [h1, Bool.or_false]
      congr 1
      rw [decide_eq_decide]; omega
/-- The next button is told by the light. -/
theorem next_bit (hf : f < 2) {n i : Nat} (hi : i + 1 < n) : (l ^^^ effN (tog (pathF (n - 1)) own) (prs 1 own l f (i + 1)) n).testBit i = rb own l f (i + 1) := by
  rw [Nat.testBit_xor, eff_bit own _ n i (by omega) n (Nat.le_refl _), rb_succ hf, prs_bit hf, prs_bit hf, prs_bit hf]
  have a1 : decide (i < n) = true := by simp; omega
  have a2 : decide (i + 1 < i + 1) = false := by simp
  have a3 : decide (i < i + 1) = true := by simp
  have a5 : decide (i - 1 < i + 1) = true := by simp; omega
  have a6 : decide (1 ≤ i ∧ i - 1 < n) = decide (1 ≤ i) := by rw [decide_eq_decide]; omega
  rw [a1, a2, a3, a5, a6]
  cases l.testBit i <;> cases own <;> cases rb _ l f i <;> cases (decide (1 ≤ i)) <;> cases rb _ l f (i - 1) <;> simp
/-- All is put out just if nothing is left. -/
theorem all_out (hf : f < 2) {n : Nat} (hn : 1 ≤ n) (hl : l < 2 ^ n) : effN (tog (pathF (n - 1)) own) (prs 1 own l f n) n = l ↔ prw 1 own l f n = 0 := by
  have hbit : ∀ j, j < n → (effN (tog (pathF (n - 1)) own) (prs 1 own l f n) n).testBit j = (l.testBit j ^^ (decide (j + 1 = n) && rb own l f n)) := by
    intro j hj
    rw [eff_bit own _ n j hj n (Nat.le_refl _), prs_bit hf, prs_bit hf, prs_bit hf]
    have hs := rb_succ (own := own) (l := l) hf j
    have a1 : decide (j < n) = true := by simp; omega
    have a5 : decide (j - 1 < n) = true := by simp; omega
    have a6 : decide (1 ≤ j ∧ j - 1 < n) = decide (1 ≤ j) := by rw [decide_eq_decide]; omega
    rw [a1, a5, a6]
    by_cases e : j + 1 = n
    · have a7 : decide (j + 1 < n) = false := by simp; omega
      have a8 : decide (j + 1 = n) = true := by simp [e]
      rw [a7, a8]
      rw [← e, hs]
      cases l.testBit j <;> cases own <;> cases rb _ l f j <;> cases (decide (1 ≤ j)) <;> cases rb _ l f (j - 1) <;> simp
    · have a7 : decide (j + 1 < n) = true := by simp; omega
      have a8 : decide (j + 1 = n) = false := by simp [e]
      rw [a7, a8, hs]
      cases l.testBit j <;> cases own <;> cases rb _ l f j <;> cases (decide (1 ≤ j)) <;> cases rb _ l f (j - 1) <;> simp
  have hr : prw 1 own l f n = 0 ↔ rb own l f n = false := by
    rw [prw_two hf]
    cases rb own l f n <;> simp
  rw [hr]
  constructor
  · intro h
    have := hbit (n - 1) (by omega)
    rw [h] at this
    have a8 : decide (n - 1 + 1 = n) = true := by simp; omega
    rw [a8] at this
    cases hb : rb own l f n
    · rfl
    · rw [hb] at this; cases h2 : l.testBit (n - 1) <;> rw [h2] at this <;> simp at this
  · intro h
    apply Nat.eq_of_testBit_eq
    intro j
    by_cases hj : j < n
    · rw [hbit j hj, h]; simp
    · rw [eff_high own _ n j hn (by omega) n (Nat.le_refl _)]
      exact (Nat.testBit_lt_two_pow (Nat.lt_of_lt_of_le hl (Nat.pow_le_pow_right (by decide) (by omega)))).symm
end
end Go.Proofs.Ytmcimfblhpflnaa
