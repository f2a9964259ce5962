/-
The product of two graphs: its pairs row by row and column by column, and the same place by place. Nothing here speaks of the program.
-/
import Derived.Test.YtdpoceijnbbmgaaDoorGI
namespace Go.Proofs.YtdpoceijnbbmgaaDoor
theorem lk_bit (i j : Nat) (F : Nat → Nat) (x y : Nat) : (lk i j F x).testBit y = true ↔ (F x).testBit y = true ∨ (x = i ∧ y = j) ∨ (x = j ∧ y = i) := by
  unfold lk
  by_cases hxj : x = j
  · rw [if_pos hxj]
    by_cases hji : j = i
    · rw [if_pos hji]
      simp only [Nat.testBit_or, Nat.testBit_two_pow, Bool.or_eq_true, decide_eq_true_eq]
      constructor
      · rintro ((h | h) | h)
        · exact .inl h
        · exact .inr (.inl ⟨by omega, by omega⟩)
        · exact .inr (.inr ⟨by omega, by omega⟩)
      · rintro (h | ⟨h, h2⟩ | ⟨h, h2⟩)
        · exact .inl (.inl h)
        · exact .inl (.inr (by omega))
        · exact .inr (by omega)
    · rw [if_neg hji]
      simp only [Nat.testBit_or, Nat.testBit_two_pow, Bool.or_eq_true, decide_eq_true_eq]
      constructor
      · rintro (h | h)
        · exact .inl h
        · exact .inr (.inr ⟨by omega, by omega⟩)
      · rintro (h | ⟨h, h2⟩ | ⟨h, h2⟩)
        · exact .inl h
        · exact absurd (by omega) hji
        · exact .inr (by omega)
  · rw [if_neg hxj]
    by_cases hxi : x = i
    · rw [if_pos hxi]
      simp only [Nat.testBit_or, Nat.testBit_two_pow, Bool.or_eq_true, decide_eq_true_eq]
      constructor
      · rintro (h | h)
        · exact .inl h
        · exact .inr (.inl ⟨by omega, by omega⟩)
      · rintro (h | ⟨h, h2⟩ | ⟨h, h2⟩)
        · exact .inl h
        · exact .inr (by omega)
        · exact absurd h hxj
    · rw [if_neg hxi]
      constructor
      · exact .inl
      · rintro (h | ⟨h, h2⟩ | ⟨h, h2⟩)
        · exact h
        · exact absurd h hxi
        · exact absurd h hxj
/-- The pairs of a list added one after the other, each button a called V a. -/
def lkL (V : Nat → Nat) : List (Nat × Nat) → (Nat → Nat) → Nat → Nat
  | [], F => F
  | p :: P, F => lkL V P (lk (V p.1) (V p.2) F)
theorem lkL_snoc (V : Nat → Nat) (p : Nat × Nat) : ∀ (P : List (Nat × Nat)) (F : Nat → Nat), lkL V (P ++ [p]) F = lk (V p.1) (V p.2) (lkL V P F)
  | [], _ => rfl
  | q :: P, F => by rw [List.cons_append, lkL, lkL, lkL_snoc V p P]
theorem lkL_bit (V : Nat → Nat) (x y : Nat) : ∀ (P : List (Nat × Nat)) (F : Nat → Nat), (lkL V P F x).testBit y = true ↔ (F x).testBit y = true ∨ ∃ p, p ∈ P ∧ ((x = V p.1 ∧ y = V p.2) ∨ (x = V p.2 ∧ y = V p.1))
  | [], F => by simp [lkL]
  | q :: P, F => by
    rw [lkL, lkL_bit V x y P, lk_bit]
    constructor
    · rintro ((h | h) | ⟨p, hp, h⟩)
      · exact .inl h
      · exact .inr ⟨q, by simp, h⟩
      · exact .inr ⟨p, by simp [hp], h⟩
    · rintro (h | ⟨p, hp, h⟩)
      · exact .inl (.inl h)
      · rcases List.mem_cons.1 hp with rfl | hp
        · exact .inl (.inr h)
        · exact .inr ⟨p, hp, h⟩
theorem lkL_lt {V : Nat → Nat} {n : Nat} : ∀ (P : List (Nat × Nat)) (F : Nat → Nat), (∀ p, p ∈ P → V p.1 < 16 ∧ V p.2 < 16) → (∀ k, k < n → F k < 65536) → ∀ k, k < n → lkL V P F k < 65536
  | [], F, _, h => h
  | q :: P, F, hP, h => by
    rw [lkL]
    exact lkL_lt P _ (fun p hp => hP p (by simp [hp])) (lk_lt (hP q (by simp)).1 (hP q (by simp)).2 h)
def inRow (m i : Nat) : Nat → Nat := fun b => m * i + b
def inCol (m j : Nat) : Nat → Nat := fun a => m * a + j
/-- The pairs P in each of the first rows. -/
def rowsL (m : Nat) (P : List (Nat × Nat)) : Nat → (Nat → Nat) → Nat → Nat
  | 0, F => F
  | i + 1, F => lkL (inRow m i) P (rowsL m P i F)
/-- The pairs P in each of the first columns. -/
def colsL (m : Nat) (P : List (Nat × Nat)) : Nat → (Nat → Nat) → Nat → Nat
  | 0, F => F
  | j + 1, F => lkL (inCol m j) P (colsL m P j F)
theorem rowsL_bit (m : Nat) (P : List (Nat × Nat)) (F : Nat → Nat) (x y : Nat) : ∀ n, (rowsL m P n F x).testBit y = true ↔ (F x).testBit y = true ∨ ∃ i, i < n ∧ ∃ p, p ∈ P ∧ ((x = m * i + p.1 ∧ y = m * i + p.2) ∨ (x = m * i + p.2 ∧ y = m * i + p.1))
  | 0 => by simp [rowsL]
  | n + 1 => by
    rw [rowsL, lkL_bit, rowsL_bit m P F x y n]
    constructor
    · rintro ((h | ⟨i, hi, h⟩) | h)
      · exact .inl h
      · exact .inr ⟨i, by omega, h⟩
      · exact .inr ⟨n, by omega, h⟩
    · rintro (h | ⟨i, hi, h⟩)
      · exact .inl (.inl h)
      · by_cases e : i = n
        · subst e; exact .inr h
        · exact .inl (.inr ⟨i, by omega, h⟩)
theorem colsL_bit (m : Nat) (P : List (Nat × Nat)) (F : Nat → Nat) (x y : Nat) : ∀ n, (colsL m P n F x).testBit y = true ↔ (F x).testBit y = true ∨ ∃ j, j < n ∧ ∃ p, p ∈ P ∧ ((x = m * p.1 + j ∧ y = m * p.2 + j) ∨ (x = m * p.2 + j ∧ y = m * p.1 + j))
  | 0 => by simp [colsL]
  | n + 1 => by
    rw [colsL, lkL_bit, colsL_bit m P F x y n]
    constructor
    · rintro ((h | ⟨i, hi, h⟩) | h)
      · exact .inl h
      · exact .inr ⟨i, by omega, h⟩
      · exact .inr ⟨n, by omega, h⟩
    · rintro (h | ⟨i, hi, h⟩)
      · exact .inl (.inl h)
      · by_cases e : i = n
        · subst e; exact .inr h
        · exact .inl (.inr ⟨i, by omega, h⟩)
theorem rowP_iff (F : Nat → Nat) (i : Nat) (p : Nat × Nat) : ∀ j, p ∈ rowP F i j ↔ p.1 = i ∧ i < p.2 ∧ p.2 < j ∧ (F i).testBit p.2 = true
  | 0 => by simp [rowP]
  | j + 1 => by
    rw [rowP]
    split
    · rename_i hc
      rw [List.mem_append, rowP_iff F i p j]
      constructor
      · rintro (⟨h1, h2, h3, h4⟩ | h)
        · exact ⟨h1, h2, by omega, h4⟩
        · simp at h; subst h; exact ⟨rfl, hc.1, by simp, hc.2⟩
      · rintro ⟨h1, h2, h3, h4⟩
        by_cases e : p.2 = j
        · refine .inr ?_
          obtain ⟨a, b⟩ := p
          simp at h1 e; subst h1 e; simp
        · exact .inl ⟨h1, h2, by omega, h4⟩
    · rename_i hc
      rw [rowP_iff F i p j]
      constructor
      · rintro ⟨h1, h2, h3, h4⟩; exact ⟨h1, h2, by omega, h4⟩
      · rintro ⟨h1, h2, h3, h4⟩
        by_cases e : p.2 = j
        · exact absurd ⟨by omega, by rw [← e]; exact h4⟩ hc
        · exact ⟨h1, h2, by omega, h4⟩
theorem allP_iff (F : Nat → Nat) (n : Nat) (p : Nat × Nat) : ∀ i, p ∈ allP F n i ↔ p.1 < i ∧ p.1 < p.2 ∧ p.2 < n ∧ (F p.1).testBit p.2 = true
  | 0 => by simp [allP]
  | i + 1 => by
    rw [allP, List.mem_append, allP_iff F n p i, rowP_iff]
    constructor
    · rintro (⟨h1, h2, h3, h4⟩ | ⟨h1, h2, h3, h4⟩)
      · exact ⟨by omega, h2, h3, h4⟩
      · rw [h1]; exact ⟨by omega, h2, h3, h4⟩
    · rintro ⟨h1, h2, h3, h4⟩
      by_cases e : p.1 = i
      · rw [e] at h2 h4; exact .inr ⟨e, h2, h3, h4⟩
      · exact .inl ⟨by omega, h2, h3, h4⟩
/-- Neighbours below n, both ways, none its own. -/
def Sym2 (n : Nat) (F : Nat → Nat) : Prop := ∀ i, i < n → ∀ j, (F i).testBit j = true → j < n ∧ i ≠ j ∧ (F j).testBit i = true
theorem pairs_iff {n : Nat} {F : Nat → Nat} (h : Sym2 n F) (x y : Nat) : (∃ p, p ∈ allP F n n ∧ ((x = p.1 ∧ y = p.2) ∨ (x = p.2 ∧ y = p.1))) ↔ x < n ∧ (F x).testBit y = true := by
  constructor
  · rintro ⟨p, hp, h1⟩
    rw [allP_iff] at hp
    obtain ⟨h2, h3, h4, h5⟩ := hp
    rcases h1 with ⟨rfl, rfl⟩ | ⟨rfl, rfl⟩
    · exact ⟨h2, h5⟩
    · exact ⟨h4, (h p.1 h2 p.2 h5).2.2⟩
  · rintro ⟨h1, h2⟩
    obtain ⟨h3, h4, h5⟩ := h x h1 y h2
    by_cases e : x < y
    · exact ⟨(x, y), (allP_iff _ _ _ _).2 ⟨h1, e, h3, h2⟩, .inl ⟨rfl, rfl⟩⟩
    · exact ⟨(y, x), (allP_iff _ _ _ _).2 ⟨h3, by simp; omega, h1, h5⟩, .inr ⟨rfl, rfl⟩⟩
/-- The model's product: the pairs of H in each row, then those of F in each column. -/
def prodS (n m : Nat) (F H : Nat → Nat) : Nat → Nat := colsL m (allP F n n) m (rowsL m (allP H m m) n (fun _ => 0))
/-- The places k b + j for b below n in s. -/
def spread (k j s : Nat) : Nat → Nat
  | 0 => 0
  | b + 1 => if s.testBit b = true then spread k j s b ||| 2 ^ (k * b + j) else spread k j s b
theorem spread_bit (k j s y : Nat) : ∀ n, (spread k j s n).testBit y = true ↔ ∃ b, b < n ∧ s.testBit b = true ∧ y = k * b + j
  | 0 => by simp [spread]
  | n + 1 => by
    rw [spread]
    split
    · rename_i hc
      rw [Nat.testBit_or, Bool.or_eq_true, spread_bit k j s y n, Nat.testBit_two_pow, decide_eq_true_eq]
      constructor
      · rintro (⟨b, h1, h2, h3⟩ | h)
        · exact ⟨b, by omega, h2, h3⟩
        · exact ⟨n, by omega, hc, h.symm⟩
      · rintro ⟨b, h1, h2, h3⟩
        by_cases e : b = n
        · subst e; exact .inr h3.symm
        · exact .inl ⟨b, by omega, h2, h3⟩
    · rename_i hc
      rw [spread_bit k j s y n]
      constructor
      · rintro ⟨b, h1, h2, h3⟩; exact ⟨b, by omega, h2, h3⟩
      · rintro ⟨b, h1, h2, h3⟩
        by_cases e : b = n
        · subst e; exact absurd h2 hc
        · exact ⟨b, by omega, h2, h3⟩
theorem lt_of_bits {s n : Nat} (h : ∀ y, s.testBit y = true → y < n) : s < 2 ^ n := by
  apply Nat.lt_pow_two_of_testBit
  intro i hi
  cases e : s.testBit i
  · rfl
  · exact absurd (h i e) (by omega)
theorem spread_lt {k j s n : Nat} (hj : j < k) : spread k j s n < 2 ^ (n * k) := by
  apply lt_of_bits
  intro y hy
  rw [spread_bit] at hy
  obtain ⟨b, hb, _, rfl⟩ := hy
  have h1 : k * (b + 1) ≤ n * k := by rw [Nat.mul_comm n k]; exact Nat.mul_le_mul_left k hb
  rw [Nat.mul_succ] at h1
  omega
/-- One button more. -/
theorem spread_more {k j n b t : Nat} (hb : b < n) (ht : t.testBit b = false) : spread k j (t ^^^ 2 ^ b) n = spread k j t n ||| 2 ^ (k * b + j) := by
  apply Nat.eq_of_testBit_eq
  intro y
  rw [Bool.eq_iff_iff, Nat.testBit_or, Bool.or_eq_true, spread_bit, spread_bit, Nat.testBit_two_pow, decide_eq_true_eq]
  constructor
  · rintro ⟨c, h1, h2, h3⟩
    rw [Nat.testBit_xor, Nat.testBit_two_pow] at h2
    by_cases e : b = c
    · subst e; exact .inr h3.symm
    · simp [e] at h2; exact .inl ⟨c, h1, h2, h3⟩
  · rintro (⟨c, h1, h2, h3⟩ | h)
    · refine ⟨c, h1, ?_, h3⟩
      rw [Nat.testBit_xor, Nat.testBit_two_pow, h2]
      by_cases e : b = c
      · subst e; rw [ht] at h2; cases h2
      · simp [e]
    · exact ⟨b, hb, by rw [Nat.testBit_xor, Nat.testBit_two_pow, ht]; simp, h.symm⟩
theorem spread_zero (k j n : Nat) : spread k j 0 n = 0 := by
  apply Nat.eq_of_testBit_eq
  intro y
  rw [Bool.eq_iff_iff, spread_bit]
  simp
/-- The program's product, place by place. -/
def prodI (n k : Nat) (F H : Nat → Nat) (p : Nat) : Nat := H (p % k) * 2 ^ (k * (p / k)) ||| spread k (p % k) (F (p / k)) n
theorem divmod {k i j : Nat} (hj : j < k) : (k * i + j) / k = i ∧ (k * i + j) % k = j := by
  have h1 : (k * i + j) / k = i := by
    rw [Nat.mul_add_div (by omega), Nat.div_eq_of_lt hj, Nat.add_zero]
  exact ⟨h1, by rw [Nat.mul_add_mod, Nat.mod_eq_of_lt hj]⟩
theorem shifted_bit (s a y : Nat) : (s * 2 ^ a).testBit y = true ↔ ∃ b, s.testBit b = true ∧ y = a + b := by
  rw [Nat.testBit_mul_two_pow]
  simp only [Bool.and_eq_true, decide_eq_true_eq]
  constructor
  · rintro ⟨h1, h2⟩; exact ⟨y - a, h2, by omega⟩
  · rintro ⟨b, h1, rfl⟩; exact ⟨by omega, by rw [Nat.add_sub_cancel_left]; exact h1⟩
theorem place_eq {k a j b c : Nat} (hj : j < k) (hc : c < k) : k * a + j = k * b + c ↔ a = b ∧ j = c := by
  constructor
  · intro h
    have h1 := divmod (i := a) hj
    have h2 := divmod (i := b) hc
    rw [h] at h1
    omega
  · rintro ⟨rfl, rfl⟩; rfl
theorem prod_same {n k : Nat} {F H : Nat → Nat} (hF : Sym2 n F) (hH : Sym2 k H) (p : Nat) (hp : p < n * k) : prodS n k F H p = prodI n k F H p := by
  have hk : 0 < k := by rcases Nat.eq_zero_or_pos k with h | h; · subst h; omega
                        · exact h
  have hj : p % k < k := Nat.mod_lt _ hk
  have hi : p / k < n := Nat.div_lt_of_lt_mul (by rw [Nat.mul_comm]; exact hp)
  have hpe : p = k * (p / k) + p % k := (Nat.div_add_mod p k).symm
  apply Nat.eq_of_testBit_eq
  intro y
  unfold prodS prodI
  rw [Bool.eq_iff_iff, colsL_bit, rowsL_bit, Nat.testBit_or, Bool.or_eq_true, shifted_bit, spread_bit]
  generalize p / k = i at hi hpe
  generalize p % k = j at hj hpe
  subst hpe
  constructor
  · rintro ((h | ⟨a, ha, q, hq, h⟩) | ⟨c, hc, q, hq, h⟩)
    · simp at h
    · refine .inl ?_
      have hq2 := (allP_iff _ _ _ _).1 hq
      obtain ⟨b, hb1, hb2⟩ : ∃ b, ((j = q.1 ∧ b = q.2) ∨ (j = q.2 ∧ b = q.1)) ∧ a = i ∧ y = k * i + b := by
        rcases h with ⟨h1, h2⟩ | ⟨h1, h2⟩
        · rw [place_eq hj (by omega)] at h1
          exact ⟨q.2, .inl ⟨h1.2, rfl⟩, h1.1.symm, by rw [h2, h1.1]⟩
        · rw [place_eq hj (by omega)] at h1
          exact ⟨q.1, .inr ⟨h1.2, rfl⟩, h1.1.symm, by rw [h2, h1.1]⟩
      have := (pairs_iff hH j b).1 ⟨q, hq, hb1⟩
      exact ⟨b, this.2, hb2.2⟩
    · refine .inr ?_
      have hq2 := (allP_iff _ _ _ _).1 hq
      obtain ⟨b, hb1, hb2⟩ : ∃ b, ((i = q.1 ∧ b = q.2) ∨ (i = q.2 ∧ b = q.1)) ∧ c = j ∧ y = k * b + j := by
        rcases h with ⟨h1, h2⟩ | ⟨h1, h2⟩
        · rw [place_eq hj hc] at h1
          exact ⟨q.2, .inl ⟨h1.1, rfl⟩, h1.2.symm, by rw [h2, h1.2]⟩
        · rw [place_eq hj hc] at h1
          exact ⟨q.1, .inr ⟨h1.1, rfl⟩, h1.2.symm, by rw [h2, h1.2]⟩
      have := (pairs_iff hF i b).1 ⟨q, hq, hb1⟩
      exact ⟨b, (hF i hi b this.2).1, this.2, hb2.2⟩
  · rintro (⟨b, hb, rfl⟩ | ⟨b, hb1, hb, rfl⟩)
    · obtain ⟨q, hq, h⟩ := (pairs_iff hH j b).2 ⟨hj, hb⟩
      refine .inl (.inr ⟨i, hi, q, hq, ?_⟩)
      rcases h with ⟨rfl, rfl⟩ | ⟨rfl, rfl⟩
      · exact .inl ⟨rfl, rfl⟩
      · exact .inr ⟨rfl, rfl⟩
    · obtain ⟨q, hq, h⟩ := (pairs_iff hF i b).2 ⟨hi, hb⟩
      refine .inr ⟨j, hj, q, hq, ?_⟩
      rcases h with ⟨rfl, rfl⟩ | ⟨rfl, rfl⟩
      · exact .inl ⟨rfl, rfl⟩
      · exact .inr ⟨rfl, rfl⟩
theorem shl_lt {n k i v : Nat} (hi : i < n) (hv : v < 2 ^ k) : v * 2 ^ (k * i) < 2 ^ (n * k) := by
  apply lt_of_bits
  intro y hy
  obtain ⟨b, hb, rfl⟩ := (shifted_bit v (k * i) y).1 hy
  have h1 : k * (i + 1) ≤ n * k := by rw [Nat.mul_comm n k]; exact Nat.mul_le_mul_left k hi
  rw [Nat.mul_succ] at h1
  have : b < k := by
    rcases Nat.lt_or_ge b k with h | h
    · exact h
    · have := Nat.testBit_lt_two_pow (i := b) (x := v) (Nat.lt_of_lt_of_le hv (Nat.pow_le_pow_right (by decide) h))
      rw [this] at hb; cases hb
  omega
theorem prodI_lt {n k : Nat} {F H : Nat → Nat} (hH : ∀ j, j < k → H j < 2 ^ k) (p : Nat) (hp : p < n * k) : prodI n k F H p < 2 ^ (n * k) := by
  have hk : 0 < k := by rcases Nat.eq_zero_or_pos k with h | h; · subst h; omega
                        · exact h
  have hj : p % k < k := Nat.mod_lt _ hk
  have hi : p / k < n := Nat.div_lt_of_lt_mul (by rw [Nat.mul_comm]; exact hp)
  unfold prodI
  exact Nat.or_lt_two_pow (shl_lt hi (hH _ hj)) (spread_lt hj)
theorem row_lt {n m i b : Nat} (hi : i < n) (hb : b < m) : m * i + b < n * m := by
  have h1 : m * (i + 1) ≤ n * m := by rw [Nat.mul_comm n m]; exact Nat.mul_le_mul_left m hi
  rw [Nat.mul_succ] at h1
  omega
theorem Sym2.of_good {n : Nat} {F : Nat → Nat} (hG : Good n (nv F)) (h2 : ∀ k, k < n → F k < 2 ^ n) : Sym2 n F := fun i hi j hj => by
  have hjn : j < n := by
    rcases Nat.lt_or_ge j n with h | h
    · exact h
    · rw [Nat.testBit_lt_two_pow (Nat.lt_of_lt_of_le (h2 i hi) (Nat.pow_le_pow_right (by decide) h))] at hj; cases hj
  have h := hG.2.2.2 i hi j hjn (by rw [nv, bt_nat2]; exact hj)
  exact ⟨hjn, h.1, by have h3 := h.2; rw [nv, bt_nat2] at h3; exact h3⟩
end Go.Proofs.YtdpoceijnbbmgaaDoor
