/-
The edges of a graph as a list of pairs: how many there are beside its parts. Nothing here speaks of the program.
-/
import Derived.Test.YtmcimfblhpflnaaDoorZa
import Derived.Test.YtmcimfblhpflnaaDoorGE
namespace Go.Proofs.YtmcimfblhpflnaaDoor

section
variable {F : Nat → Nat} {n : Nat}
theorem rowP_iff (F : Nat → Nat) (i : Nat) (p : Nat × Nat) : ∀ j, p ∈ rowP F i j ↔ p.1 = i ∧ i < p.2 ∧ p.2 < j ∧ (F i).testBit p.2 = true
  | 0 => by simp [rowP]
  | j + 1 => by
    have ih := rowP_iff F i p j
    rw [rowP]
    by_cases h : i < j ∧ (F i).testBit j = true
    · rw [if_pos h, List.mem_append, ih, List.mem_singleton]
      constructor
      · rintro (h1 | rfl)
        · exact ⟨h1.1, h1.2.1, by omega, h1.2.2.2⟩
        · exact ⟨rfl, h.1, by simp, h.2⟩
      · rintro ⟨h1, h2, h3, h4⟩
        by_cases e : p.2 = j
        · right; exact Prod.ext h1 e
        · left; exact ⟨h1, h2, by omega, h4⟩
    · rw [if_neg h, ih]
      constructor
      · rintro ⟨h1, h2, h3, h4⟩; exact ⟨h1, h2, by omega, h4⟩
      · rintro ⟨h1, h2, h3, h4⟩
        refine ⟨h1, h2, ?_, h4⟩
        by_cases e : p.2 = j
        · rw [e] at h2 h4; exact absurd ⟨h2, h4⟩ h
        · omega
theorem allP_iff (F : Nat → Nat) (n : Nat) (p : Nat × Nat) : ∀ i, p ∈ allP F n i ↔ p.1 < i ∧ p.1 < p.2 ∧ p.2 < n ∧ (F p.1).testBit p.2 = true
  | 0 => by simp [allP]
  | i + 1 => by
    rw [allP, List.mem_append, allP_iff F n p i, rowP_iff]
    constructor
    · rintro (⟨h1, h2⟩ | ⟨h1, h2, h3, h4⟩)
      · exact ⟨by omega, h2⟩
      · rw [h1]; exact ⟨by omega, h2, h3, h4⟩
    · rintro ⟨h1, h2, h3, h4⟩
      by_cases e : p.1 = i
      · right; rw [e] at h2 h4; exact ⟨e, h2, h3, h4⟩
      · left; exact ⟨by omega, h2, h3, h4⟩
theorem allP_in (F : Nat → Nat) (n : Nat) : InL n (allP F n n) := fun e he => by
  have := (allP_iff F n e n).1 he; omega
/-- No button is its own neighbour. -/
def Irr (F : Nat → Nat) (n : Nat) : Prop := ∀ i, i < n → (F i).testBit i = false
theorem gl_allP (hF : Sym F n) (hI : Irr F n) (i j : Nat) (hi : i < n) (hj : j < n) : (F i).testBit j = (gl (allP F n n) i).testBit j := by
  rw [Bool.eq_iff_iff, gl_bits]
  constructor
  · intro h
    rcases Nat.lt_trichotomy i j with hl | hl | hl
    · exact ⟨(i, j), (allP_iff F n _ n).2 ⟨hi, hl, hj, h⟩, .inl ⟨rfl, rfl⟩⟩
    · subst hl; rw [hI i hi] at h; cases h
    · exact ⟨(j, i), (allP_iff F n _ n).2 ⟨hj, hl, hi, hF.sym i j hi hj h⟩, .inr ⟨rfl, rfl⟩⟩
  · rintro ⟨e, he, hx⟩
    have := (allP_iff F n e n).1 he
    rcases hx with ⟨rfl, rfl⟩ | ⟨rfl, rfl⟩
    · exact this.2.2.2
    · exact hF.sym _ _ hj hi this.2.2.2
theorem edges_parts (hn : n ≤ 16) (hF : Sym F n) (hI : Irr F n) : n ≤ (allP F n n).length + (roots F n n).length := by
  rw [cn_roots, cn_bits hF (gl_sym (allP_in F n)) (gl_allP hF hI)]
  exact forest_le hn _ (allP_in F n)
/-! ### double sums -/
def sm (f : Nat → Nat) : Nat → Nat
  | 0 => 0
  | k + 1 => sm f k + f k
theorem sm_eq {f g : Nat → Nat} {k : Nat} (h : ∀ i, i < k → f i = g i) : sm f k = sm g k := by
  induction k with
  | zero => rfl
  | succ k ih => rw [sm, sm, ih (fun i hi => h i (by omega)), h k (by omega)]
theorem sm_add (f g : Nat → Nat) : ∀ k, sm (fun a => f a + g a) k = sm f k + sm g k
  | 0 => rfl
  | k + 1 => by simp only [sm, sm_add f g k]; omega
theorem sm_zero (k : Nat) : sm (fun _ => 0) k = 0 := by
  induction k with
  | zero => rfl
  | succ k ih => simp [sm, ih]
theorem sm_swap (f : Nat → Nat → Nat) (m : Nat) : ∀ k, sm (fun i => sm (fun j => f i j) m) k = sm (fun j => sm (fun i => f i j) k) m
  | 0 => by simp only [sm]; rw [sm_zero]
  | k + 1 => by
    simp only [sm, sm_swap f m k]
    rw [← sm_add]
theorem sm_one {f : Nat → Nat} {r k : Nat} (hr : r < k) (h : ∀ i, i < k → f i = if i = r then 1 else 0) : sm f k = 1 := by
  induction k with
  | zero => omega
  | succ k ih =>
    rw [sm, h k (by omega)]
    by_cases e : k = r
    · subst e
      rw [if_pos rfl, sm_eq (g := fun _ => 0) (fun i hi => by rw [h i (by omega), if_neg (by omega)]), sm_zero]
    · rw [if_neg e, ih (by omega) (fun i hi => h i (by omega))]
theorem rowP_sm (F : Nat → Nat) (i : Nat) : ∀ j, (rowP F i j).length = sm (fun b => if i < b ∧ (F i).testBit b = true then 1 else 0) j
  | 0 => rfl
  | j + 1 => by
    rw [rowP, sm, ← rowP_sm F i j]
    by_cases h : i < j ∧ (F i).testBit j = true
    · rw [if_pos h, if_pos h]; simp
    · rw [if_neg h, if_neg h]; rfl
theorem allP_sm (F : Nat → Nat) (n : Nat) : ∀ i, (allP F n i).length = sm (fun a => sm (fun b => if a < b ∧ (F a).testBit b = true then 1 else 0) n) i
  | 0 => rfl
  | i + 1 => by rw [allP, List.length_append, allP_sm F n i, rowP_sm]; rfl
/-- Each edge is the one to a parent: so there are as many as buttons with a parent. -/
theorem count_parents (hF : Sym F n) (hI : Irr F n) (pr : Nat → Nat → Bool)
    (h1 : ∀ i j, i < n → j < n → ((F i).testBit j = true ↔ pr i j = true ∨ pr j i = true)) (h2 : ∀ i j, i < n → j < n → pr i j = true → pr j i = false)
    (f : Nat → Bool) (h3 : ∀ i, i < n → f i = false → ∃ r, r < n ∧ ∀ j, j < n → (pr i j = true ↔ j = r)) (h4 : ∀ i, i < n → f i = true → ∀ j, j < n → pr i j = false) :
    (allP F n n).length + cn f n = n := by
  have e1 : sm (fun a => sm (fun b => if (F a).testBit b = true then 1 else 0) n) n = 2 * (allP F n n).length := by
    have ha : sm (fun a => sm (fun b => if (F a).testBit b = true then 1 else 0) n) n = sm (fun a => sm (fun b => if a < b ∧ (F a).testBit b = true then 1 else 0) n + sm (fun b => if b < a ∧ (F b).testBit a = true then 1 else 0) n) n := by
      refine sm_eq fun a ha => ?_
      rw [← sm_add]
      refine sm_eq fun b hb => ?_
      rcases Nat.lt_trichotomy a b with hl | hl | hl
      · simp [hl, show ¬ b < a by omega]
      · subst hl; simp [hI a ha]
      · have : (F a).testBit b = (F b).testBit a := by rw [Bool.eq_iff_iff]; exact ⟨hF.sym a b ha hb, hF.sym b a hb ha⟩
        simp [hl, show ¬ a < b by omega, this]
    rw [ha, sm_add, sm_swap (fun a b => if b < a ∧ (F b).testBit a = true then 1 else 0), ← allP_sm]
    omega
  have e2 : sm (fun a => sm (fun b => if (F a).testBit b = true then 1 else 0) n) n = 2 * sm (fun a => sm (fun b => if pr a b = true then 1 else 0) n) n := by
    have ha : sm (fun a => sm (fun b => if (F a).testBit b = true then 1 else 0) n) n = sm (fun a => sm (fun b => if pr a b = true then 1 else 0) n + sm (fun b => if pr b a = true then 1 else 0) n) n := by
      refine sm_eq fun a ha => ?_
      rw [← sm_add]
      refine sm_eq fun b hb => ?_
      have k1 := h1 a b ha hb
      have k2 := h2 a b ha hb
      cases hp : pr a b <;> cases hq : pr b a <;> simp [hp, hq] at k1 k2 ⊢ <;> simp [k1]
    rw [ha, sm_add, sm_swap (fun a b => if pr b a = true then 1 else 0)]
    omega
  have e3 : ∀ k, k ≤ n → sm (fun a => sm (fun b => if pr a b = true then 1 else 0) n) k + cn f k = k := by
    intro k
    induction k with
    | zero => intro _; rfl
    | succ k ih =>
      intro hk
      have ih := ih (by omega)
      rw [sm, cn]
      cases hf : f k
      · obtain ⟨r, hr, h⟩ := h3 k (by omega) hf
        have : sm (fun b => if pr k b = true then 1 else 0) n = 1 := sm_one hr fun b hb => by
          by_cases e : b = r
          · rw [if_pos ((h b hb).2 e), if_pos e]
          · rw [if_neg (fun hx => e ((h b hb).1 hx)), if_neg e]
        rw [this]
        simp; omega
      · have : sm (fun b => if pr k b = true then 1 else 0) n = 0 := by
          rw [sm_eq (g := fun _ => 0) (fun b hb => by rw [h4 k (by omega) hf b hb]; rfl), sm_zero]
        rw [this]
        simp; omega
  have := e3 n (Nat.le_refl _)
  omega
end
end Go.Proofs.YtmcimfblhpflnaaDoor
