/-
Parts of a graph that is told by bits: least closed sets. Nothing here speaks of the program.
-/
import Derived.Lib.TrailingZeros
namespace Go.Proofs.YtmcimfblhpflnaaDoor
/-- S is closed along the edges among the first k. -/
def Clo (F : Nat → Nat) (k : Nat) (S : Nat → Prop) : Prop := ∀ i j, i < k → j < k → (F i).testBit j = true → S i → S j
structure IsPart (F : Nat → Nat) (k p : Nat) : Prop where
  any : ∃ i, p.testBit i = true
  lt : ∀ i, p.testBit i = true → i < k
  clo : Clo F k (fun i => p.testBit i = true)
  least : ∀ S, Clo F k S → ∀ i, p.testBit i = true → S i → ∀ j, p.testBit j = true → S j
section
variable {F F' : Nat → Nat} {k n p q : Nat}
theorem IsPart.eq (hp : IsPart F k p) (hq : IsPart F k q) (i : Nat) (h1 : p.testBit i = true) (h2 : q.testBit i = true) : p = q := by
  apply Nat.eq_of_testBit_eq
  intro j
  rw [Bool.eq_iff_iff]
  exact ⟨fun h => hp.least _ hq.clo i h1 h2 j h, fun h => hq.least _ hp.clo i h2 h1 j h⟩
theorem IsPart.ne (hp : IsPart F k p) : p ≠ 0 := by
  obtain ⟨i, hi⟩ := hp.any
  rintro rfl
  simp at hi
theorem IsPart.lt_pow (hp : IsPart F k p) : p < 2 ^ k := Nat.lt_pow_two_of_testBit _ fun j hj => by
  cases h : p.testBit j
  · rfl
  · exact absurd (hp.lt j h) (by omega)
theorem IsPart.lt16 (hp : IsPart F k p) (hk : k ≤ 16) : p < 65536 :=
  Nat.lt_of_lt_of_le hp.lt_pow (show 2 ^ k ≤ 2 ^ 16 from Nat.pow_le_pow_right (by decide) hk)
/-- The least element. -/
def low (p : Nat) : Nat := Lib.ctz 64 p
theorem low_bit (h0 : p ≠ 0) (h : p < 65536) : p.testBit (low p) = true ∧ ∀ j, j < low p → p.testBit j = false := by
  obtain ⟨m, hm, _⟩ := Lib.ctzFrom_spec 64 p (by omega) (by omega)
  have e : low p = Lib.ctzFrom 64 p := by simp [low, Lib.ctz, h0]
  rw [e]
  generalize Lib.ctzFrom 64 p = c at hm
  subst hm
  constructor
  · rw [Nat.testBit_two_pow_mul]; simp
  · intro j hj
    rw [Nat.testBit_two_pow_mul]; simp; omega
theorem low_eq (h : p < 65536) {l : Nat} (h1 : p.testBit l = true) (h2 : ∀ j, j < l → p.testBit j = false) : low p = l := by
  have h0 : p ≠ 0 := by rintro rfl; simp at h1
  obtain ⟨h3, h4⟩ := low_bit h0 h
  rcases Nat.lt_trichotomy (low p) l with hl | hl | hl
  · rw [h2 _ hl] at h3; cases h3
  · exact hl
  · rw [h4 _ hl] at h1; cases h1
theorem low_le (h : p < 65536) {l : Nat} (h1 : p.testBit l = true) : low p ≤ l := by
  have h0 : p ≠ 0 := by rintro rfl; simp at h1
  apply Nat.le_of_not_lt
  intro hl
  rw [(low_bit h0 h).2 l hl] at h1
  cases h1
theorem IsPart.low (hp : IsPart F k p) (hk : k ≤ 16) : p.testBit (low p) = true := (low_bit hp.ne (hp.lt16 hk)).1
theorem IsPart.low_lt (hp : IsPart F k p) (hk : k ≤ 16) : Go.Proofs.YtmcimfblhpflnaaDoor.low p < k := hp.lt _ (hp.low hk)
theorem IsPart.of_low (hp : IsPart F k p) (hq : IsPart F k q) (hk : k ≤ 16) (h : Go.Proofs.YtmcimfblhpflnaaDoor.low p = Go.Proofs.YtmcimfblhpflnaaDoor.low q) : p = q :=
  hp.eq hq _ (hp.low hk) (by rw [h]; exact hq.low hk)

/-! ### closures by passes -/
def pass (F : Nat → Nat) : Nat → Nat → Nat
  | 0, p => p
  | m + 1, p => if (pass F m p).testBit m = true then pass F m p ||| F m else pass F m p
def rds (F : Nat → Nat) (n : Nat) : Nat → Nat → Nat
  | 0, p => p
  | r + 1, p => pass F n (rds F n r p)
/-- The part of i. -/
def comp (F : Nat → Nat) (n i : Nat) : Nat := rds F n n (2 ^ i)
theorem pass_up (m p j : Nat) (h : p.testBit j = true) : (pass F m p).testBit j = true := by
  induction m with
  | zero => exact h
  | succ m ih =>
    rw [pass]
    split
    · rw [Nat.testBit_or, ih]; rfl
    · exact ih
theorem pass_more (m d p j : Nat) (h : (pass F m p).testBit j = true) : (pass F (m + d) p).testBit j = true := by
  induction d with
  | zero => exact h
  | succ d ih =>
    rw [← Nat.add_assoc, pass]
    split
    · rw [Nat.testBit_or, ih]; rfl
    · exact ih
theorem pass_in {S : Nat → Prop} (hS : Clo F n S) (hF : ∀ i, i < n → ∀ j, (F i).testBit j = true → j < n) (m p : Nat) (hm : m ≤ n) (h : ∀ j, p.testBit j = true → S j) : ∀ j, (pass F m p).testBit j = true → S j := by
  induction m with
  | zero => exact h
  | succ m ih =>
    intro j hj
    have ih := ih (by omega)
    rw [pass] at hj
    split at hj
    · rename_i hb
      rw [Nat.testBit_or, Bool.or_eq_true] at hj
      rcases hj with hj | hj
      · exact ih j hj
      · exact hS m j (by omega) (hF m (by omega) j hj) hj (ih m hb)
    · exact ih j hj
theorem pass_fix (h : pass F n p = p) : Clo F n (fun i => p.testBit i = true) := by
  intro i j hi hj hF hp
  have h1 := pass_up (F := F) i p i hp
  have h2 : (pass F (i + 1) p).testBit j = true := by
    rw [pass, if_pos h1, Nat.testBit_or, hF]; simp
  have h3 := pass_more (i + 1) (n - (i + 1)) p j h2
  rw [show i + 1 + (n - (i + 1)) = n by omega, h] at h3
  exact h3
/-- How many bits below k. -/
def nb (p : Nat) : Nat → Nat
  | 0 => 0
  | k + 1 => nb p k + (p.testBit k).toNat
theorem nb_le (p k : Nat) : nb p k ≤ k := by
  induction k with
  | zero => exact Nat.le_refl _
  | succ k ih => rw [nb]; cases p.testBit k <;> simp <;> omega
theorem nb_mono (h : ∀ j, p.testBit j = true → q.testBit j = true) (k : Nat) : nb p k ≤ nb q k := by
  induction k with
  | zero => exact Nat.le_refl _
  | succ k ih =>
    rw [nb, nb]
    have := h k
    cases hp : p.testBit k
    · simp; omega
    · rw [this hp]; simp; omega
theorem nb_lt (h : ∀ j, p.testBit j = true → q.testBit j = true) {i : Nat} (hq : q.testBit i = true) (hp : p.testBit i = false) (k : Nat) (hi : i < k) : nb p k < nb q k := by
  induction k with
  | zero => omega
  | succ k ih =>
    rw [nb, nb]
    by_cases e : i = k
    · subst e
      rw [hp, hq]
      have := nb_mono h i
      simp; omega
    · have h1 := ih (by omega)
      have := h k
      cases hp : p.testBit k
      · simp; omega
      · rw [this hp]; simp; omega
theorem nb_pos {i : Nat} (h : p.testBit i = true) (k : Nat) (hi : i < k) : 1 ≤ nb p k := by
  have := nb_lt (p := 0) (q := p) (fun j hj => by simp at hj) h (by simp) k hi
  omega
theorem nb_eq (h : ∀ i, i < k → p.testBit i = q.testBit i) : nb p k = nb q k := by
  induction k with
  | zero => rfl
  | succ k ih => rw [nb, nb, ih (fun i hi => h i (by omega)), h k (by omega)]
theorem rds_up (r p j : Nat) (h : p.testBit j = true) : (rds F n r p).testBit j = true := by
  induction r with
  | zero => exact h
  | succ r ih => rw [rds]; exact pass_up _ _ _ ih
theorem rds_in {S : Nat → Prop} (hS : Clo F n S) (hF : ∀ i, i < n → ∀ j, (F i).testBit j = true → j < n) (r p : Nat) (h : ∀ j, p.testBit j = true → S j) : ∀ j, (rds F n r p).testBit j = true → S j := by
  induction r with
  | zero => exact h
  | succ r ih => rw [rds]; exact pass_in hS hF n _ (Nat.le_refl _) ih
theorem rds_count (hF : ∀ i, i < n → ∀ j, (F i).testBit j = true → j < n) {i : Nat} (hi : i < n) (r : Nat) : pass F n (rds F n r (2 ^ i)) = rds F n r (2 ^ i) ∨ r + 1 ≤ nb (rds F n r (2 ^ i)) n := by
  have h2 : (2 ^ i).testBit i = true := by simp
  induction r with
  | zero => exact .inr (nb_pos h2 n hi)
  | succ r ih =>
    rcases ih with h | h
    · left
      rw [rds, h, h]
    · by_cases he : pass F n (rds F n r (2 ^ i)) = rds F n r (2 ^ i)
      · left
        rw [rds, he, he]
      · right
        rw [rds]
        have hu : ∀ j, (rds F n r (2 ^ i)).testBit j = true → (pass F n (rds F n r (2 ^ i))).testBit j = true := fun j => pass_up n _ j
        have hex : ∃ j, (pass F n (rds F n r (2 ^ i))).testBit j = true ∧ (rds F n r (2 ^ i)).testBit j = false := by
          apply Classical.byContradiction
          intro hno
          apply he
          apply Nat.eq_of_testBit_eq
          intro j
          rw [Bool.eq_iff_iff]
          refine ⟨fun hj => ?_, hu j⟩
          cases hb : (rds F n r (2 ^ i)).testBit j
          · exact absurd ⟨j, hj, hb⟩ hno
          · rfl
        obtain ⟨j, hj1, hj2⟩ := hex
        have hjn : j < n := pass_in (S := fun j => j < n) (fun _ j _ hj _ _ => hj) hF n _ (Nat.le_refl _)
          (rds_in (S := fun j => j < n) (fun _ j _ hj _ _ => hj) hF r _ (fun j hj => by rw [Nat.testBit_two_pow] at hj; simp at hj; omega)) j hj1
        have := nb_lt hu hj1 hj2 n hjn
        omega
/-- Neighbours are below n and on both sides. -/
structure Sym (F : Nat → Nat) (n : Nat) : Prop where
  lt : ∀ i, i < n → ∀ j, (F i).testBit j = true → j < n
  sym : ∀ i j, i < n → j < n → (F i).testBit j = true → (F j).testBit i = true
theorem Clo.neg {S : Nat → Prop} (hF : Sym F n) (h : Clo F n S) : Clo F n (fun i => ¬ S i) := fun i j hi hj hb hn hs => hn (h j i hj hi (hF.sym i j hi hj hb) hs)
theorem comp_self (F : Nat → Nat) (n i : Nat) : (comp F n i).testBit i = true := rds_up _ _ _ (by simp)
theorem comp_part (hF : Sym F n) {i : Nat} (hi : i < n) : IsPart F n (comp F n i) := by
  have hfix : pass F n (comp F n i) = comp F n i := by
    rcases rds_count hF.lt hi n with h | h
    · exact h
    · have := nb_le (rds F n n (2 ^ i)) n
      omega
  have hin : ∀ S : Nat → Prop, Clo F n S → S i → ∀ j, (comp F n i).testBit j = true → S j := fun S hS hi => rds_in hS hF.lt n _ (fun j hj => by rw [Nat.testBit_two_pow] at hj; simp at hj; exact hj ▸ hi)
  refine ⟨⟨i, comp_self F n i⟩, hin (fun j => j < n) (fun _ j _ hj _ _ => hj) hi, pass_fix hfix, fun S hS j hj hSj => ?_⟩
  by_cases hSi : S i
  · exact hin S hS hSi
  · exact absurd hSj (hin _ (hS.neg hF) hSi j hj)
theorem IsPart.comp (hF : Sym F n) (hp : IsPart F n p) {i : Nat} (h : p.testBit i = true) : p = comp F n i :=
  hp.eq (comp_part hF (hp.lt i h)) i h (comp_self F n i)
theorem comp_mem (hF : Sym F n) {i j : Nat} (hi : i < n) (h : (comp F n i).testBit j = true) : comp F n i = comp F n j := (comp_part hF hi).comp hF h

/-! ### the least buttons of the parts -/
/-- Is i the least of its part? -/
def root (F : Nat → Nat) (n i : Nat) : Bool := decide (low (comp F n i) = i)
def roots (F : Nat → Nat) (n : Nat) (k : Nat) : List Nat := (List.range k).filter (root F n)
theorem root_iff (hF : Sym F n) (hn : n ≤ 16) {i : Nat} (hi : i < n) : root F n i = true ↔ ∀ j, j < i → (comp F n i).testBit j = false := by
  have hp := comp_part hF hi
  simp only [root, decide_eq_true_eq]
  constructor
  · intro e j hj
    exact (low_bit hp.ne (hp.lt16 hn)).2 j (by omega)
  · intro h
    exact low_eq (hp.lt16 hn) (comp_self F n i) h
theorem root_low (hF : Sym F n) (hn : n ≤ 16) (hp : IsPart F n p) : root F n (low p) = true ∧ comp F n (low p) = p := by
  have h1 := hp.comp hF (hp.low hn)
  exact ⟨by simp only [root, decide_eq_true_eq]; rw [← h1], h1.symm⟩
theorem roots_succ (F : Nat → Nat) (n k : Nat) : roots F n (k + 1) = roots F n k ++ (if root F n k = true then [k] else []) := by
  unfold roots
  rw [List.range_succ, List.filter_append]
  congr 1
  cases h : root F n k <;> simp [h]
theorem roots_mem {i m : Nat} : i ∈ roots F n m ↔ i < m ∧ root F n i = true := by simp [roots]

/-! ### one more button -/
/-- Edges among the first k go both ways. -/
def Both (F : Nat → Nat) (k : Nat) : Prop := ∀ i j, i < k → j < k → (F i).testBit j = true → (F j).testBit i = true
theorem Sym.both (h : Sym F n) (hk : k ≤ n) : Both F k := fun i j hi hj => h.sym i j (by omega) (by omega)
theorem Clo.less {S : Nat → Prop} (h : Clo F (k + 1) S) : Clo F k S := fun i j hi hj => h i j (by omega) (by omega)
/-- Has the button k a neighbour in p? -/
def Meets (F : Nat → Nat) (k p : Nat) : Prop := ∃ i, i < k ∧ (F k).testBit i = true ∧ p.testBit i = true
def Cov (F : Nat → Nat) (k : Nat) : Prop := ∀ i, i < k → ∃ p, IsPart F k p ∧ p.testBit i = true
/-- J is k and all parts that k has neighbours in. -/
def Joined (F : Nat → Nat) (k J : Nat) : Prop := ∀ j, J.testBit j = true ↔ j = k ∨ ∃ p, IsPart F k p ∧ Meets F k p ∧ p.testBit j = true
theorem part_join (hF : Both F (k + 1)) (hc : Cov F k) {J : Nat} (hJ : Joined F k J) : IsPart F (k + 1) J := by
  refine ⟨⟨k, (hJ k).2 (.inl rfl)⟩, fun i hi => ?_, fun i j hi hj hb h => ?_, fun S hS => ?_⟩
  · rcases (hJ i).1 hi with rfl | ⟨p, hp, _, hi⟩
    · omega
    · have := hp.lt i hi; omega
  · by_cases ej : j = k
    · exact (hJ j).2 (.inl ej)
    · obtain ⟨p, hp, hpj⟩ := hc j (by omega)
      rcases (hJ i).1 h with rfl | ⟨p', hp', hm, hi'⟩
      · exact (hJ j).2 (.inr ⟨p, hp, ⟨j, by omega, hb, hpj⟩, hpj⟩)
      · exact (hJ j).2 (.inr ⟨p', hp', hm, hp'.clo i j (hp'.lt i hi') (by omega) hb hi'⟩)
  · have hk : S k → ∀ j, J.testBit j = true → S j := by
      intro hk j hj
      rcases (hJ j).1 hj with rfl | ⟨p, hp, ⟨i, hi, hb, hpi⟩, hj⟩
      · exact hk
      · exact hp.least S hS.less i hpi (hS k i (by omega) (by omega) hb hk) j hj
    intro i hi hSi
    rcases (hJ i).1 hi with rfl | ⟨p, hp, ⟨m, hm, hb, hpm⟩, hi⟩
    · exact hk hSi
    · refine hk (hS m k (by omega) (by omega) (hF k m (by omega) (by omega) hb) (hp.least S hS.less i hi hSi m hpm))
theorem part_stay (hF : Both F (k + 1)) (hp : IsPart F k p) (hm : ¬ Meets F k p) : IsPart F (k + 1) p := by
  refine ⟨hp.any, fun i hi => by have := hp.lt i hi; omega, fun i j hi hj hb h => ?_, fun S hS => hp.least S hS.less⟩
  have hik := hp.lt i h
  by_cases ej : j = k
  · subst ej
    exact absurd ⟨i, hik, hF i j (by omega) (by omega) hb, h⟩ hm
  · exact hp.clo i j hik (by omega) hb h
theorem cov_step (hF : Both F (k + 1)) (hc : Cov F k) {J : Nat} (hJ : Joined F k J) : Cov F (k + 1) := by
  intro i hi
  by_cases e : i = k
  · exact ⟨J, part_join hF hc hJ, (hJ i).2 (.inl e)⟩
  · obtain ⟨p, hp, hpi⟩ := hc i (by omega)
    by_cases hm : Meets F k p
    · exact ⟨J, part_join hF hc hJ, (hJ i).2 (.inr ⟨p, hp, hm, hpi⟩)⟩
    · exact ⟨p, part_stay hF hp hm, hpi⟩
theorem part_split (hF : Both F (k + 1)) (hc : Cov F k) {J : Nat} (hJ : Joined F k J) (hq : IsPart F (k + 1) q) : q = J ∨ (IsPart F k q ∧ ¬ Meets F k q) := by
  obtain ⟨i, hi⟩ := hq.any
  have hik := hq.lt i hi
  have hj := part_join hF hc hJ
  by_cases e : i = k
  · exact .inl (hq.eq hj i hi ((hJ i).2 (.inl e)))
  · obtain ⟨p, hp, hpi⟩ := hc i (by omega)
    by_cases hm : Meets F k p
    · exact .inl (hq.eq hj i hi ((hJ i).2 (.inr ⟨p, hp, hm, hpi⟩)))
    · have := hq.eq (part_stay hF hp hm) i hi hpi
      subst this
      exact .inr ⟨hp, hm⟩
theorem cov_zero (F : Nat → Nat) : Cov F 0 := fun i hi => absurd hi (by omega)
theorem no_part (hp : IsPart F 0 p) : False := by
  obtain ⟨i, hi⟩ := hp.any
  have := hp.lt i hi
  omega
/-- The joined part is known by its least button: no other part has the same. -/
theorem low_ne (hF : Both F (k + 1)) (hc : Cov F k) {J : Nat} (hJ : Joined F k J) (hk : k < 16) (hp : IsPart F k p) (hm : ¬ Meets F k p) : low p ≠ low J := by
  intro e
  have h1 := part_join hF hc hJ
  have h2 := part_stay hF hp hm
  have h3 := h2.of_low h1 (by omega) e
  have h4 := (hJ k).2 (.inl rfl)
  rw [← h3] at h4
  have := hp.lt k h4
  omega
end
end Go.Proofs.YtmcimfblhpflnaaDoor
