/-
All even splits in order: those that the bases tell are those that are found by looking at every set. Plain arithmetic.
-/
import Derived.Test.YtcpbbpgiicakcaaWS
namespace Go.Proofs.Ytcpbbpgiicakcaa
theorem popN_top (k : Nat) : ∀ x, popN (k + 1) x = popN k x + (x.testBit k).toNat := by
  induction k with
  | zero => intro x; simp only [popN, Nat.testBit_zero, Nat.add_zero, Nat.zero_add]; have : x % 2 = 0 ∨ x % 2 = 1 := by omega
            rcases this with e | e <;> simp [e]
  | succ k ih =>
    intro x
    rw [popN, ih (x / 2)]
    have : (x / 2).testBit k = x.testBit (k + 1) := by rw [Nat.testBit_succ]
    rw [this, popN]
    omega
theorem dot_pop (k a b : Nat) : dot k a b = decide (popN k (a &&& b) % 2 = 1) := by
  induction k with
  | zero => simp [dot, popN]
  | succ k ih =>
    rw [dot, ih, popN_top, Nat.testBit_and]
    have h : popN k (a &&& b) % 2 = 0 ∨ popN k (a &&& b) % 2 = 1 := by omega
    cases a.testBit k <;> cases b.testBit k <;> rcases h with e | e <;> simp [e] <;> omega
theorem dot_ext {n : Nat} {a : Nat} (ha : a < 2 ^ n) (b : Nat) : ∀ k, n ≤ k → dot k a b = dot n a b
  | 0, h => by have : n = 0 := by omega
               subst this; rfl
  | k + 1, h => by
    by_cases e : n = k + 1
    · subst e; rfl
    · rw [dot, dot_ext ha b k (by omega), Nat.testBit_lt_two_pow (Nat.lt_of_lt_of_le ha (Nat.pow_le_pow_right (by decide) (by omega)))]
      simp
theorem and_full {n a : Nat} (ha : a < 2 ^ n) : a &&& (2 ^ n - 1) = a := by
  apply Nat.eq_of_testBit_eq
  intro j
  rw [Nat.testBit_and, Nat.testBit_two_pow_sub_one]
  by_cases h : j < n
  · simp [h]
  · rw [Nat.testBit_lt_two_pow (Nat.lt_of_lt_of_le ha (Nat.pow_le_pow_right (by decide) (by omega)))]; rfl
theorem dot_full {n a : Nat} (hn : n ≤ 16) (ha : a < 2 ^ n) : dot n a (2 ^ n - 1) = decide (popN 16 a % 2 = 1) := by
  rw [← dot_ext ha _ 16 hn, dot_pop, and_full ha]
theorem spT_dot {n : Nat} {F : Nat → Nat} {d : Nat} (hG : goodB n (nv F) = true) (x : Nat) {j : Nat} (hj : j < n) : dot n x (spT F d j) = (dot n (F j) x ^^ (d.testBit j && x.testBit j)) := by
  have e : spT F d j = F j ^^^ (if d.testBit j then 2 ^ j else 0) := by
    rw [spT_eq]
    cases hd : d.testBit j
    · simp
    · simp only [if_true]
      apply Nat.eq_of_testBit_eq
      intro i
      rw [Nat.testBit_or, Nat.testBit_xor, Nat.testBit_two_pow]
      by_cases h : j = i
      · subst h; rw [(good_bits hG hj hj).2]; simp
      · simp [h]
  rw [e, dot_comm, dot_xor]
  cases hd : d.testBit j
  · simp [dot_zero]
  · simp [dot_pow, hj]
theorem split_iff {n : Nat} {F : Nat → Nat} (hn : n ≤ 16) (hF : ∀ j, j < n → F j < 2 ^ n) (hG : goodB n (nv F) = true) {x : Nat} (hx : x < 2 ^ n) :
    effN (spT F (oddN F n)) x n = oddN F n ↔ (evB F x n = true ∧ evB F (x ^^^ (2 ^ n - 1)) n = true) := by
  obtain ⟨hsy, hdi⟩ := spT_sym hF (oddN_lt F n hn) hG
  have h1 : effN (spT F (oddN F n)) x n = oddN F n ↔ ∀ j, j < n → dot n x (spT F (oddN F n) j) = (oddN F n).testBit j := by
    constructor
    · intro h j hj; rw [← eff_bit hsy x hj n (Nat.le_refl _), h]
    · intro h
      apply Nat.eq_of_testBit_eq
      intro j
      by_cases hj : j < n
      · rw [eff_bit hsy x hj n (Nat.le_refl _)]; exact h j hj
      · rw [Nat.testBit_lt_two_pow (Nat.lt_of_lt_of_le (effN_lt hsy.1 x n (Nat.le_refl _)) (Nat.pow_le_pow_right (by decide) (by omega))),
          Nat.testBit_lt_two_pow (Nat.lt_of_lt_of_le hdi.1 (Nat.pow_le_pow_right (by decide) (by omega)))]
  have hev : ∀ s, s < 2 ^ n → (evB F s n = true ↔ ∀ j, j < n → s.testBit j = true → dot n (F j) s = false) := fun s hs => by
    rw [evB_iff]
    refine forall_congr' fun j => ?_
    constructor
    · intro h hj hb
      have := h hj hb
      rw [← dot_ext (hF j hj) s 16 hn, dot_pop]
      simp [this]
    · intro h hj hb
      have := h hj hb
      rw [← dot_ext (hF j hj) s 16 hn, dot_pop, decide_eq_false_iff_not] at this
      omega
  have hfl := full_lt n
  rw [h1, hev x hx, hev _ (Nat.xor_lt_two_pow hx hfl), ← forall_and]
  refine forall_congr' fun j => ?_
  constructor
  · intro h
    refine ⟨fun hj hb => ?_, fun hj hb => ?_⟩
    · have := h hj
      rw [spT_dot hG x hj, hb] at this
      revert this; cases dot n (F j) x <;> cases (oddN F n).testBit j <;> simp
    · have := h hj
      rw [Nat.testBit_xor, Nat.testBit_two_pow_sub_one] at hb
      have hxj : x.testBit j = false := by revert hb; simp [hj]
      rw [spT_dot hG x hj, hxj, oddN_bit] at this
      rw [dot_comm, dot_xor, dot_comm n x, dot_comm n _ (F j), dot_full hn (hF j hj)]
      simp only [hj, decide_true, Bool.true_and, Bool.and_false, Bool.xor_false] at this
      rw [this]; simp
  · rintro ⟨ha, hb⟩ hj
    rw [spT_dot hG x hj]
    cases hxj : x.testBit j
    · have := hb hj (by rw [Nat.testBit_xor, Nat.testBit_two_pow_sub_one, hxj]; simp [hj])
      rw [dot_comm, dot_xor, dot_comm n x, dot_comm n _ (F j), dot_full hn (hF j hj)] at this
      rw [oddN_bit]
      simp only [hj, decide_true, Bool.true_and, Bool.and_false, Bool.xor_false]
      revert this; cases dot n (F j) x <;> cases decide (popN 16 (F j) % 2 = 1) <;> simp
    · rw [ha hj hxj]; cases (oddN F n).testBit j <;> rfl
theorem quiet_iff {n : Nat} {T : Nat → Nat} {s : Nat} (hs : s < 2 ^ n) : lin (qS T n n).1 s = 0 ↔ effN T s n = 0 := by
  have HI := inv_at T n n (Nat.le_refl _)
  have hR : lin (qS T n n).2 s = s := lin_of_clean fun b hb => Nat.testBit_lt_two_pow (Nat.lt_of_lt_of_le hs (Nat.pow_le_pow_right (by decide) ((Nat.le_log2 (HI.br.1 b hb)).2 (HI.up b hb))))
  have hP : lin (pS T n n) s = lin (qS T n n).1 s := by rw [← HI.par s, hR]
  rw [← hP]
  constructor
  · intro h
    have e : cor (pS T n n) s = s := (eq_iff_xor.2 (by unfold lin at h; exact h)).symm
    obtain ⟨y, hy, hc⟩ := Pairs.cor (pS_pairs (T := T) n (Nat.le_refl _)) s
    rw [e] at hc
    have h2 := gr_shr (T := T) hy
    rw [← hc, shr_eq_zero.2 hs] at h2
    have : s = y := by rw [hc, gr, ← h2]; simp
    rw [this]; exact h2.symm
  · intro h
    have := pS_all (T := T) n (Nat.le_refl _) s hs
    rw [gr, h] at this
    simpa using this
theorem split_list {n : Nat} {F : Nat → Nat} (hn : n ≤ 16) (hF : ∀ j, j < n → F j < 2 ^ n) (hG : goodB n (nv F) = true) :
    (sums (qS (spT F (oddN F n)) n n).1).map (fun s => s ^^^ solV (spT F (oddN F n)) n (oddN F n)) = (List.range (2 ^ n)).filter (fun x => evB F x n && evB F (x ^^^ (2 ^ n - 1)) n) := by
  have hd := oddN_lt F n hn
  obtain ⟨hsy, hdi⟩ := spT_sym hF hd hG
  have hy := (sys_all hsy hdi).1
  obtain ⟨v1, v2, _⟩ := sol_least hd hy
  generalize hT : spT F (oddN F n) = T at *
  generalize hv : solV T n (oddN F n) = v at *
  have HI := inv_at T n n (Nat.le_refl _)
  obtain ⟨H, hP, _, _⟩ := HI.H
  have hcl : Cl (qS T n n).1 v := fun b hb => by
    have hz : lin (pS T n n) (oddN F n <<< n) >>> n = 0 := by simpa [solB] using hy
    have e : v = lin (pS T n n) (oddN F n <<< n) := by rw [← hv]; unfold solV; rw [if_pos hz]
    rw [e]
    exact lin_clean HI.bp _ b (by rw [hP]; simp [hb])
  have hlow : ∀ s ∈ sums (qS T n n).1, s < 2 ^ n := sums_lt HI.low
  apply rise_eq
  · rw [List.pairwise_map]; exact sums_rise HI.bq v hcl
  · exact List.Pairwise.filter _ List.pairwise_lt_range
  · intro x
    rw [List.mem_map, List.mem_filter, List.mem_range]
    have key : ∀ x, x < 2 ^ n → (effN T x n = oddN F n ↔ (evB F x n && evB F (x ^^^ (2 ^ n - 1)) n) = true) := fun x hx => by
      have := split_iff hn hF hG hx
      rw [hT] at this
      rw [this, Bool.and_eq_true]
    constructor
    · rintro ⟨s, hs, rfl⟩
      have hsl := hlow s hs
      have hx := Nat.xor_lt_two_pow hsl v1
      refine ⟨hx, (key _ hx).1 ?_⟩
      rw [effN_xor, (quiet_iff hsl).1 (sums_lin HI.bq s hs), v2, Nat.zero_xor]
    · rintro ⟨hx, he⟩
      have h2 := (key x hx).2 he
      refine ⟨x ^^^ v, sums_mem ((quiet_iff (Nat.xor_lt_two_pow hx v1)).2 ?_), xx x v⟩
      rw [effN_xor, h2, v2, Nat.xor_self]
end Go.Proofs.Ytcpbbpgiicakcaa
