/-
Even cuts: the sets whose cut is even are the quiet ones of a symmetric table. Plain arithmetic.
-/
import Derived.Test.YtmcimfblhpflnaaDoorWF
import Derived.Test.YtmcimfblhpflnaaDoorGK
namespace Go.Proofs.YtmcimfblhpflnaaDoor
theorem and_pow (d i : Nat) : d &&& 2 ^ i = if d.testBit i then 2 ^ i else 0 := by
  apply Nat.eq_of_testBit_eq
  intro j
  rw [Nat.testBit_and, Nat.testBit_two_pow]
  by_cases h : i = j
  · subst h; cases hb : d.testBit i <;> simp
  · cases hb : d.testBit i <;> simp [h]
theorem spT_eq (F : Nat → Nat) (d i : Nat) : spT F d i = if d.testBit i then F i ||| 2 ^ i else F i := by
  unfold spT; rw [and_pow]; cases d.testBit i <;> simp
theorem good_bits {n : Nat} {F : Nat → Nat} (hG : goodB n (nv F) = true) {i j : Nat} (hi : i < n) (hj : j < n) : (F i).testBit j = (F j).testBit i ∧ (F i).testBit i = false := by
  obtain ⟨_, _, _, h⟩ := goodB_iff.1 hG
  have e : ∀ a b, a < n → b < n → (F a).testBit b = true → a ≠ b ∧ (F b).testBit a = true := fun a b ha hb hab => by
    have := h a ha b hb (by simpa [nv, bt_nat] using hab)
    simpa [nv, bt_nat] using this
  constructor
  · cases h1 : (F i).testBit j <;> cases h2 : (F j).testBit i
    · rfl
    · have := (e j i hj hi h2).2; rw [h1] at this; cases this
    · have := (e i j hi hj h1).2; rw [h2] at this; cases this
    · rfl
  · cases h1 : (F i).testBit i
    · rfl
    · exact absurd rfl (e i i hi hi h1).1
theorem spT_sym {n : Nat} {F : Nat → Nat} {d : Nat} (hF : ∀ j, j < n → F j < 2 ^ n) (hd : d < 2 ^ n) (hG : goodB n (nv F) = true) : SymT n (spT F d) ∧ Diag n (spT F d) d := by
  have hb : ∀ i j, (spT F d i).testBit j = ((F i).testBit j || (d.testBit i && decide (i = j))) := fun i j => by
    rw [spT_eq]
    cases h : d.testBit i
    · simp
    · simp [Nat.testBit_two_pow]
  refine ⟨⟨spT_lt hF hd, fun i j hi hj => ?_⟩, hd, fun i hi => ?_⟩
  · rw [hb, hb, (good_bits hG hi hj).1]
    by_cases e : i = j
    · subst e; rfl
    · simp [e, show ¬ j = i from fun h => e h.symm]
  · rw [hb, (good_bits hG hi hi).2]; simp
theorem popN_top (k : Nat) : ∀ x, popN (k + 1) x = popN k x + (x.testBit k).toNat := by
  induction k with
  | zero => intro x; simp only [popN, Nat.testBit_zero, Nat.add_zero, Nat.zero_add]; have : x % 2 = 0 ∨ x % 2 = 1 := by omega
            rcases this with e | e <;> simp [e]
  | succ k ih =>
    intro x
    rw [popN, ih (x / 2)]
    have : (x / 2).testBit k = x.testBit (k + 1) := by rw [Nat.testBit_succ]
    rw [this, popN]
    omega
theorem dot_pop (k a b : Nat) : dot k a b = decide (popN k (a &&& b) % 2 = 1) := by
  induction k with
  | zero => simp [dot, popN]
  | succ k ih =>
    rw [dot, ih, popN_top, Nat.testBit_and]
    have h : popN k (a &&& b) % 2 = 0 ∨ popN k (a &&& b) % 2 = 1 := by omega
    cases a.testBit k <;> cases b.testBit k <;> rcases h with e | e <;> simp [e] <;> omega
theorem dot_ext {n : Nat} {a : Nat} (ha : a < 2 ^ n) (b : Nat) : ∀ k, n ≤ k → dot k a b = dot n a b
  | 0, h => by have : n = 0 := by omega
               subst this; rfl
  | k + 1, h => by
    by_cases e : n = k + 1
    · subst e; rfl
    · rw [dot, dot_ext ha b k (by omega), Nat.testBit_lt_two_pow (Nat.lt_of_lt_of_le ha (Nat.pow_le_pow_right (by decide) (by omega)))]
      simp
theorem and_full {n a : Nat} (ha : a < 2 ^ n) : a &&& (2 ^ n - 1) = a := by
  apply Nat.eq_of_testBit_eq
  intro j
  rw [Nat.testBit_and, Nat.testBit_two_pow_sub_one]
  by_cases h : j < n
  · simp [h]
  · rw [Nat.testBit_lt_two_pow (Nat.lt_of_lt_of_le ha (Nat.pow_le_pow_right (by decide) (by omega)))]; rfl
theorem dot_full {n a : Nat} (hn : n ≤ 16) (ha : a < 2 ^ n) : dot n a (2 ^ n - 1) = decide (popN 16 a % 2 = 1) := by
  rw [← dot_ext ha _ 16 hn, dot_pop, and_full ha]
theorem spT_dot {n : Nat} {F : Nat → Nat} {d : Nat} (hG : goodB n (nv F) = true) (x : Nat) {j : Nat} (hj : j < n) : dot n x (spT F d j) = (dot n (F j) x ^^ (d.testBit j && x.testBit j)) := by
  have e : spT F d j = F j ^^^ (if d.testBit j then 2 ^ j else 0) := by
    rw [spT_eq]
    cases hd : d.testBit j
    · simp
    · simp only [if_true]
      apply Nat.eq_of_testBit_eq
      intro i
      rw [Nat.testBit_or, Nat.testBit_xor, Nat.testBit_two_pow]
      by_cases h : j = i
      · subst h; rw [(good_bits hG hj hj).2]; simp
      · simp [h]
  rw [e, dot_comm, dot_xor]
  cases hd : d.testBit j
  · simp [dot_zero]
  · simp [dot_pow, hj]
theorem quiet_iff {n : Nat} {T : Nat → Nat} {s : Nat} (hs : s < 2 ^ n) : lin (qS T n n).1 s = 0 ↔ effN T s n = 0 := by
  have HI := inv_at T n n (Nat.le_refl _)
  have hR : lin (qS T n n).2 s = s := lin_of_clean fun b hb => Nat.testBit_lt_two_pow (Nat.lt_of_lt_of_le hs (Nat.pow_le_pow_right (by decide) ((Nat.le_log2 (HI.br.1 b hb)).2 (HI.up b hb))))
  have hP : lin (pS T n n) s = lin (qS T n n).1 s := by rw [← HI.par s, hR]
  rw [← hP]
  constructor
  · intro h
    have e : cor (pS T n n) s = s := (eq_iff_xor.2 (by unfold lin at h; exact h)).symm
    obtain ⟨y, hy, hc⟩ := Pairs.cor (pS_pairs (T := T) n (Nat.le_refl _)) s
    rw [e] at hc
    have h2 := gr_shr (T := T) hy
    rw [← hc, shr_eq_zero.2 hs] at h2
    have : s = y := by rw [hc, gr, ← h2]; simp
    rw [this]; exact h2.symm
  · intro h
    have := pS_all (T := T) n (Nat.le_refl _) s hs
    rw [gr, h] at this
    simpa using this
/-- Is f true an odd number of times below k? -/
def xr (f : Nat → Bool) : Nat → Bool
  | 0 => false
  | k + 1 => xr f k ^^ f k
theorem xr_congr {f g : Nat → Bool} : ∀ k, (∀ i, i < k → f i = g i) → xr f k = xr g k
  | 0, _ => rfl
  | k + 1, h => by rw [xr, xr, xr_congr k fun i hi => h i (by omega), h k (by omega)]
theorem xr_xor (f g : Nat → Bool) : ∀ k, xr (fun i => f i ^^ g i) k = (xr f k ^^ xr g k)
  | 0 => rfl
  | k + 1 => by
    simp only [xr]
    rw [xr_xor f g k]
    cases xr f k <;> cases xr g k <;> cases f k <;> cases g k <;> rfl
theorem xr_false : ∀ k, xr (fun _ => false) k = false
  | 0 => rfl
  | k + 1 => by simp [xr, xr_false k]
theorem xr_one (v : Nat) (b : Bool) : ∀ k, xr (fun i => decide (i = v) && b) k = (decide (v < k) && b)
  | 0 => by simp [xr]
  | k + 1 => by
    rw [xr, xr_one v b k]
    by_cases h1 : k = v
    · subst h1; simp
    · by_cases h2 : v < k
      · have h3 : v < k + 1 := by omega
        simp [h1, h2, h3]
      · have h3 : ¬ v < k + 1 := by omega
        simp [h1, h2, h3]
theorem xr_dot (a b : Nat) : ∀ k, xr (fun i => a.testBit i && b.testBit i) k = dot k a b
  | 0 => rfl
  | k + 1 => by rw [xr, dot, xr_dot a b k]
/-- The buttons at which a list of edges has an odd number of them. -/
def paE : List (Nat × Nat) → Nat
  | [] => 0
  | e :: r => (2 ^ e.1 ||| 2 ^ e.2) ^^^ paE r
theorem paE_append (A B : List (Nat × Nat)) : paE (A ++ B) = paE A ^^^ paE B := by
  induction A with
  | nil => simp [paE]
  | cons a r ih => rw [List.cons_append, paE, paE, ih, Nat.xor_assoc]
def isCut (s : Nat) (e : Nat × Nat) : Bool := s.testBit e.1 != s.testBit e.2
theorem row_bit (F : Nat → Nat) (s i v : Nat) : ∀ j, (paE ((rowP F i j).filter (isCut s))).testBit v =
    if v = i then xr (fun k => decide (i < k) && ((F i).testBit k && (s.testBit i ^^ s.testBit k))) j else (decide (i < v) && (decide (v < j) && ((F i).testBit v && (s.testBit i ^^ s.testBit v))))
  | 0 => by simp [rowP, paE, xr]
  | j + 1 => by
    have ih := row_bit F s i v j
    rw [rowP]
    by_cases h : i < j ∧ (F i).testBit j = true
    · rw [if_pos h, List.filter_append, paE_append, Nat.testBit_xor, ih]
      obtain ⟨h1, h2⟩ := h
      have hone : (paE ([(i, j)].filter (isCut s))).testBit v = ((s.testBit i ^^ s.testBit j) && (decide (i = v) || decide (j = v))) := by
        rw [List.filter_cons]
        have hc : isCut s (i, j) = (s.testBit i ^^ s.testBit j) := by unfold isCut; cases s.testBit i <;> cases s.testBit j <;> rfl
        rw [hc]
        cases (s.testBit i ^^ s.testBit j)
        · simp [paE]
        · simp [paE, Nat.testBit_or, Nat.testBit_two_pow]
      rw [hone]
      by_cases hv : v = i
      · subst hv
        rw [if_pos rfl, if_pos rfl, xr]
        have e1 : decide (v < j) = true := decide_eq_true h1
        rw [e1, h2]
        simp
      · rw [if_neg hv, if_neg hv]
        by_cases hj : v = j
        · subst hj
          have e1 : decide (i < v) = true := decide_eq_true h1
          have e2 : decide (i = v) = false := decide_eq_false (by omega)
          simp [e1, e2, h2]
        · have e1 : decide (i = v) = false := decide_eq_false (by omega)
          have e2 : decide (j = v) = false := decide_eq_false (by omega)
          have e3 : decide (v < j + 1) = decide (v < j) := by rw [decide_eq_decide]; omega
          rw [e1, e2, e3]
          simp
    · rw [if_neg h, ih]
      by_cases hv : v = i
      · subst hv
        rw [if_pos rfl, if_pos rfl, xr]
        have e : (decide (v < j) && ((F v).testBit j && (s.testBit v ^^ s.testBit j))) = false := by
          by_cases h1 : v < j
          · have h2 : (F v).testBit j = false := by
              cases hb : (F v).testBit j
              · rfl
              · exact absurd ⟨h1, hb⟩ h
            simp [h2]
          · simp [h1]
        rw [e]; simp
      · rw [if_neg hv, if_neg hv]
        by_cases hj : v = j
        · subst hj
          by_cases h1 : i < v
          · have h2 : (F i).testBit v = false := by
              cases hb : (F i).testBit v
              · rfl
              · exact absurd ⟨h1, hb⟩ h
            simp [h2]
          · simp [h1]
        · have e3 : decide (v < j + 1) = decide (v < j) := by rw [decide_eq_decide]; omega
          rw [e3]
theorem all_bit (F : Nat → Nat) (s n v : Nat) : ∀ i, (paE ((allP F n i).filter (isCut s))).testBit v = xr (fun r => (paE ((rowP F r n).filter (isCut s))).testBit v) i
  | 0 => by simp [allP, paE, xr]
  | i + 1 => by rw [allP, List.filter_append, paE_append, Nat.testBit_xor, all_bit F s n v i, xr]
theorem cut_bit {n : Nat} {F : Nat → Nat} (hG : goodB n (nv F) = true) (hn : n ≤ 16) (hF : ∀ j, j < n → F j < 2 ^ n) (s : Nat) {v : Nat} (hv : v < n) :
    (paE ((allP F n n).filter (isCut s))).testBit v = dot n s (spT F (oddN F n) v) := by
  rw [all_bit]
  have e1 : xr (fun r => (paE ((rowP F r n).filter (isCut s))).testBit v) n =
      xr (fun r => (decide (r = v) && xr (fun k => decide (v < k) && ((F v).testBit k && (s.testBit v ^^ s.testBit k))) n) ^^ (decide (r < v) && ((F v).testBit r && (s.testBit v ^^ s.testBit r)))) n := by
    refine xr_congr n fun r hr => ?_
    rw [row_bit]
    by_cases h : v = r
    · subst h; simp
    · rw [if_neg h]
      have h2 : decide (r = v) = false := decide_eq_false (by omega)
      have h3 : decide (v < n) = true := decide_eq_true hv
      rw [h2, h3]
      have h4 : (F r).testBit v = (F v).testBit r := (good_bits hG hr hv).1
      rw [h4]
      cases s.testBit r <;> cases s.testBit v <;> simp
  rw [e1, xr_xor, xr_one, decide_eq_true hv, Bool.true_and, ← xr_xor]
  have e2 : xr (fun i => (decide (v < i) && ((F v).testBit i && (s.testBit v ^^ s.testBit i))) ^^ (decide (i < v) && ((F v).testBit i && (s.testBit v ^^ s.testBit i)))) n =
      xr (fun i => ((F v).testBit i && s.testBit i) ^^ (s.testBit v && ((F v).testBit i && (2 ^ n - 1).testBit i))) n := by
    refine xr_congr n fun i hi => ?_
    have h1 : (2 ^ n - 1).testBit i = true := by rw [Nat.testBit_two_pow_sub_one]; exact decide_eq_true hi
    rw [h1]
    by_cases h : i = v
    · subst h
      have e : decide (i < i) = false := decide_eq_false (by omega)
      rw [e]
      cases (F i).testBit i <;> cases s.testBit i <;> rfl
    · by_cases h2 : v < i
      · have e : decide (i < v) = false := decide_eq_false (by omega)
        rw [decide_eq_true h2, e]
        cases (F v).testBit i <;> cases s.testBit i <;> cases s.testBit v <;> rfl
      · have e : decide (i < v) = true := decide_eq_true (by omega)
        rw [decide_eq_false h2, e]
        cases (F v).testBit i <;> cases s.testBit i <;> cases s.testBit v <;> rfl
  rw [e2, xr_xor, xr_dot]
  have e3 : xr (fun i => s.testBit v && ((F v).testBit i && (2 ^ n - 1).testBit i)) n = (s.testBit v && dot n (F v) (2 ^ n - 1)) := by
    rw [← xr_dot]
    cases s.testBit v
    · simp only [Bool.false_and]; exact xr_false n
    · simp only [Bool.true_and]
  rw [e3, dot_full hn (hF v hv), spT_dot hG s hv, oddN_bit, decide_eq_true hv, Bool.true_and, Bool.and_comm]
theorem paE_lt {n : Nat} : ∀ {L : List (Nat × Nat)}, (∀ e ∈ L, e.1 < n ∧ e.2 < n) → paE L < 2 ^ n
  | [], _ => Nat.two_pow_pos n
  | e :: r, h => by
    have he := h e (by simp)
    exact Nat.xor_lt_two_pow (Nat.or_lt_two_pow (Nat.pow_lt_pow_right (by decide) he.1) (Nat.pow_lt_pow_right (by decide) he.2)) (paE_lt fun x hx => h x (List.mem_cons_of_mem _ hx))
theorem cut_eff {n : Nat} {F : Nat → Nat} (hG : goodB n (nv F) = true) (hn : n ≤ 16) (hF : ∀ j, j < n → F j < 2 ^ n) (s : Nat) :
    paE ((allP F n n).filter (isCut s)) = effN (spT F (oddN F n)) s n := by
  obtain ⟨hsy, _⟩ := spT_sym hF (oddN_lt F n hn) hG
  have h1 : paE ((allP F n n).filter (isCut s)) < 2 ^ n := paE_lt fun e he => by
    have := allP_mem F n n e (List.mem_filter.1 he).1
    omega
  have h2 : effN (spT F (oddN F n)) s n < 2 ^ n := effN_lt hsy.1 s n (Nat.le_refl _)
  apply Nat.eq_of_testBit_eq
  intro v
  by_cases hv : v < n
  · rw [cut_bit hG hn hF s hv, eff_bit hsy s hv n (Nat.le_refl _)]
  · have hp : 2 ^ n ≤ 2 ^ v := Nat.pow_le_pow_right (by decide) (by omega)
    rw [Nat.testBit_lt_two_pow (by omega), Nat.testBit_lt_two_pow (by omega)]
/-- How many sets below k have an even cut. -/
def evC (F : Nat → Nat) (n k : Nat) : Nat := ((List.range k).filter fun s => paE ((allP F n n).filter (isCut s)) == 0).length
theorem evC_succ (F : Nat → Nat) (n k : Nat) : evC F n (k + 1) = evC F n k + (if (paE ((allP F n n).filter (isCut k)) == 0) = true then 1 else 0) := by
  unfold evC
  rw [List.range_succ, List.filter_append, List.length_append, List.filter_cons]
  split <;> simp [*]
theorem sums_below {Q : List Nat} {m : Nat} (h : ∀ b ∈ Q, b < 2 ^ m) : ∀ s ∈ sums Q, s < 2 ^ m := by
  induction Q using snoc_ind with
  | h0 => intro s hs; simp [sums] at hs; rw [hs]; exact Nat.two_pow_pos m
  | h1 A a ih =>
    intro s hs
    rw [sums_snoc, List.mem_append, List.mem_map] at hs
    have hA := ih (fun b hb => h b (by simp [hb]))
    rcases hs with hs | ⟨t, ht, rfl⟩
    · exact hA s hs
    · exact Nat.xor_lt_two_pow (hA t ht) (h a (by simp))
theorem evC_all {n : Nat} {F : Nat → Nat} (hG : goodB n (nv F) = true) (hn : n ≤ 16) (hF : ∀ j, j < n → F j < 2 ^ n) : evC F n (2 ^ n) = 2 ^ (qS (spT F (oddN F n)) n n).1.length := by
  have HI := inv_at (spT F (oddN F n)) n n (Nat.le_refl _)
  have hlow : ∀ s ∈ sums (qS (spT F (oddN F n)) n n).1, s < 2 ^ n := fun s hs => by
    have := sums_below HI.low s hs
    exact this
  have e : sums (qS (spT F (oddN F n)) n n).1 = (List.range (2 ^ n)).filter fun s => paE ((allP F n n).filter (isCut s)) == 0 := by
    apply rise_eq
    · have := sums_rise HI.bq 0 (fun b hb => by simp)
      simpa using this
    · exact List.Pairwise.filter _ List.pairwise_lt_range
    · intro x
      rw [List.mem_filter, List.mem_range, cut_eff hG hn hF, beq_iff_eq]
      constructor
      · intro hs
        exact ⟨hlow x hs, (quiet_iff (hlow x hs)).1 (sums_lin HI.bq x hs)⟩
      · rintro ⟨hx, he⟩
        exact sums_mem ((quiet_iff hx).2 he)
  unfold evC
  rw [← e, sums_length]
end Go.Proofs.YtmcimfblhpflnaaDoor
