/-
The equations of a symmetric table whose diagonal is asked for: never refused, as many free buttons as quiet patterns, and the least solution is the one that the bases tell. Plain arithmetic.
-/
import Derived.Test.YtibikoajejfdeaaQA
namespace Go.Proofs.Ytibikoajejfdeaa
/-- The table is symmetric below n. -/
def SymT (n : Nat) (T : Nat → Nat) : Prop := (∀ i, i < n → T i < 2 ^ n) ∧ ∀ i j, i < n → j < n → (T i).testBit j = (T j).testBit i
/-- d is the table's diagonal. -/
def Diag (n : Nat) (T : Nat → Nat) (d : Nat) : Prop := d < 2 ^ n ∧ ∀ i, i < n → (T i).testBit i = d.testBit i
theorem eff_bit {n : Nat} {T : Nat → Nat} (h : SymT n T) (y : Nat) {j : Nat} (hj : j < n) : ∀ k, k ≤ n → (effN T y k).testBit j = dot k y (T j)
  | 0, _ => by simp [effN, dot]
  | k + 1, hk => by
    have ih := eff_bit h y hj k (by omega)
    simp only [effN, dot]
    cases hb : y.testBit k
    · simpa using ih
    · simp only [if_true, Nat.testBit_xor, ih, Bool.true_and]
      rw [h.2 k j (by omega) hj]
theorem quadr {n : Nat} {T : Nat → Nat} {d : Nat} (h : SymT n T) (hd : Diag n T d) (y : Nat) : ∀ k, k ≤ n → dot k y (effN T y k) = dot k y d
  | 0, _ => rfl
  | k + 1, hk => by
    have ih := quadr h hd y k (by omega)
    simp only [dot, effN]
    cases hb : y.testBit k
    · simpa using ih
    · simp only [if_true, Bool.true_and, Nat.testBit_xor]
      rw [dot_comm k y (effN T y k ^^^ T k), dot_xor, dot_comm k _ y, dot_comm k (T k) y, ih, eff_bit h y (by omega) k (by omega), hd.2 k (by omega)]
      cases dot k y d <;> cases dot k y (T k) <;> cases d.testBit k <;> rfl
def eqT (T : Nat → Nat) (d k : Nat) : Nat := eqn (T k) (d.testBit k)
def aS (T : Nat → Nat) (d : Nat) : Nat → List Nat
  | 0 => []
  | k + 1 => putA (aS T d k) (eqT T d k)
theorem aS_tri (T : Nat → Nat) (d : Nat) : ∀ k, Tri (aS T d k)
  | 0 => Tri.nil
  | k + 1 => putA_tri (aS_tri T d k) _
theorem eqT_lt {T : Nat → Nat} {d n k : Nat} (hT : T k < 2 ^ n) : eqT T d k < 2 ^ (n + 1) := by
  unfold eqT eqn; rw [Nat.pow_succ]; cases d.testBit k <;> simp <;> omega
theorem aS_lt {T : Nat → Nat} {d n : Nat} (hT : ∀ i, i < n → T i < 2 ^ n) : ∀ k, k ≤ n → ∀ a ∈ aS T d k, a < 2 ^ (n + 1)
  | 0, _ => by simp [aS]
  | k + 1, h => putA_lt (aS_lt hT k (by omega)) (eqT_lt (hT k (by omega)))
/-- Sums of the equations. -/
def Comb (n : Nat) (T : Nat → Nat) (d s : Nat) : Prop := ∃ y, s = eqn (effN T y n) (dot n y d)
theorem Comb.xor {n : Nat} {T : Nat → Nat} {d s t : Nat} (h : Comb n T d s) (h2 : Comb n T d t) : Comb n T d (s ^^^ t) := by
  obtain ⟨y, rfl⟩ := h
  obtain ⟨z, rfl⟩ := h2
  exact ⟨y ^^^ z, by rw [eqn_xor, effN_xor, dot_xor]⟩
theorem Comb.one {n : Nat} {T : Nat → Nat} {d k : Nat} (hk : k < n) : Comb n T d (eqT T d k) := ⟨2 ^ k, by rw [effN_bit, if_pos hk, dot_pow, eqT]; simp [hk]⟩
theorem Comb.rd {n : Nat} {T : Nat → Nat} {d : Nat} {A : List Nat} (hA : ∀ a ∈ A, Comb n T d a) : ∀ s, Comb n T d s → Comb n T d (rd A s) := by
  induction A with
  | nil => intro s hs; exact hs
  | cons a A ih =>
    intro s hs
    rw [rd_cons]
    refine ih (fun b hb => hA b (by simp [hb])) _ ?_
    rcases stp_or s a with e | e <;> rw [e]
    · exact hs
    · exact hs.xor (hA a (by simp))
theorem aS_comb {n : Nat} {T : Nat → Nat} {d : Nat} : ∀ k, k ≤ n → ∀ a ∈ aS T d k, Comb n T d a
  | 0, _ => by simp [aS]
  | k + 1, h => by
    have ih := aS_comb (n := n) (T := T) (d := d) k (by omega)
    intro a ha
    simp only [aS, putA] at ha
    split at ha
    · exact ih a ha
    · rcases List.mem_append.1 ha with e | e
      · exact ih a e
      · simp at e; subst e; exact Comb.rd ih _ (Comb.one (by omega))
/-- No equation is refused. -/
theorem aS_ok {n : Nat} {T : Nat → Nat} {d : Nat} (h : SymT n T) (hd : Diag n T d) {k : Nat} (hk : k < n) : rd (aS T d k) (eqT T d k) ≠ 1 := by
  intro e
  obtain ⟨y, hy⟩ := Comb.rd (aS_comb (T := T) (d := d) k (by omega)) _ (Comb.one hk)
  rw [e] at hy
  have h1 : effN T y n = 0 := by rw [← eqn_shr (effN T y n) (dot n y d), ← hy]; rfl
  have h2 : dot n y d = true := by rw [← eqn_low (effN T y n) (dot n y d), ← hy]; rfl
  rw [← quadr h hd y n (Nat.le_refl _), h1, dot_comm, dot_zero] at h2
  cases h2
theorem aS_sol {n : Nat} {T : Nat → Nat} {d : Nat} (h : SymT n T) (hd : Diag n T d) (x : Nat) : ∀ k, k ≤ n → (Sol n (aS T d k) x ↔ ∀ i, i < k → dot n (T i) x = d.testBit i)
  | 0, _ => by simp [aS, Sol]
  | k + 1, hk => by
    have ih := aS_sol h hd x k (by omega)
    have hoff : off n (eqT T d k) x = false ↔ dot n (T k) x = d.testBit k := by
      rw [eqT, off_eqn]; cases dot n (T k) x <;> cases d.testBit k <;> simp
    constructor
    · intro hs i hi
      obtain ⟨h1, h2⟩ := Sol.of_put hs (aS_ok h hd (by omega))
      by_cases e : i = k
      · subst e; exact hoff.1 h2
      · exact ih.1 h1 i (by omega)
    · intro hs
      exact (ih.2 fun i hi => hs i (by omega)).put (hoff.2 (hs k (by omega)))
/-- The solutions are those whose effect is the diagonal. -/
theorem aS_eff {n : Nat} {T : Nat → Nat} {d : Nat} (h : SymT n T) (hd : Diag n T d) (x : Nat) : Sol n (aS T d n) x ↔ effN T x n = d := by
  rw [aS_sol h hd x n (Nat.le_refl _)]
  constructor
  · intro hs
    apply Nat.eq_of_testBit_eq
    intro j
    by_cases hj : j < n
    · rw [eff_bit h x hj n (Nat.le_refl _), dot_comm]; exact hs j hj
    · rw [Nat.testBit_lt_two_pow (Nat.lt_of_lt_of_le (effN_lt h.1 x n (Nat.le_refl _)) (Nat.pow_le_pow_right (by decide) (by omega))),
        Nat.testBit_lt_two_pow (Nat.lt_of_lt_of_le hd.1 (Nat.pow_le_pow_right (by decide) (by omega)))]
  · intro he i hi
    rw [dot_comm, ← eff_bit h x hi n (Nat.le_refl _), he]
theorem stp_shr {s b : Nat} (hb : 2 ≤ b) : stp s b >>> 1 = stp (s >>> 1) (b >>> 1) := by
  have h1 := shr_log2 (s := b) (n := 1) (by simpa using hb)
  unfold stp
  rw [Nat.testBit_shiftRight, h1]
  split
  · rw [Nat.shiftRight_xor_distrib]
  · rfl
theorem rd_shr {A : List Nat} (h : ∀ a ∈ A, 2 ≤ a) : ∀ s, rd A s >>> 1 = rd (A.map (· >>> 1)) (s >>> 1) := by
  induction A with
  | nil => intro s; rfl
  | cons a A ih =>
    intro s
    rw [rd_cons, ih (fun b hb => h b (by simp [hb])), List.map_cons, rd_cons, stp_shr (h a (by simp))]
theorem put_length {B : List Nat} (h : Bas B) {r : Nat} (hr : r ≠ 0) (hc : Cl B r) : (put B r).length = B.length + 1 := by
  have e : B.filter (fun b => decide (r.log2 < b.log2)) = B.filter (fun b => !decide (b.log2 < r.log2)) := by
    apply List.filter_congr
    intro b hb
    have := hc.ne hr hb
    by_cases h1 : b.log2 < r.log2
    · simp [h1]; omega
    · simp [h1]; omega
  unfold put
  rw [List.length_append, List.length_cons, List.length_map, e]
  have := List.length_eq_countP_add_countP (fun b => decide (b.log2 < r.log2)) (l := B)
  rw [List.countP_eq_length_filter, List.countP_eq_length_filter] at this
  have e2 : B.filter (fun a => decide (¬ decide (a.log2 < r.log2) = true)) = B.filter (fun b => !decide (b.log2 < r.log2)) := by
    apply List.filter_congr; intro b _; by_cases h1 : b.log2 < r.log2 <;> simp [h1]
  rw [e2] at this
  omega
theorem stp_zero_iff {u r : Nat} (hr : r ≠ 0) : stp u r = 0 ↔ u = 0 ∨ u = r := by
  constructor
  · intro h
    rcases stp_or u r with e | e
    · exact .inl (e ▸ h)
    · right
      rw [e] at h
      have := xx u r
      rw [h, Nat.zero_xor] at this
      exact this.symm
  · rintro (rfl | rfl)
    · simp [stp]
    · unfold stp; rw [bit_top hr]; simp
theorem eq_iff_xor {u v : Nat} : u = v ↔ u ^^^ v = 0 := by
  constructor
  · rintro rfl; exact Nat.xor_self _
  · intro h; have := xx u v; rw [h, Nat.zero_xor] at this; exact this.symm
/-- As many equations in steps as sets in the basis of the table. -/
theorem aS_len {T : Nat → Nat} {d : Nat} : ∀ k, (aS T d k).length = (iS T k).length ∧ ∀ x, rd ((aS T d k).map (· >>> 1)) x = 0 ↔ lin (iS T k) x = 0
  | 0 => by simp [aS, iS, rd, lin, cor]
  | k + 1 => by
    obtain ⟨h1, h2⟩ := aS_len (T := T) (d := d) k
    have htri := aS_tri T d k
    have hb := iS_bas T k
    have hz : rd (aS T d k) (eqT T d k) >>> 1 = rd ((aS T d k).map (· >>> 1)) (T k) := by rw [rd_shr htri.1, eqT, eqn_shr]
    have hlt : rd (aS T d k) (eqT T d k) < 2 ↔ rd ((aS T d k).map (· >>> 1)) (T k) = 0 := by
      rw [← hz, shr_eq_zero]
    by_cases hc : rd ((aS T d k).map (· >>> 1)) (T k) = 0
    · have e1 : aS T d (k + 1) = aS T d k := by show putA _ _ = _; unfold putA; rw [if_pos (hlt.2 hc)]
      have e2 : iS T (k + 1) = iS T k := by show add _ _ = _; unfold add; rw [if_pos ((h2 _).1 hc)]
      rw [e1, e2]
      exact ⟨h1, h2⟩
    · have hl : lin (iS T k) (T k) ≠ 0 := fun e => hc ((h2 _).2 e)
      have e1 : aS T d (k + 1) = aS T d k ++ [rd (aS T d k) (eqT T d k)] := by
        show putA _ _ = _; unfold putA; rw [if_neg (fun e => hc (hlt.1 e))]
      have e2 : iS T (k + 1) = put (iS T k) (lin (iS T k) (T k)) := by show add _ _ = _; unfold add; rw [if_neg hl]
      have hcl := lin_clean hb (T k)
      refine ⟨by rw [e1, e2, put_length hb hl hcl, List.length_append, h1]; rfl, fun x => ?_⟩
      rw [e1, e2, put_lin hb hl hcl, List.map_append, List.map_cons, List.map_nil, rd_end, hz, stp_zero_iff hc, stp_zero_iff hl, h2 x, eq_iff_xor (u := rd _ x), ← rd_xor, h2, lin_xor, ← eq_iff_xor (u := lin _ x)]
/-! ### The pairs -/
/-- A set of presses with its effect above. -/
def gr (n : Nat) (T : Nat → Nat) (y : Nat) : Nat := (effN T y n) <<< n ^^^ y
theorem gr_xor (n : Nat) (T : Nat → Nat) (y z : Nat) : gr n T (y ^^^ z) = gr n T y ^^^ gr n T z := by
  unfold gr
  rw [effN_xor, Nat.shiftLeft_xor_distrib]
  simp only [Nat.xor_assoc]
  rw [xlc y]
theorem gr_pow {n k : Nat} {T : Nat → Nat} (hk : k < n) : gr n T (2 ^ k) = sv T n k := by
  unfold gr sv
  rw [effN_bit, if_pos hk]
  apply Nat.eq_of_testBit_eq
  intro j
  rw [Nat.testBit_xor, Nat.testBit_or, Nat.testBit_shiftLeft, Nat.testBit_two_pow]
  by_cases h : k = j
  · subst h; simp [show ¬ n ≤ k by omega]
  · simp [h]
theorem gr_shr {n y : Nat} {T : Nat → Nat} (hy : y < 2 ^ n) : gr n T y >>> n = effN T y n := by
  unfold gr
  rw [Nat.shiftRight_xor_distrib, Nat.shiftLeft_shiftRight, shr_eq_zero.2 hy, Nat.xor_zero]
def Pairs (n : Nat) (T : Nat → Nat) (s : Nat) : Prop := ∃ y, y < 2 ^ n ∧ s = gr n T y
theorem Pairs.xor {n : Nat} {T : Nat → Nat} {s t : Nat} (h : Pairs n T s) (h2 : Pairs n T t) : Pairs n T (s ^^^ t) := by
  obtain ⟨y, hy, rfl⟩ := h
  obtain ⟨z, hz, rfl⟩ := h2
  exact ⟨y ^^^ z, Nat.xor_lt_two_pow hy hz, (gr_xor n T y z).symm⟩
theorem Pairs.zero (n : Nat) (T : Nat → Nat) : Pairs n T 0 := ⟨0, Nat.two_pow_pos n, by
  have := effN_xor T 0 0 n
  rw [Nat.xor_self, Nat.xor_self] at this
  simp [gr, this]⟩
theorem Pairs.cor {n : Nat} {T : Nat → Nat} {B : List Nat} (h : ∀ b ∈ B, Pairs n T b) : ∀ s, Pairs n T (cor B s) := by
  induction B with
  | nil => intro s; exact Pairs.zero n T
  | cons b B ih =>
    intro s
    simp only [Ytibikoajejfdeaa.cor]
    refine Pairs.xor ?_ (ih (fun c hc => h c (by simp [hc])) s)
    split
    · exact h b (by simp)
    · exact Pairs.zero n T
theorem Pairs.stp {n : Nat} {T : Nat → Nat} {s b : Nat} (h : Pairs n T s) (h2 : Pairs n T b) : Pairs n T (stp s b) := by
  rcases stp_or s b with e | e <;> rw [e]
  · exact h
  · exact h.xor h2
theorem pS_pairs {n : Nat} {T : Nat → Nat} : ∀ k, k ≤ n → ∀ b ∈ pS T n k, Pairs n T b
  | 0, _ => by simp [pS]
  | k + 1, hk => by
    have ih := pS_pairs (n := n) (T := T) k (by omega)
    have hs : Pairs n T (sv T n k) := ⟨2 ^ k, Nat.pow_lt_pow_right (by decide) (by omega), (gr_pow (by omega)).symm⟩
    have hl : Pairs n T (lin (pS T n k) (sv T n k)) := hs.xor (Pairs.cor ih _)
    intro b hb
    simp only [pS, add] at hb
    split at hb
    · exact ih b hb
    · simp only [put, List.mem_append, List.mem_cons, List.mem_map, List.mem_filter] at hb
      rcases hb with h | h | ⟨c, h, rfl⟩
      · exact ih b h.1
      · rw [h]; exact hl
      · exact (ih c h.1).stp hl
theorem pS_zero {n : Nat} {T : Nat → Nat} : ∀ k, k ≤ n → ∀ i, i < k → lin (pS T n k) (sv T n i) = 0
  | 0, _, i, hi => by omega
  | k + 1, hk, i, hi => by
    have ih := pS_zero (n := n) (T := T) k (by omega)
    have hb := (inv_at T n k (by omega)).bp
    show lin (add _ _) _ = 0
    unfold add
    split
    · rename_i h
      by_cases e : i = k
      · subst e; exact h
      · exact ih i (by omega)
    · rename_i h
      rw [put_lin hb h (lin_clean hb _)]
      by_cases e : i = k
      · subst e; exact (stp_zero_iff h).2 (.inr rfl)
      · rw [ih i (by omega)]; exact (stp_zero_iff h).2 (.inl rfl)
theorem xor_top {y k : Nat} (h : y < 2 ^ (k + 1)) : y < 2 ^ k ∨ (y ^^^ 2 ^ k < 2 ^ k) := by
  cases hb : y.testBit k with
  | false =>
    left
    apply Nat.lt_pow_two_of_testBit
    intro j hj
    by_cases e : j = k
    · subst e; exact hb
    · exact Nat.testBit_lt_two_pow (Nat.lt_of_lt_of_le h (Nat.pow_le_pow_right (by decide) (by omega)))
  | true =>
    right
    apply Nat.lt_pow_two_of_testBit
    intro j hj
    rw [Nat.testBit_xor, Nat.testBit_two_pow]
    by_cases e : j = k
    · subst e; simp [hb]
    · rw [Nat.testBit_lt_two_pow (Nat.lt_of_lt_of_le h (Nat.pow_le_pow_right (by decide) (by omega)))]
      simp; omega
theorem pS_all {n : Nat} {T : Nat → Nat} : ∀ k, k ≤ n → ∀ y, y < 2 ^ k → lin (pS T n n) (gr n T y) = 0
  | 0, _, y, hy => by
    have : y = 0 := by simpa using hy
    subst this
    obtain ⟨z, hz, e⟩ := Pairs.zero n T
    have : gr n T 0 = 0 := by
      have := effN_xor T 0 0 n
      rw [Nat.xor_self, Nat.xor_self] at this
      simp [gr, this]
    rw [this, lin_zero]
  | k + 1, hk, y, hy => by
    have ih := pS_all (n := n) (T := T) k (by omega)
    rcases xor_top hy with h | h
    · exact ih y h
    · have e : y = (y ^^^ 2 ^ k) ^^^ 2 ^ k := (xx y _).symm
      generalize y ^^^ 2 ^ k = u at e h
      subst e
      rw [gr_xor, lin_xor, ih _ h, gr_pow (by omega), pS_zero n (Nat.le_refl _) k (by omega)]
      rfl
theorem cor_bit' {B : List Nat} {i s : Nat} (h : ∀ b ∈ B, s.testBit b.log2 = true → b.testBit i = false) : (cor B s).testBit i = false := by
  induction B with
  | nil => simp [cor]
  | cons b B ih =>
    simp only [cor, Nat.testBit_xor, ih (fun c hc => h c (by simp [hc]))]
    cases hb : s.testBit b.log2
    · simp
    · simp [h b (by simp) hb]
theorem top_of_zero {B : List Nat} {q : Nat} (hq : q ≠ 0) (h : lin B q = 0) : ∃ b ∈ B, b.log2 = q.log2 := by
  have e : cor B q = q := (eq_iff_xor.2 (by unfold lin at h; exact h)).symm
  apply Classical.byContradiction
  intro hno
  have := cor_bit' (B := B) (s := q) (i := q.log2) fun b hb ht => by
    have h1 : b.log2 ≠ q.log2 := fun e => hno ⟨b, hb, e⟩
    have h2 : b.log2 ≤ q.log2 := by
      rcases Nat.lt_or_ge q.log2 b.log2 with g | g
      · rw [bit_hi g] at ht; cases ht
      · exact g
    exact bit_hi (by omega)
  rw [e, bit_top hq] at this
  cases this
/-- What the bases tell: a solution, and the least one. -/
theorem sol_least {n s : Nat} {T : Nat → Nat} (hs : s < 2 ^ n) (hy : solB T n s = true) :
    solV T n s < 2 ^ n ∧ effN T (solV T n s) n = s ∧ ∀ z, z < 2 ^ n → effN T z n = s → solV T n s ≤ z := by
  have hz : lin (pS T n n) (s <<< n) >>> n = 0 := by simpa [solB] using hy
  have hb := (inv_at T n n (Nat.le_refl _)).bp
  have hcl := lin_clean hb (s <<< n)
  obtain ⟨y, hy, hc⟩ := Pairs.cor (pS_pairs (T := T) n (Nat.le_refl _)) (s <<< n)
  have e : solV T n s = lin (pS T n n) (s <<< n) := by unfold solV; rw [if_pos hz]
  rw [← e] at hz hcl
  have hlt := shr_eq_zero.1 hz
  have e2 : solV T n s = (s ^^^ effN T y n) <<< n ^^^ y := by
    rw [e, lin, hc, gr, Nat.shiftLeft_xor_distrib, Nat.xor_assoc]
  have e3 : effN T y n = s := by
    rw [e2, Nat.shiftRight_xor_distrib, Nat.shiftLeft_shiftRight, shr_eq_zero.2 hy, Nat.xor_zero] at hz
    exact (eq_iff_xor.2 hz).symm
  have e4 : solV T n s = y := by rw [e2, e3, Nat.xor_self]; simp
  rw [e4] at hcl ⊢
  refine ⟨hy, e3, fun z hzl hze => ?_⟩
  by_cases hne : y = z
  · omega
  have hq : y ^^^ z ≠ 0 := fun g => hne (eq_iff_xor.2 g)
  have hg : gr n T (y ^^^ z) = y ^^^ z := by
    rw [gr, effN_xor, e3, hze, Nat.xor_self]; simp
  have h0 := pS_all (T := T) n (Nat.le_refl _) _ (Nat.xor_lt_two_pow hy hzl)
  rw [hg] at h0
  obtain ⟨b, hbm, hbl⟩ := top_of_zero hq h0
  have hy0 := hcl b hbm
  rw [hbl] at hy0
  have ht := bit_top hq
  rw [Nat.testBit_xor, hy0] at ht
  refine Nat.le_of_lt (lt_of_bit _ hy0 (by simpa using ht) fun j hj => ?_)
  have := bit_hi (s := y ^^^ z) (i := j) hj
  rw [Nat.testBit_xor] at this
  cases h1 : y.testBit j <;> cases h2 : z.testBit j <;> simp [h1, h2] at this <;> rfl
theorem sv_mod {T : Nat → Nat} {n k j : Nat} (hk : k < n) (hj : j < n) : (sv T n k).testBit j = decide (k = j) := by
  unfold sv
  rw [Nat.testBit_or, Nat.testBit_shiftLeft, Nat.testBit_two_pow]
  simp [show ¬ n ≤ j by omega]
theorem pS_length {n : Nat} {T : Nat → Nat} : ∀ k, k ≤ n → (pS T n k).length = k ∧ ∀ b ∈ pS T n k, ∀ j, k ≤ j → j < n → b.testBit j = false
  | 0, _ => by simp [pS]
  | k + 1, hk => by
    obtain ⟨h1, h2⟩ := pS_length (n := n) (T := T) k (by omega)
    have hb := (inv_at T n k (by omega)).bp
    have hbit : ∀ j, k ≤ j → j < n → (lin (pS T n k) (sv T n k)).testBit j = decide (k = j) := fun j hj hjn => by
      rw [lin, Nat.testBit_xor, cor_bit _ (fun b hb => h2 b hb j hj hjn), sv_mod (by omega) hjn]; simp
    have hne : lin (pS T n k) (sv T n k) ≠ 0 := fun e => by
      have := hbit k (Nat.le_refl _) (by omega)
      rw [e] at this; simp at this
    have e : pS T n (k + 1) = put (pS T n k) (lin (pS T n k) (sv T n k)) := by show add _ _ = _; unfold add; rw [if_neg hne]
    rw [e]
    refine ⟨by rw [put_length hb hne (lin_clean hb _), h1], fun b hbm j hj hjn => ?_⟩
    have hl := hbit j (by omega) hjn
    rw [decide_eq_false (by omega)] at hl
    simp only [put, List.mem_append, List.mem_cons, List.mem_map, List.mem_filter] at hbm
    rcases hbm with h | h | ⟨c, h, rfl⟩
    · exact h2 b h.1 j (by omega) hjn
    · rw [h]; exact hl
    · rw [stp_bit, h2 c h.1 j (by omega) hjn, hl]; simp
/-- Rank and nullity are all buttons. -/
theorem quiet_length {n : Nat} {T : Nat → Nat} : (qS T n n).1.length + (iS T n).length = n := by
  have HI := inv_at T n n (Nat.le_refl _)
  obtain ⟨H, hP, _, hI⟩ := HI.H
  have h1 := (pS_length (n := n) (T := T) n (Nat.le_refl _)).1
  rw [hP, List.length_append] at h1
  have h2 : (iS T n).length = H.length := by rw [← hI, List.length_map]
  omega
/-- What is left free, and the least solution, as the bases tell them. -/
theorem sys_all {n : Nat} {T : Nat → Nat} {d : Nat} (h : SymT n T) (hd : Diag n T d) :
    solB T n d = true ∧ setA (finA n (aS T d n) n) n = solV T n d ∧ (aS T d n).length + (qS T n n).1.length = n := by
  obtain ⟨hs, hm⟩ := fin_least (n := n) (aS_tri T d n) (aS_lt h.1 n (Nat.le_refl _))
  have hxl := setA_lt (finA n (aS T d n) n) n
  have he := (aS_eff h hd _).1 hs
  have hB : solB T n d = true := by
    have hg := pS_all (T := T) n (Nat.le_refl _) _ hxl
    rw [gr, he, lin_xor, ← eq_iff_xor] at hg
    rw [solB, hg]
    rw [((inv_at T n n (Nat.le_refl _)).tops _).2, shr_eq_zero.2 hxl, lin_zero]
    rfl
  obtain ⟨v1, v2, v3⟩ := sol_least hd.1 hB
  refine ⟨hB, ?_, ?_⟩
  · have a := v3 _ hxl he
    have b := hm _ v1 ((aS_eff h hd _).2 v2)
    omega
  · rw [(aS_len n).1]
    have := quiet_length (n := n) (T := T)
    omega
end Go.Proofs.Ytibikoajejfdeaa
