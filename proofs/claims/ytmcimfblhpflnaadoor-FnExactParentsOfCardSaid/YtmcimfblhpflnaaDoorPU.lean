/-
Edges and parts: an edge more joins two parts, or leads round. Nothing here speaks of the program.
-/
import Derived.Test.YtmcimfblhpflnaaDoorPT
import Derived.Test.YtmcimfblhpflnaaDoorM
namespace Go.Proofs.YtmcimfblhpflnaaDoor
/-- How many i below k with f i. -/
def cn (f : Nat → Bool) : Nat → Nat
  | 0 => 0
  | k + 1 => cn f k + (f k).toNat
section
variable {F F' : Nat → Nat} {n : Nat}
theorem cn_eq {f g : Nat → Bool} {k : Nat} (h : ∀ i, i < k → f i = g i) : cn f k = cn g k := by
  induction k with
  | zero => rfl
  | succ k ih => rw [cn, cn, ih (fun i hi => h i (by omega)), h k (by omega)]
theorem cn_one {f g : Nat → Bool} {r k : Nat} (hr : r < k) (h1 : f r = true) (h2 : g r = false) (h : ∀ i, i < k → i ≠ r → f i = g i) : cn f k = cn g k + 1 := by
  induction k with
  | zero => omega
  | succ k ih =>
    rw [cn, cn]
    by_cases e : r = k
    · subst e
      rw [h1, h2, cn_eq (fun i hi => h i (by omega) (by omega))]
      simp
    · rw [ih (by omega) (fun i hi => h i (by omega)), h k (by omega) (fun e' => e e'.symm)]
      omega
theorem cn_all {f : Nat → Bool} {k : Nat} (h : ∀ i, i < k → f i = true) : cn f k = k := by
  induction k with
  | zero => rfl
  | succ k ih => rw [cn, ih (fun i hi => h i (by omega)), h k (by omega)]; rfl
theorem cn_le (f : Nat → Bool) (k : Nat) : cn f k ≤ k := by
  induction k with
  | zero => exact Nat.le_refl _
  | succ k ih => rw [cn]; cases f k <;> simp <;> omega
theorem cn_roots (F : Nat → Nat) (n k : Nat) : (roots F n k).length = cn (root F n) k := by
  induction k with
  | zero => rfl
  | succ k ih =>
    rw [roots_succ, List.length_append, ih, cn]
    cases root F n k <;> simp
/-- F' is F with the edge a, b. -/
def Adds (F F' : Nat → Nat) (n a b : Nat) : Prop := ∀ i j, i < n → j < n → ((F' i).testBit j = true ↔ (F i).testBit j = true ∨ (i = a ∧ j = b) ∨ (i = b ∧ j = a))
theorem Adds.turn {a b : Nat} (h : Adds F F' n a b) : Adds F F' n b a := fun i j hi hj => by rw [h i j hi hj]; constructor <;> (intro h; rcases h with h | h | h <;> simp [h])
theorem Adds.clo {a b : Nat} {S : Nat → Prop} (h : Adds F F' n a b) (hS : Clo F' n S) : Clo F n S := fun i j hi hj hb => hS i j hi hj ((h i j hi hj).2 (.inl hb))
theorem root_eq {i : Nat} (h : comp F n i = comp F' n i) : root F n i = root F' n i := by simp only [root, h]
theorem adds_round {a b : Nat} (hF : Sym F n) (hF' : Sym F' n) (ha : a < n) (hb : b < n) (h : Adds F F' n a b) (hc : (comp F n a).testBit b = true) : cn (root F' n) n = cn (root F n) n := by
  have hab := comp_mem hF ha hc
  have hp : ∀ p, IsPart F n p → IsPart F' n p := by
    intro p hp
    refine ⟨hp.any, hp.lt, fun i j hi hj hb' h' => ?_, fun S hS => hp.least S (h.clo hS)⟩
    rcases (h i j hi hj).1 hb' with hx | ⟨rfl, rfl⟩ | ⟨rfl, rfl⟩
    · exact hp.clo i j hi hj hx h'
    · have e := hp.comp hF h'
      show p.testBit j = true
      rw [e]; exact hc
    · have e := hp.comp hF h'
      show p.testBit j = true
      rw [e, ← hab]; exact comp_self F n j
  refine cn_eq fun i hi => (root_eq ?_).symm
  exact (hp _ (comp_part hF hi)).comp hF' (comp_self F n i)
theorem low_or {p q : Nat} (hp : p < 65536) (hq : q < 65536) (hp0 : p ≠ 0) (h : low p < low q) : low (p ||| q) = low p := by
  refine low_eq (Nat.or_lt_two_pow (n := 16) hp hq) ?_ fun j hj => ?_
  · rw [Nat.testBit_or, (low_bit hp0 hp).1]; rfl
  · rw [Nat.testBit_or, (low_bit hp0 hp).2 j hj]
    by_cases e : q = 0
    · rw [e]; simp
    · rw [(low_bit e hq).2 j (by omega)]; rfl
theorem adds_join' {a b : Nat} (hn : n ≤ 16) (hF : Sym F n) (hF' : Sym F' n) (ha : a < n) (hb : b < n) (h : Adds F F' n a b) (hc : (comp F n a).testBit b = false) (hl : low (comp F n a) < low (comp F n b)) : cn (root F n) n = cn (root F' n) n + 1 := by
  obtain ⟨p, hp⟩ : ∃ p, comp F n a = p := ⟨_, rfl⟩
  obtain ⟨q, hq⟩ : ∃ q, comp F n b = q := ⟨_, rfl⟩
  have pp := comp_part hF ha
  have pq := comp_part hF hb
  have pa := comp_self F n a
  have qb := comp_self F n b
  rw [hp] at pp pa hc hl
  rw [hq] at pq qb hl
  have hdis : ∀ i, p.testBit i = true → q.testBit i = true → False := by
    intro i h1 h2
    have := pp.eq pq i h1 h2
    rw [this, qb] at hc
    cases hc
  have oth : ∀ r, IsPart F n r → r.testBit a = false → r.testBit b = false → IsPart F' n r := by
    intro r hr h1 h2
    refine ⟨hr.any, hr.lt, fun i j hi hj hb' h' => ?_, fun S hS => hr.least S (h.clo hS)⟩
    have h' : r.testBit i = true := h'
    rcases (h i j hi hj).1 hb' with hx | ⟨rfl, rfl⟩ | ⟨rfl, rfl⟩
    · exact hr.clo i j hi hj hx h'
    · rw [h1] at h'; cases h'
    · rw [h2] at h'; cases h'
  have un : IsPart F' n (p ||| q) := by
    refine ⟨⟨a, by rw [Nat.testBit_or, pa]; rfl⟩, fun i hi => ?_, fun i j hi hj hb' h' => ?_, fun S hS i hi hSi j hj => ?_⟩
    · rw [Nat.testBit_or, Bool.or_eq_true] at hi
      exact hi.elim (pp.lt i) (pq.lt i)
    · have h' : (p ||| q).testBit i = true := h'
      show (p ||| q).testBit j = true
      rw [Nat.testBit_or, Bool.or_eq_true] at h' ⊢
      rcases (h i j hi hj).1 hb' with hx | ⟨rfl, rfl⟩ | ⟨rfl, rfl⟩
      · exact h'.imp (pp.clo i j hi hj hx) (pq.clo i j hi hj hx)
      · exact .inr qb
      · exact .inl pa
    · have hSF := h.clo hS
      have hall : S a → S j := by
        intro hSa
        rw [Nat.testBit_or, Bool.or_eq_true] at hj
        rcases hj with hj | hj
        · exact pp.least S hSF a pa hSa j hj
        · exact pq.least S hSF b qb (hS a b ha hb ((h a b ha hb).2 (.inr (.inl ⟨rfl, rfl⟩))) hSa) j hj
      rw [Nat.testBit_or, Bool.or_eq_true] at hi
      rcases hi with hi | hi
      · exact hall (pp.least S hSF i hi hSi a pa)
      · exact hall (hS b a hb ha ((h b a hb ha).2 (.inr (.inr ⟨rfl, rfl⟩))) (pq.least S hSF i hi hSi b qb))
  have elow := low_or (pp.lt16 hn) (pq.lt16 hn) pp.ne hl
  have cin : ∀ i, i < n → p.testBit i = true ∨ q.testBit i = true → comp F' n i = p ||| q := fun i hi hor => (un.comp hF' (by rw [Nat.testBit_or, Bool.or_eq_true]; exact hor)).symm
  have lq := pq.low hn
  have lp := pp.low hn
  refine cn_one (r := low q) (pq.low_lt hn) ?_ ?_ fun i hi hne => ?_
  · exact (root_low hF hn pq).1
  · simp only [root, decide_eq_false_iff_not]
    rw [cin _ (pq.low_lt hn) (.inr lq), elow]
    omega
  · by_cases h1 : p.testBit i = true
    · simp only [root]
      rw [cin i hi (.inl h1), elow, ← pp.comp hF h1]
    · by_cases h2 : q.testBit i = true
      · simp only [root]
        rw [cin i hi (.inr h2), elow, ← pq.comp hF h2, Bool.eq_iff_iff]
        simp only [decide_eq_true_eq]
        constructor
        · intro e; exact absurd e.symm hne
        · intro e; rw [e] at lp; exact (h1 lp).elim
      · have hp' : IsPart F n (comp F n i) := comp_part hF hi
        have n1 : (comp F n i).testBit a = false := by
          cases hx : (comp F n i).testBit a
          · rfl
          · have := comp_mem hF hi hx
            rw [hp] at this
            have hs := comp_self F n i
            rw [this] at hs
            exact absurd hs h1
        have n2 : (comp F n i).testBit b = false := by
          cases hx : (comp F n i).testBit b
          · rfl
          · have := comp_mem hF hi hx
            rw [hq] at this
            have hs := comp_self F n i
            rw [this] at hs
            exact absurd hs h2
        exact root_eq ((oth _ hp' n1 n2).comp hF' (comp_self F n i))
theorem adds_join {a b : Nat} (hn : n ≤ 16) (hF : Sym F n) (hF' : Sym F' n) (ha : a < n) (hb : b < n) (h : Adds F F' n a b) (hc : (comp F n a).testBit b = false) : cn (root F n) n = cn (root F' n) n + 1 := by
  have pp := comp_part hF ha
  have pq := comp_part hF hb
  rcases Nat.lt_trichotomy (low (comp F n a)) (low (comp F n b)) with hl | hl | hl
  · exact adds_join' hn hF hF' ha hb h hc hl
  · have := pp.of_low pq hn hl
    rw [this, comp_self F n b] at hc
    cases hc
  · refine adds_join' hn hF hF' hb ha h.turn ?_ hl
    cases hx : (comp F n b).testBit a
    · rfl
    · have := comp_mem hF hb hx
      rw [← this, comp_self F n b] at hc
      cases hc

/-! ### the graph of a list of edges -/
theorem lk_bits (i j : Nat) (F : Nat → Nat) (a b : Nat) : (lk i j F a).testBit b = true ↔ (F a).testBit b = true ∨ (a = i ∧ b = j) ∨ (a = j ∧ b = i) := by
  have tb : ∀ x y : Nat, (2 ^ x).testBit y = true ↔ x = y := fun x y => by rw [Nat.testBit_two_pow]; simp
  unfold lk
  by_cases h1 : a = j
  · by_cases h2 : j = i
    · rw [if_pos h1, if_pos h2, Nat.testBit_or, Nat.testBit_or, Bool.or_eq_true, Bool.or_eq_true, tb, tb]
      constructor
      · rintro ((h | h) | h)
        · exact .inl h
        · right; left; omega
        · right; left; omega
      · rintro (h | h | h)
        · exact .inl (.inl h)
        · right; omega
        · right; omega
    · rw [if_pos h1, if_neg h2, Nat.testBit_or, Bool.or_eq_true, tb]
      constructor
      · rintro (h | h)
        · exact .inl h
        · right; omega
      · rintro (h | h)
        · exact .inl h
        · right; omega
  · by_cases h2 : a = i
    · rw [if_neg h1, if_pos h2, Nat.testBit_or, Bool.or_eq_true, tb]
      constructor
      · rintro (h | h)
        · exact .inl h
        · right; omega
      · rintro (h | h)
        · exact .inl h
        · right; omega
    · rw [if_neg h1, if_neg h2]
      constructor
      · intro h; exact .inl h
      · rintro (h | h)
        · exact h
        · omega
def gl : List (Nat × Nat) → Nat → Nat
  | [] => fun _ => 0
  | e :: L => lk e.1 e.2 (gl L)
theorem gl_bits (i j : Nat) : ∀ L, (gl L i).testBit j = true ↔ ∃ e ∈ L, (i = e.1 ∧ j = e.2) ∨ (i = e.2 ∧ j = e.1)
  | [] => by simp [gl]
  | e :: L => by
    rw [gl, lk_bits, gl_bits i j L]
    simp only [List.mem_cons]
    constructor
    · rintro (⟨e', he, h⟩ | h)
      · exact ⟨e', .inr he, h⟩
      · exact ⟨e, .inl rfl, h⟩
    · rintro ⟨e', rfl | he, h⟩
      · exact .inr h
      · exact .inl ⟨e', he, h⟩
def InL (n : Nat) (L : List (Nat × Nat)) : Prop := ∀ e ∈ L, e.1 < n ∧ e.2 < n
theorem gl_sym {L : List (Nat × Nat)} (h : InL n L) : Sym (gl L) n := by
  constructor
  · intro i hi j hb
    obtain ⟨e, he, hx⟩ := (gl_bits i j L).1 hb
    have := h e he
    rcases hx with hx | hx <;> omega
  · intro i j hi hj hb
    obtain ⟨e, he, hx⟩ := (gl_bits i j L).1 hb
    exact (gl_bits j i L).2 ⟨e, he, hx.elim (fun h => .inr ⟨h.2, h.1⟩) (fun h => .inl ⟨h.2, h.1⟩)⟩
theorem InL.tail {e : Nat × Nat} {L : List (Nat × Nat)} (h : InL n (e :: L)) : InL n L := fun x hx => h x (List.mem_cons_of_mem _ hx)
theorem gl_adds (e : Nat × Nat) (L : List (Nat × Nat)) (n : Nat) : Adds (gl L) (gl (e :: L)) n e.1 e.2 := fun i j _ _ => by
  show (lk e.1 e.2 (gl L) i).testBit j = true ↔ _
  rw [lk_bits]
/-- Edges and parts are together at least as many as buttons. -/
theorem forest_le (hn : n ≤ 16) : ∀ L, InL n L → n ≤ L.length + cn (root (gl L) n) n
  | [], h => by
    rw [cn_all]
    · simp
    · intro i hi
      rw [root_iff (gl_sym h) hn hi]
      intro j hj
      cases hx : (comp (gl []) n i).testBit j
      · rfl
      · have := (comp_part (gl_sym h) hi).least (fun x => x = i) (fun a b _ _ hb _ => by simp [gl] at hb) i (comp_self _ n i) rfl j hx
        omega
  | e :: L, h => by
    have ih := forest_le hn L h.tail
    have he := h e (List.mem_cons_self ..)
    have hA := gl_adds e L n
    rw [List.length_cons]
    cases hc : (comp (gl L) n e.1).testBit e.2
    · have := adds_join hn (gl_sym h.tail) (gl_sym h) he.1 he.2 hA hc
      omega
    · have := adds_round (gl_sym h.tail) (gl_sym h) he.1 he.2 hA hc
      omega
theorem forest_more (hn : n ≤ 16) {e : Nat × Nat} {L : List (Nat × Nat)} (h : InL n (e :: L)) (hc : (comp (gl L) n e.1).testBit e.2 = true) : n + 1 ≤ (e :: L).length + cn (root (gl (e :: L)) n) n := by
  have ih := forest_le hn L h.tail
  have he := h e (List.mem_cons_self ..)
  rw [adds_round (gl_sym h.tail) (gl_sym h) he.1 he.2 (gl_adds e L n) hc, List.length_cons]
  omega
/-- The same edges, the same parts. -/
theorem part_bits (h : ∀ i j, i < n → j < n → (F i).testBit j = (F' i).testBit j) {p : Nat} (hp : IsPart F n p) : IsPart F' n p := by
  have hcl : ∀ S, Clo F n S ↔ Clo F' n S := fun S => ⟨fun hS i j hi hj hb => hS i j hi hj (by rw [h i j hi hj]; exact hb), fun hS i j hi hj hb => hS i j hi hj (by rw [← h i j hi hj]; exact hb)⟩
  exact ⟨hp.any, hp.lt, (hcl _).1 hp.clo, fun S hS => hp.least S ((hcl S).2 hS)⟩
theorem comp_bits (hF : Sym F n) (hF' : Sym F' n) (h : ∀ i j, i < n → j < n → (F i).testBit j = (F' i).testBit j) {i : Nat} (hi : i < n) : comp F n i = comp F' n i :=
  (part_bits h (comp_part hF hi)).comp hF' (comp_self F n i)
theorem cn_bits (hF : Sym F n) (hF' : Sym F' n) (h : ∀ i j, i < n → j < n → (F i).testBit j = (F' i).testBit j) : cn (root F n) n = cn (root F' n) n :=
  cn_eq fun _ hi => root_eq (comp_bits hF hF' h hi)
end
end Go.Proofs.YtmcimfblhpflnaaDoor
