/-
Sets as numbers, and bases of sets in reduced form: plain arithmetic; nothing here speaks of the program.
-/

namespace Go.Proofs.YtibikoajejfdeaaDoor
/-- s with the greatest element of b cleared by b. -/
def stp (s b : Nat) : Nat := if s.testBit b.log2 then s ^^^ b else s
def rd (B : List Nat) (s : Nat) : Nat := B.foldl stp s
def rdr (B : List Nat) (s : Nat) : Nat := B.foldr (fun b s => stp s b) s
def cor : List Nat → Nat → Nat
  | [], _ => 0
  | b :: B, s => (if s.testBit b.log2 then b else 0) ^^^ cor B s
def lin (B : List Nat) (s : Nat) : Nat := s ^^^ cor B s
/-- A basis: increasing greatest elements, none of them in another set. -/
def Bas (B : List Nat) : Prop := (∀ b ∈ B, b ≠ 0) ∧ B.Pairwise (fun a b => a.log2 < b.log2 ∧ b.testBit a.log2 = false)
def Cl (B : List Nat) (s : Nat) : Prop := ∀ b ∈ B, s.testBit b.log2 = false
def put (B : List Nat) (r : Nat) : List Nat :=
  B.filter (fun b => decide (b.log2 < r.log2)) ++ r :: (B.filter (fun b => decide (r.log2 < b.log2))).map (fun b => stp b r)
def add (B : List Nat) (s : Nat) : List Nat := if lin B s = 0 then B else put B (lin B s)

theorem bit_hi {s i : Nat} (h : s.log2 < i) : s.testBit i = false :=
  Nat.testBit_lt_two_pow (Nat.lt_of_lt_of_le Nat.lt_log2_self (Nat.pow_le_pow_right (by decide) h))
theorem bit_top {s : Nat} (h : s ≠ 0) : s.testBit s.log2 = true := by
  have h1 := Nat.log2_self_le h
  have h2 : s < 2 ^ (s.log2 + 1) := Nat.lt_log2_self
  rw [Nat.testBit_eq_decide_div_mod_eq, decide_eq_true_eq]
  have hp : 0 < 2 ^ s.log2 := Nat.two_pow_pos _
  have h3 : s / 2 ^ s.log2 = 1 := by
    apply Nat.div_eq_of_lt_le
    · omega
    · rw [Nat.pow_succ] at h2; omega
  rw [h3]
theorem log2_eq {s k : Nat} (h : s.testBit k = true) (h2 : ∀ j, k < j → s.testBit j = false) : s.log2 = k := by
  have hs : s ≠ 0 := by rintro rfl; simp at h
  rcases Nat.lt_trichotomy s.log2 k with h3 | h3 | h3
  · rw [bit_hi h3] at h; cases h
  · exact h3
  · have := h2 _ h3; rw [bit_top hs] at this; cases this
theorem xx (a b : Nat) : a ^^^ b ^^^ b = a := by rw [Nat.xor_assoc, Nat.xor_self, Nat.xor_zero]
theorem xx2 (a b : Nat) : b ^^^ (b ^^^ a) = a := by rw [← Nat.xor_assoc, Nat.xor_self, Nat.zero_xor]
theorem xlc (a b c : Nat) : a ^^^ (b ^^^ c) = b ^^^ (a ^^^ c) := by rw [← Nat.xor_assoc, Nat.xor_comm a b, Nat.xor_assoc]
theorem stp_bit (s b j : Nat) : (stp s b).testBit j = (s.testBit j ^^ (s.testBit b.log2 && b.testBit j)) := by
  unfold stp; cases h : s.testBit b.log2 <;> simp
theorem stp_top {s b : Nat} (hb : b ≠ 0) : (stp s b).testBit b.log2 = false := by
  rw [stp_bit, bit_top hb]; cases s.testBit b.log2 <;> rfl
theorem stp_eq (s b : Nat) : stp s b = s ^^^ (if s.testBit b.log2 then b else 0) := by
  unfold stp; cases h : s.testBit b.log2 <;> simp
theorem cor_congr {B : List Nat} {x y : Nat} (h : ∀ b ∈ B, x.testBit b.log2 = y.testBit b.log2) : cor B x = cor B y := by
  induction B with
  | nil => rfl
  | cons b B ih => simp only [cor]; rw [h b (by simp), ih (fun c hc => h c (by simp [hc]))]
theorem cor_xor (B : List Nat) (x y : Nat) : cor B (x ^^^ y) = cor B x ^^^ cor B y := by
  induction B with
  | nil => simp [cor]
  | cons b B ih =>
    simp only [cor, ih, Nat.testBit_xor]
    cases h1 : x.testBit b.log2 <;> cases h2 : y.testBit b.log2 <;> simp [Nat.xor_assoc, xlc (cor B x) b]
    rw [xx2]
theorem lin_xor (B : List Nat) (x y : Nat) : lin B (x ^^^ y) = lin B x ^^^ lin B y := by
  simp only [lin, cor_xor]; simp only [Nat.xor_assoc]; rw [xlc y (cor B x)]
theorem cor_bit {B : List Nat} {i : Nat} (s : Nat) (h : ∀ b ∈ B, b.testBit i = false) : (cor B s).testBit i = false := by
  induction B with
  | nil => simp [cor]
  | cons b B ih =>
    simp only [cor, Nat.testBit_xor, ih (fun c hc => h c (by simp [hc]))]
    cases h1 : s.testBit b.log2 <;> simp [h b (by simp)]
theorem Bas.tail {b : Nat} {B : List Nat} (h : Bas (b :: B)) : Bas B := ⟨fun c hc => h.1 c (by simp [hc]), (List.pairwise_cons.1 h.2).2⟩
theorem Bas.head {b : Nat} {B : List Nat} (h : Bas (b :: B)) {c : Nat} (hc : c ∈ B) : b.log2 < c.log2 ∧ c.testBit b.log2 = false := (List.pairwise_cons.1 h.2).1 c hc
theorem Bas.nil : Bas [] := ⟨by simp, by simp⟩
theorem rd_lin {B : List Nat} (h : Bas B) (s : Nat) : rd B s = lin B s := by
  induction B generalizing s with
  | nil => simp [rd, lin, cor]
  | cons b B ih =>
    show rd B (stp s b) = _
    rw [ih h.tail]
    have e : cor B (stp s b) = cor B s := cor_congr fun c hc => by
      rw [stp_bit, bit_hi (h.head hc).1]; simp
    rw [lin, e]; simp only [lin, cor, stp_eq, Nat.xor_assoc]
theorem rdr_lin {B : List Nat} (h : Bas B) (s : Nat) : rdr B s = lin B s := by
  induction B with
  | nil => simp [rdr, lin, cor]
  | cons b B ih =>
    show stp (rdr B s) b = _
    rw [ih h.tail, stp_eq]
    have e : (lin B s).testBit b.log2 = s.testBit b.log2 := by
      rw [lin, Nat.testBit_xor, cor_bit s (fun c hc => (h.head hc).2)]; simp
    rw [e]
    simp only [lin, cor, Nat.xor_assoc]
    rw [Nat.xor_comm (cor B s)]
theorem lin_clean {B : List Nat} (h : Bas B) (s : Nat) : Cl B (lin B s) := by
  induction B with
  | nil => intro b hb; cases hb
  | cons a B ih =>
    intro b hb
    have e : lin (a :: B) s = lin B s ^^^ (if s.testBit a.log2 then a else 0) := by
      simp only [lin, cor, Nat.xor_assoc]; rw [Nat.xor_comm (cor B s)]
    rw [e, Nat.testBit_xor]
    rcases List.mem_cons.1 hb with rfl | hb
    · rw [lin, Nat.testBit_xor, cor_bit s (fun c hc => (h.head hc).2)]
      cases h1 : s.testBit b.log2
      · simp
      · simp [bit_top (h.1 b (by simp))]
    · rw [ih h.tail b hb]
      cases h1 : s.testBit a.log2 <;> simp [bit_hi (h.head hb).1]
theorem cor_zero {B : List Nat} {s : Nat} (h : Cl B s) : cor B s = 0 := by
  induction B with
  | nil => rfl
  | cons b B ih => simp only [cor, h b (by simp), ih (fun c hc => h c (by simp [hc]))]; simp
theorem lin_of_clean {B : List Nat} {s : Nat} (h : Cl B s) : lin B s = s := by rw [lin, cor_zero h, Nat.xor_zero]
theorem lin_idem {B : List Nat} (h : Bas B) (s : Nat) : lin B (lin B s) = lin B s := lin_of_clean (lin_clean h s)
theorem lin_zero (B : List Nat) : lin B 0 = 0 := lin_of_clean (fun _ _ => by simp)
theorem lin_mem {B : List Nat} (h : Bas B) {b : Nat} (hb : b ∈ B) : lin B b = 0 := by
  have e : cor B b = b := by
    induction B with
    | nil => cases hb
    | cons a B ih =>
      rcases List.mem_cons.1 hb with rfl | hb
      · rw [cor, bit_top (h.1 b (by simp)), cor_zero (fun c hc => bit_hi (h.head hc).1)]; simp
      · rw [cor, (h.head hb).2, ih h.tail hb]; simp
  rw [lin, e, Nat.xor_self]
theorem lin_cor_of {B C : List Nat} (s : Nat) (h : ∀ b ∈ B, lin C b = 0) : lin C (cor B s) = 0 := by
  induction B with
  | nil => exact lin_zero C
  | cons b B ih =>
    rw [cor, lin_xor, ih (fun c hc => h c (by simp [hc]))]
    cases s.testBit b.log2
    · simp [lin_zero]
    · simp [h b (by simp)]
theorem Bas.pair {B : List Nat} (h : Bas B) {a b : Nat} (ha : a ∈ B) (hb : b ∈ B) (hne : a ≠ b) : b.testBit a.log2 = false := by
  induction B with
  | nil => cases ha
  | cons c B ih =>
    rcases List.mem_cons.1 ha with e | ha2
    · rcases List.mem_cons.1 hb with e2 | hb2
      · exact absurd (e.trans e2.symm) hne
      · rw [e]; exact (h.head hb2).2
    · rcases List.mem_cons.1 hb with e | hb2
      · rw [e]; exact bit_hi (h.head ha2).1
      · exact ih h.tail ha2 hb2
theorem stp_log2 {b r : Nat} (hb : b ≠ 0) (h : r.log2 < b.log2) : (stp b r).log2 = b.log2 := by
  apply log2_eq
  · rw [stp_bit, bit_top hb, bit_hi h]; simp
  · intro j hj; rw [stp_bit, bit_hi hj, bit_hi (Nat.lt_trans h hj)]; simp
theorem stp_ne {b r : Nat} (hb : b ≠ 0) (h : r.log2 < b.log2) : stp b r ≠ 0 := by
  intro e
  have h1 : (stp b r).testBit b.log2 = true := by rw [stp_bit, bit_top hb, bit_hi h]; simp
  rw [e] at h1; simp at h1
theorem Cl.ne {B : List Nat} {r b : Nat} (h : Cl B r) (hr : r ≠ 0) (hb : b ∈ B) : b.log2 ≠ r.log2 := by
  intro e; have := h b hb; rw [e, bit_top hr] at this; cases this
theorem put_bas {B : List Nat} (h : Bas B) {r : Nat} (hr : r ≠ 0) (hc : Cl B r) : Bas (put B r) := by
  constructor
  · intro b hb
    simp only [put, List.mem_append, List.mem_filter, List.mem_cons, List.mem_map, decide_eq_true_eq] at hb
    rcases hb with ⟨hb, _⟩ | rfl | ⟨a, ⟨ha, hl⟩, rfl⟩
    · exact h.1 b hb
    · exact hr
    · exact stp_ne (h.1 a ha) hl
  · rw [put, List.pairwise_append, List.pairwise_cons]
    refine ⟨h.2.filter _, ⟨?_, ?_⟩, ?_⟩
    · intro b hb
      simp only [List.mem_map, List.mem_filter, decide_eq_true_eq] at hb
      obtain ⟨a, ⟨ha, hl⟩, rfl⟩ := hb
      exact ⟨by rw [stp_log2 (h.1 a ha) hl]; exact hl, stp_top hr⟩
    · rw [List.pairwise_map]
      refine List.Pairwise.imp_of_mem ?_ (h.2.filter _)
      intro a b ha hb ⟨h1, h2⟩
      simp only [List.mem_filter, decide_eq_true_eq] at ha hb
      rw [stp_log2 (h.1 a ha.1) ha.2, stp_log2 (h.1 b hb.1) hb.2]
      refine ⟨h1, ?_⟩
      rw [stp_bit, h2, bit_hi ha.2]; simp
    · intro a ha b hb
      simp only [List.mem_filter, decide_eq_true_eq] at ha
      simp only [List.mem_cons, List.mem_map, List.mem_filter, decide_eq_true_eq] at hb
      rcases hb with rfl | ⟨c, ⟨hcm, hl⟩, rfl⟩
      · exact ⟨ha.2, hc a ha.1⟩
      · rw [stp_log2 (h.1 c hcm) hl]
        refine ⟨by omega, ?_⟩
        rw [stp_bit, hc a ha.1, h.pair ha.1 hcm (by rintro rfl; omega)]; simp
theorem put_lin {B : List Nat} (h : Bas B) {r : Nat} (hr : r ≠ 0) (hc : Cl B r) (x : Nat) : lin (put B r) x = stp (lin B x) r := by
  have hC := put_bas h hr hc
  have hr0 : lin (put B r) r = 0 := lin_mem hC (by simp [put])
  have hz : Cl (put B r) (stp (lin B x) r) := by
    intro c hcm
    simp only [put, List.mem_append, List.mem_filter, List.mem_cons, List.mem_map, decide_eq_true_eq] at hcm
    rcases hcm with ⟨hb, _⟩ | rfl | ⟨a, ⟨ha, hl⟩, rfl⟩
    · rw [stp_bit, lin_clean h x c hb, hc c hb]; simp
    · exact stp_top hr
    · rw [stp_log2 (h.1 a ha) hl, stp_bit, lin_clean h x a ha, hc a ha]; simp
  have hB : ∀ b ∈ B, lin (put B r) b = 0 := by
    intro b hb
    have hne := hc.ne hr hb
    by_cases hl : b.log2 < r.log2
    · exact lin_mem hC (by simp [put, hb, hl])
    · have hl2 : r.log2 < b.log2 := by omega
      have h1 : lin (put B r) (stp b r) = 0 := lin_mem hC (by
        simp only [put, List.mem_append, List.mem_filter, List.mem_cons, List.mem_map, decide_eq_true_eq]
        exact Or.inr (Or.inr ⟨b, ⟨hb, hl2⟩, rfl⟩))
      unfold stp at h1
      cases h2 : b.testBit r.log2
      · rw [h2] at h1; simpa using h1
      · rw [h2] at h1
        simp only [if_true] at h1
        rw [lin_xor, hr0] at h1; simpa using h1
  have h3 : lin (put B r) (cor B x) = 0 := lin_cor_of x hB
  rw [← lin_of_clean hz, stp_eq, lin_xor, show lin B x = x ^^^ cor B x from rfl, lin_xor, h3]
  split
  · rw [hr0]; simp
  · rw [lin_zero]; simp
theorem add_bas {B : List Nat} (h : Bas B) (s : Nat) : Bas (add B s) := by
  unfold add; split
  · exact h
  · exact put_bas h ‹_› (lin_clean h s)
/-- The sets below and above a greatest element. -/
theorem Bas.split {B : List Nat} (h : Bas B) (k : Nat) (hk : ∀ b ∈ B, b.log2 ≠ k) :
    B = B.filter (fun b => decide (b.log2 < k)) ++ B.filter (fun b => decide (k < b.log2)) := by
  induction B with
  | nil => rfl
  | cons a B ih =>
    have hne := hk a (by simp)
    by_cases hl : a.log2 < k
    · rw [List.filter_cons_of_pos (by simpa using hl), List.filter_cons_of_neg (by simp; omega), List.cons_append, ← ih h.tail (fun b hb => hk b (by simp [hb]))]
    · have e1 : B.filter (fun b => decide (b.log2 < k)) = [] := by
        rw [List.filter_eq_nil_iff]; intro b hb; have := (h.head hb).1; simp; omega
      have e2 : B.filter (fun b => decide (k < b.log2)) = B := by
        rw [List.filter_eq_self]; intro b hb; have := (h.head hb).1; simp; omega
      rw [List.filter_cons_of_neg (by simpa using hl), List.filter_cons_of_pos (by simp; omega), e1, e2]; rfl
theorem cor_append (A B : List Nat) (x : Nat) : cor (A ++ B) x = cor A x ^^^ cor B x := by
  induction A with
  | nil => simp [cor]
  | cons a A ih => simp only [List.cons_append, cor, ih, Nat.xor_assoc]
theorem shr_eq_zero {s n : Nat} : s >>> n = 0 ↔ s < 2 ^ n := by
  rw [Nat.shiftRight_eq_div_pow, Nat.div_eq_zero_iff]
  have := Nat.two_pow_pos n
  omega
theorem shr_log2 {s n : Nat} (h : 2 ^ n ≤ s) : n + (s >>> n).log2 = s.log2 := by
  have hs : s ≠ 0 := by have := Nat.two_pow_pos n; omega
  have hn : n ≤ s.log2 := (Nat.le_log2 hs).2 h
  have e : (s >>> n).log2 = s.log2 - n := by
    apply log2_eq
    · rw [Nat.testBit_shiftRight, show n + (s.log2 - n) = s.log2 by omega, bit_top hs]
    · intro j hj; rw [Nat.testBit_shiftRight]; exact bit_hi (by omega)
  omega
theorem le_of_log2 {s n : Nat} (hs : s ≠ 0) (h : n ≤ s.log2) : 2 ^ n ≤ s := (Nat.le_log2 hs).1 h
theorem log2_lt_of {s n : Nat} (hs : s ≠ 0) (h : s < 2 ^ n) : s.log2 < n := (Nat.log2_lt hs).2 h
theorem cor_shr {H : List Nat} {n : Nat} (x : Nat) (h : ∀ b ∈ H, 2 ^ n ≤ b) : (cor H x) >>> n = cor (H.map (· >>> n)) (x >>> n) := by
  induction H with
  | nil => simp [cor]
  | cons b B ih =>
    have e : (x >>> n).testBit (b >>> n).log2 = x.testBit b.log2 := by
      rw [Nat.testBit_shiftRight, shr_log2 (h b (by simp))]
    simp only [cor, List.map_cons, Nat.shiftRight_xor_distrib, ih (fun c hc => h c (by simp [hc])), e]
    cases x.testBit b.log2 <;> simp
theorem cor_lt {Q : List Nat} {n : Nat} (x : Nat) (h : ∀ b ∈ Q, b < 2 ^ n) : cor Q x < 2 ^ n := by
  induction Q with
  | nil => exact Nat.two_pow_pos n
  | cons b B ih =>
    refine Nat.xor_lt_two_pow ?_ (ih (fun c hc => h c (by simp [hc])))
    split
    · exact h b (by simp)
    · exact Nat.two_pow_pos n
theorem lin_lt {Q : List Nat} {n x : Nat} (h : ∀ b ∈ Q, b < 2 ^ n) (hx : x < 2 ^ n) : lin Q x < 2 ^ n := Nat.xor_lt_two_pow hx (cor_lt x h)
theorem stp_lt {a b n : Nat} (ha : a < 2 ^ n) (hb : b < 2 ^ n) : stp a b < 2 ^ n := by
  unfold stp; split
  · exact Nat.xor_lt_two_pow ha hb
  · exact ha
theorem lin_shr {H : List Nat} {n : Nat} (x : Nat) (h : ∀ b ∈ H, 2 ^ n ≤ b) : (lin H x) >>> n = lin (H.map (· >>> n)) (x >>> n) := by
  rw [lin, Nat.shiftRight_xor_distrib, cor_shr x h]; rfl
theorem lin_shr_low {Q : List Nat} {n : Nat} (x : Nat) (h : ∀ b ∈ Q, b < 2 ^ n) : (lin Q x) >>> n = x >>> n := by
  rw [lin, Nat.shiftRight_xor_distrib, shr_eq_zero.2 (cor_lt x h), Nat.xor_zero]
theorem put_lt {B : List Nat} {r n : Nat} (hB : ∀ b ∈ B, b < 2 ^ n) (hr : r < 2 ^ n) : ∀ b ∈ put B r, b < 2 ^ n := by
  intro b hb
  simp only [put, List.mem_append, List.mem_filter, List.mem_cons, List.mem_map, decide_eq_true_eq] at hb
  rcases hb with ⟨hb, _⟩ | rfl | ⟨a, ⟨ha, _⟩, rfl⟩
  · exact hB b hb
  · exact hr
  · exact stp_lt (hB a ha) hr
theorem add_lt {B : List Nat} {s n : Nat} (hB : ∀ b ∈ B, b < 2 ^ n) (hs : s < 2 ^ n) : ∀ b ∈ add B s, b < 2 ^ n := by
  unfold add; split
  · exact hB
  · exact put_lt hB (lin_lt hB hs)
theorem put_ge {B : List Nat} {r n : Nat} (h0 : ∀ b ∈ B, b ≠ 0) (hB : ∀ b ∈ B, 2 ^ n ≤ b) (hr : 2 ^ n ≤ r) : ∀ b ∈ put B r, 2 ^ n ≤ b := by
  intro b hb
  simp only [put, List.mem_append, List.mem_filter, List.mem_cons, List.mem_map, decide_eq_true_eq] at hb
  rcases hb with ⟨hb, _⟩ | rfl | ⟨a, ⟨ha, hl⟩, rfl⟩
  · exact hB b hb
  · exact hr
  · refine le_of_log2 (stp_ne (h0 a ha) hl) ?_
    rw [stp_log2 (h0 a ha) hl]
    exact (Nat.le_log2 (h0 a ha)).2 (hB a ha)
theorem put_shr {H : List Nat} {r n : Nat} (hH : ∀ b ∈ H, 2 ^ n ≤ b) (hr : 2 ^ n ≤ r) : (put H r).map (· >>> n) = put (H.map (· >>> n)) (r >>> n) := by
  have hf1 : (H.map (· >>> n)).filter (fun b => decide (b.log2 < (r >>> n).log2)) = (H.filter (fun b => decide (b.log2 < r.log2))).map (· >>> n) := by
    rw [List.filter_map]
    congr 1
    apply List.filter_congr
    intro b hb
    have h1 := shr_log2 (hH b hb)
    have h2 := shr_log2 hr
    simp only [Function.comp, decide_eq_decide]
    omega
  have hf2 : (H.map (· >>> n)).filter (fun b => decide ((r >>> n).log2 < b.log2)) = (H.filter (fun b => decide (r.log2 < b.log2))).map (· >>> n) := by
    rw [List.filter_map]
    congr 1
    apply List.filter_congr
    intro b hb
    have h1 := shr_log2 (hH b hb)
    have h2 := shr_log2 hr
    simp only [Function.comp, decide_eq_decide]
    omega
  simp only [put, List.map_append, List.map_cons, hf1, hf2, List.map_map]
  congr 2
  apply List.map_congr_left
  intro b _
  have e : (b >>> n).testBit (r >>> n).log2 = b.testBit r.log2 := by rw [Nat.testBit_shiftRight, shr_log2 hr]
  simp only [Function.comp, stp, e]
  split
  · rw [Nat.shiftRight_xor_distrib]
  · rfl
theorem put_low {Q H : List Nat} {r n : Nat} (h0 : ∀ b ∈ H, b ≠ 0) (hH : ∀ b ∈ H, 2 ^ n ≤ b) (hr0 : r ≠ 0) (hr : r < 2 ^ n) : put (Q ++ H) r = put Q r ++ H.map (fun b => stp b r) := by
  have hl := log2_lt_of hr0 hr
  have e1 : H.filter (fun b => decide (b.log2 < r.log2)) = [] := by
    rw [List.filter_eq_nil_iff]; intro b hb; have := (Nat.le_log2 (h0 b hb)).2 (hH b hb); simp; omega
  have e2 : H.filter (fun b => decide (r.log2 < b.log2)) = H := by
    rw [List.filter_eq_self]; intro b hb; have := (Nat.le_log2 (h0 b hb)).2 (hH b hb); simp; omega
  simp only [put, List.filter_append, e1, e2, List.map_append, List.append_nil, List.append_assoc, List.cons_append]
theorem put_high {Q H : List Nat} {r n : Nat} (h0 : ∀ b ∈ Q, b ≠ 0) (hQ : ∀ b ∈ Q, b < 2 ^ n) (hr : 2 ^ n ≤ r) : put (Q ++ H) r = Q ++ put H r := by
  have hr0 : r ≠ 0 := by have := Nat.two_pow_pos n; omega
  have hl := (Nat.le_log2 hr0).2 hr
  have e1 : Q.filter (fun b => decide (b.log2 < r.log2)) = Q := by
    rw [List.filter_eq_self]; intro b hb; have := log2_lt_of (h0 b hb) (hQ b hb); simp; omega
  have e2 : Q.filter (fun b => decide (r.log2 < b.log2)) = [] := by
    rw [List.filter_eq_nil_iff]; intro b hb; have := log2_lt_of (h0 b hb) (hQ b hb); simp; omega
  simp only [put, List.filter_append, e1, e2, List.nil_append, List.append_assoc]
structure Inv (n : Nat) (P I Q R : List Nat) : Prop where
  bp : Bas P
  bi : Bas I
  bq : Bas Q
  br : Bas R
  H : ∃ H, P = Q ++ H ∧ (∀ h ∈ H, 2 ^ n ≤ h) ∧ H.map (· >>> n) = I
  low : ∀ q ∈ Q, q < 2 ^ n
  up : ∀ r ∈ R, 2 ^ n ≤ r
  ri : R.map (· >>> n) = I
  par : ∀ x, lin Q (lin R x) = lin P x
/-- One more set: the quiet ones and the pairs. -/
def qstep (n : Nat) (QR : List Nat × List Nat) (s : Nat) : List Nat × List Nat :=
  if lin QR.2 s >>> n = 0 then (add QR.1 (lin QR.2 s), QR.2) else (QR.1, add QR.2 (lin QR.2 s))
theorem Inv.start (n : Nat) : Inv n [] [] [] [] := ⟨Bas.nil, Bas.nil, Bas.nil, Bas.nil, ⟨[], rfl, by simp, rfl⟩, by simp, by simp, rfl, fun _ => by simp [lin, cor]⟩
theorem Inv.tops {n : Nat} {P I Q R : List Nat} (h : Inv n P I Q R) (s : Nat) : lin R s >>> n = lin I (s >>> n) ∧ lin P s >>> n = lin I (s >>> n) := by
  have h1 : lin R s >>> n = lin I (s >>> n) := by rw [lin_shr s h.up, h.ri]
  exact ⟨h1, by rw [← h.par, lin_shr_low _ h.low, h1]⟩
theorem Inv.step {n : Nat} {P I Q R : List Nat} (h : Inv n P I Q R) (s : Nat) :
    Inv n (add P s) (add I (s >>> n)) (qstep n (Q, R) s).1 (qstep n (Q, R) s).2 := by
  obtain ⟨t1, t2⟩ := h.tops s
  have hu : lin R (lin R s) = lin R s := lin_idem h.br s
  have hq : lin Q (lin R s) = lin P s := h.par s
  obtain ⟨H, hP, hH, hI⟩ := h.H
  have hH0 : ∀ b ∈ H, b ≠ 0 := fun b hb => h.bp.1 b (by rw [hP]; simp [hb])
  unfold qstep
  by_cases hz : lin R s >>> n = 0
  · rw [if_pos hz]
    have eI : add I (s >>> n) = I := by unfold add; rw [if_pos (by rw [← t1]; exact hz)]
    rw [eI]
    simp only
    by_cases hr : lin P s = 0
    · have eP : add P s = P := by unfold add; rw [if_pos hr]
      have eQ : add Q (lin R s) = Q := by unfold add; rw [if_pos (by rw [hq]; exact hr)]
      rw [eP, eQ]; exact h
    · have eP : add P s = put P (lin P s) := by unfold add; rw [if_neg hr]
      have eQ : add Q (lin R s) = put Q (lin P s) := by unfold add; rw [hq, if_neg hr]
      have hlow : lin P s < 2 ^ n := shr_eq_zero.1 (by rw [t2, ← t1]; exact hz)
      have hcP := lin_clean h.bp s
      have hcQ : Cl Q (lin P s) := by rw [← hq]; exact lin_clean h.bq _
      rw [eP, eQ]
      refine ⟨put_bas h.bp hr hcP, h.bi, put_bas h.bq hr hcQ, h.br, ⟨H.map (fun b => stp b (lin P s)), ?_, ?_, ?_⟩, put_lt h.low hlow, h.up, h.ri, fun x => ?_⟩
      · rw [← put_low hH0 hH hr hlow, ← hP]
      · intro b hb
        simp only [List.mem_map] at hb
        obtain ⟨a, ha, rfl⟩ := hb
        have hal := (Nat.le_log2 (hH0 a ha)).2 (hH a ha)
        have hrl := log2_lt_of hr hlow
        refine le_of_log2 (stp_ne (hH0 a ha) (by omega)) ?_
        rw [stp_log2 (hH0 a ha) (by omega)]; exact hal
      · rw [← hI, List.map_map]
        apply List.map_congr_left
        intro b _
        simp only [Function.comp, stp]
        split
        · rw [Nat.shiftRight_xor_distrib, shr_eq_zero.2 hlow, Nat.xor_zero]
        · rfl
      · rw [put_lin h.bq hr hcQ, put_lin h.bp hr hcP, h.par]
  · rw [if_neg hz]
    have hz2 : lin P s >>> n ≠ 0 := by rw [t2, ← t1]; exact hz
    have hr : lin P s ≠ 0 := by intro e; rw [e] at hz2; simp at hz2
    have hu0 : lin R s ≠ 0 := by intro e; rw [e] at hz; simp at hz
    have hrn : 2 ^ n ≤ lin P s := by have := mt shr_eq_zero.2 hz2; omega
    have hun : 2 ^ n ≤ lin R s := by have := mt shr_eq_zero.2 hz; omega
    have eP : add P s = put P (lin P s) := by unfold add; rw [if_neg hr]
    have eR : add R (lin R s) = put R (lin R s) := by unfold add; rw [hu, if_neg hu0]
    have eI : add I (s >>> n) = put I (lin P s >>> n) := by unfold add; rw [← t2, if_neg hz2]
    have hcP := lin_clean h.bp s
    have hcR := lin_clean h.br s
    have hsame : lin R s >>> n = lin P s >>> n := by rw [t1, t2]
    simp only
    rw [eP, eR, eI]
    have hiI : Bas (put I (lin P s >>> n)) := by rw [← eI]; exact add_bas h.bi _
    refine ⟨put_bas h.bp hr hcP, hiI, h.bq, put_bas h.br hu0 hcR, ⟨put H (lin P s), ?_, put_ge hH0 hH hrn, ?_⟩, h.low, put_ge h.br.1 h.up hun, ?_, fun x => ?_⟩
    · rw [← put_high (fun b hb => h.bq.1 b hb) h.low hrn, ← hP]
    · rw [put_shr hH hrn, hI]
    · rw [put_shr h.up hun, h.ri, hsame]
    · rw [put_lin h.br hu0 hcR, put_lin h.bp hr hcP, ← h.par x]
      have htop : (lin R s).log2 = (lin P s).log2 := by
        have a1 := shr_log2 hun
        have a2 := shr_log2 hrn
        rw [hsame] at a1; omega
      have hn : n ≤ (lin P s).log2 := (Nat.le_log2 hr).2 hrn
      have hb : (lin Q (lin R x)).testBit (lin P s).log2 = (lin R x).testBit (lin P s).log2 := by
        rw [lin, Nat.testBit_xor, Nat.testBit_lt_two_pow (Nat.lt_of_lt_of_le (cor_lt _ h.low) (Nat.pow_le_pow_right (by decide) hn))]; simp
      rw [stp_eq, stp_eq, lin_xor, htop, hb]
      congr 1
      split
      · exact hq
      · exact lin_zero Q
theorem lt_of_bit {n m : Nat} (i : Nat) (h1 : n.testBit i = false) (h2 : m.testBit i = true) (h : ∀ j, i < j → n.testBit j = m.testBit j) : n < m := by
  have e : n / 2 ^ (i + 1) = m / 2 ^ (i + 1) := by
    apply Nat.eq_of_testBit_eq
    intro j
    rw [Nat.testBit_div_two_pow, Nat.testBit_div_two_pow]
    exact h _ (by omega)
  rw [Nat.testBit_eq_decide_div_mod_eq, decide_eq_false_iff_not] at h1
  rw [Nat.testBit_eq_decide_div_mod_eq, decide_eq_true_eq] at h2
  rw [Nat.pow_succ, ← Nat.div_div_eq_div_mul, ← Nat.div_div_eq_div_mul] at e
  have hlt : n / 2 ^ i < m / 2 ^ i := by omega
  exact Nat.lt_of_div_lt_div hlt
/-- All sums of a basis, in order. -/
def sums (B : List Nat) : List Nat := B.foldl (fun S b => S ++ S.map (fun s => s ^^^ b)) [0]
theorem sums_snoc (B : List Nat) (b : Nat) : sums (B ++ [b]) = sums B ++ (sums B).map (fun s => s ^^^ b) := by simp [sums]
theorem sums_length (B : List Nat) : (sums B).length = 2 ^ B.length := by
  suffices h : ∀ (B S : List Nat), (B.foldl (fun S b => S ++ S.map (fun s => s ^^^ b)) S).length = S.length * 2 ^ B.length by
    have := h B [0]; simpa [sums] using this
  intro B
  induction B with
  | nil => simp
  | cons b B ih => intro S; rw [List.foldl_cons, ih, List.length_append, List.length_map, List.length_cons, Nat.pow_succ, ← Nat.mul_two, Nat.mul_assoc, Nat.mul_comm 2]
theorem snoc_ind {α : Type} {p : List α → Prop} (h0 : p []) (h1 : ∀ B b, p B → p (B ++ [b])) (B : List α) : p B := by
  have h : ∀ (n : Nat) (B : List α), B.length = n → p B := by
    intro n
    induction n with
    | zero => intro B hB; rw [List.length_eq_zero_iff.1 hB]; exact h0
    | succ n ih =>
      intro B hB
      have hne : B ≠ [] := by intro e; rw [e] at hB; simp at hB
      rw [← List.dropLast_concat_getLast hne]
      exact h1 _ _ (ih _ (by rw [List.length_dropLast, hB]; rfl))
  exact h _ B rfl
theorem Bas.front {B : List Nat} {b : Nat} (h : Bas (B ++ [b])) : Bas B ∧ b ≠ 0 ∧ (∀ a ∈ B, a.log2 < b.log2) ∧ Cl B b := by
  have hp := List.pairwise_append.1 h.2
  exact ⟨⟨fun c hc => h.1 c (by simp [hc]), hp.1⟩, h.1 b (by simp), fun a ha => (hp.2.2 a ha b (by simp)).1, fun a ha => (hp.2.2 a ha b (by simp)).2⟩
theorem sums_lin {B : List Nat} (h : Bas B) : ∀ s ∈ sums B, lin B s = 0 := by
  suffices H : ∀ (A C : List Nat), (∀ a ∈ A, lin C a = 0) → ∀ s ∈ sums A, lin C s = 0 from H B B (fun a ha => lin_mem h ha)
  intro A
  induction A using snoc_ind with
  | h0 => intro C _ s hs; simp [sums] at hs; rw [hs]; exact lin_zero C
  | h1 A a ih =>
    intro C hC s hs
    rw [sums_snoc, List.mem_append, List.mem_map] at hs
    have hA : ∀ b ∈ A, lin C b = 0 := fun b hb => hC b (by simp [hb])
    rcases hs with hs | ⟨t, ht, rfl⟩
    · exact ih C hA s hs
    · rw [lin_xor, ih C hA t ht, hC a (by simp)]; rfl
theorem sums_bit {B : List Nat} {k : Nat} (h : ∀ b ∈ B, b.log2 < k) : ∀ s ∈ sums B, ∀ j, k ≤ j → s.testBit j = false := by
  induction B using snoc_ind with
  | h0 => intro s hs j _; simp [sums] at hs; rw [hs]; simp
  | h1 A a ih =>
    intro s hs j hj
    rw [sums_snoc, List.mem_append, List.mem_map] at hs
    have hA := ih (fun b hb => h b (by simp [hb]))
    rcases hs with hs | ⟨t, ht, rfl⟩
    · exact hA s hs j hj
    · rw [Nat.testBit_xor, hA t ht j hj, bit_hi (Nat.lt_of_lt_of_le (h a (by simp)) hj)]; rfl
theorem sums_rise {B : List Nat} (h : Bas B) : ∀ p, Cl B p → (sums B).Pairwise (fun a c => a ^^^ p < c ^^^ p) := by
  induction B using snoc_ind with
  | h0 => intro p _; simp [sums]
  | h1 A a ih =>
    intro p hp
    obtain ⟨hA, ha0, hlt, hcl⟩ := h.front
    have hpA : Cl A p := fun b hb => hp b (by simp [hb])
    have hpa : p.testBit a.log2 = false := hp a (by simp)
    rw [sums_snoc, List.pairwise_append]
    refine ⟨ih hA p hpA, ?_, ?_⟩
    · rw [List.pairwise_map]
      refine List.Pairwise.imp ?_ (ih hA (a ^^^ p) (fun b hb => by rw [Nat.testBit_xor, hcl b hb, hpA b hb]; rfl))
      intro x y hxy
      rw [Nat.xor_assoc, Nat.xor_assoc]; exact hxy
    · intro x hx y hy
      rw [List.mem_map] at hy
      obtain ⟨t, ht, rfl⟩ := hy
      have hb := sums_bit hlt
      apply lt_of_bit a.log2
      · rw [Nat.testBit_xor, hb x hx _ (Nat.le_refl _), hpa]; rfl
      · rw [Nat.testBit_xor, Nat.testBit_xor, hb t ht _ (Nat.le_refl _), hpa, bit_top ha0]; rfl
      · intro j hj
        rw [Nat.testBit_xor, Nat.testBit_xor, Nat.testBit_xor, hb x hx j (by omega), hb t ht j (by omega), bit_hi hj]; simp
theorem sums_mem {B : List Nat} {x : Nat} (hx : lin B x = 0) : x ∈ sums B := by
  have e : x = cor B x := by
    have h1 : x ^^^ cor B x = 0 := hx
    have h2 := congrArg (fun y => y ^^^ cor B x) h1
    simpa [xx] using h2
  suffices H : ∀ (A : List Nat) (y : Nat), cor A y ∈ sums A by rw [e]; exact H B x
  intro A
  induction A using snoc_ind with
  | h0 => intro y; simp [cor, sums]
  | h1 A a ih =>
    intro y
    rw [sums_snoc, cor_append, List.mem_append, List.mem_map]
    cases hb : y.testBit a.log2
    · left; simpa [cor, hb] using ih y
    · right; exact ⟨cor A y, ih y, by simp [cor, hb]⟩
/-- Two rising lists with the same elements are one. -/
theorem rise_eq : ∀ {A B : List Nat}, A.Pairwise (· < ·) → B.Pairwise (· < ·) → (∀ x, x ∈ A ↔ x ∈ B) → A = B
  | [], [], _, _, _ => rfl
  | [], b :: B, _, _, h => by have := (h b).2 (by simp); cases this
  | a :: A, [], _, _, h => by have := (h a).1 (by simp); cases this
  | a :: A, b :: B, hA, hB, h => by
    rw [List.pairwise_cons] at hA hB
    have hab : a = b := by
      rcases List.mem_cons.1 ((h a).1 (by simp)) with e | h1
      · exact e
      · rcases List.mem_cons.1 ((h b).2 (by simp)) with e | h2
        · exact e.symm
        · have := hB.1 a h1; have := hA.1 b h2; omega
    subst hab
    congr 1
    refine rise_eq hA.2 hB.2 fun x => ⟨fun hx => ?_, fun hx => ?_⟩
    · rcases List.mem_cons.1 ((h x).1 (by simp [hx])) with e | h1
      · have := hA.1 x hx; omega
      · exact h1
    · rcases List.mem_cons.1 ((h x).2 (by simp [hx])) with e | h1
      · have := hB.1 x hx; omega
      · exact h1
theorem sums_sorted {B : List Nat} (h : Bas B) : (sums B).Pairwise (· < ·) := by
  have := sums_rise h 0 (fun _ _ => by simp)
  simpa using this
theorem sums_filter {B : List Nat} (h : Bas B) {n : Nat} (hn : ∀ b ∈ B, b < 2 ^ n) : sums B = (List.range (2 ^ n)).filter (fun x => decide (lin B x = 0)) := by
  refine rise_eq (sums_sorted h) (List.Pairwise.filter _ List.pairwise_lt_range) fun x => ⟨fun hx => ?_, fun hx => ?_⟩
  · rw [List.mem_filter, List.mem_range, decide_eq_true_eq]
    refine ⟨?_, sums_lin h x hx⟩
    apply Nat.lt_pow_two_of_testBit
    intro j hj
    exact sums_bit (fun b hb => log2_lt_of (h.1 b hb) (hn b hb)) x hx j hj
  · rw [List.mem_filter, decide_eq_true_eq] at hx
    exact sums_mem hx.2
theorem bas_length {B : List Nat} (h : Bas B) {n : Nat} (hn : ∀ b ∈ B, b < 2 ^ n) : B.length ≤ n := by
  suffices H : ∀ (B : List Nat) (n : Nat), Bas B → (∀ b ∈ B, b.log2 < n) → B.length ≤ n from H B n h (fun b hb => log2_lt_of (h.1 b hb) (hn b hb))
  intro B
  induction B using snoc_ind with
  | h0 => intro n _ _; simp
  | h1 A a ih =>
    intro n hB hl
    obtain ⟨hA, _, hlt, _⟩ := hB.front
    have h1 := ih a.log2 hA hlt
    have h2 := hl a (by simp)
    simp; omega
/-- A list is a basis just where adding its sets one by one gives it back. -/
theorem add_snoc {L : List Nat} {c : Nat} (h : Bas (L ++ [c])) : add L c = L ++ [c] := by
  obtain ⟨hL, hc0, hlt, hcl⟩ := h.front
  have e : lin L c = c := lin_of_clean hcl
  have e1 : L.filter (fun b => decide (b.log2 < c.log2)) = L := by rw [List.filter_eq_self]; intro b hb; simpa using hlt b hb
  have e2 : L.filter (fun b => decide (c.log2 < b.log2)) = [] := by rw [List.filter_eq_nil_iff]; intro b hb; have := hlt b hb; simp; omega
  unfold add
  rw [e, if_neg hc0, put, e1, e2]; rfl
theorem fold_add_bas (L : List Nat) : ∀ B, Bas B → Bas (L.foldl add B) := by
  induction L with
  | nil => intro B h; exact h
  | cons a L ih => intro B h; exact ih _ (add_bas h a)
theorem fold_add_iff (L : List Nat) : L.foldl add [] = L ↔ Bas L := by
  constructor
  · intro e; rw [← e]; exact fold_add_bas L [] Bas.nil
  · induction L using snoc_ind with
    | h0 => intro _; rfl
    | h1 A a ih => intro h; rw [List.foldl_append, ih h.front.1]; exact add_snoc h
/-- The first of those with the least size, and of those with the least size the least one. -/
def minBy (f : Nat → Nat) (m s : Nat) : Nat := if f s < f m then s else m
def minLex (f : Nat → Nat) (m s : Nat) : Nat := if f s < f m ∨ f s = f m ∧ s < m then s else m
theorem min_same (f : Nat → Nat) (L : List Nat) : ∀ m, (m :: L).Pairwise (· < ·) → L.foldl (minBy f) m = L.foldl (minLex f) m := by
  induction L with
  | nil => intro m _; rfl
  | cons a L ih =>
    intro m h
    have h1 := List.pairwise_cons.1 h
    have hma : m < a := h1.1 a (by simp)
    have e : minLex f m a = minBy f m a := by
      unfold minLex minBy
      by_cases h2 : f a < f m
      · simp [h2]
      · rw [if_neg h2, if_neg (by omega)]
    rw [List.foldl_cons, List.foldl_cons, e]
    apply ih
    unfold minBy
    split
    · exact h1.2
    · exact List.pairwise_cons.2 ⟨fun b hb => h1.1 b (by simp [hb]), (List.pairwise_cons.1 h1.2).2⟩
end Go.Proofs.YtibikoajejfdeaaDoor
