/-
Texts joined: FU MT.
-/
import Derived.Test.YtmcimfblhpflnaaDoorBT
import Derived.Test.YtmcimfblhpflnaaDoorTP
/-
Parents are told by the graph alone. Nothing here speaks of the program.
-/
namespace Go.Proofs.YtmcimfblhpflnaaDoor
section
variable {F : Nat → Nat} {n : Nat}
/-- A search that has reached all. -/
structure Run (F : Nat → Nat) (n : Nat) (o t : List Nat) (p : Nat → Int) : Prop where
  qu : Qu F n o t p (o ++ t).length
  all : ∀ v, v < n → v ∈ o ++ t
theorem Run.edge {o t : List Nat} {p : Nat → Int} (h : Run F n o t p) {a b : Nat} (ha : a < n) (hb : (F a).testBit b = true) : p a = (b : Nat) ∨ p b = (a : Nat) := by
  obtain ⟨m, hm, e⟩ := List.mem_iff_getElem.1 (h.all a ha)
  exact (h.qu.done m (by omega) a (by rw [List.getElem?_eq_getElem hm, e]) b hb).2
theorem grow_same (hF : Sym F n) (hn : n ≤ 16) {o t o' t' : List Nat} {p p' : Nat → Int} (h : Grow F n o t p) (h' : Run F n o' t' p') : ∀ v ∈ o ++ t, p' v = p v := by
  induction h with
  | nil => simp
  | @plant o t p r h hs hr hlt hu ih =>
    intro v hv
    by_cases e : v = r
    · subst e
      rw [upd_same]
      have hg : Grow F n (o ++ t) [v] (upd p v (-1)) := .plant h hs hr hlt hu
      have h1 := ((hg.tops hF hn).1 v (by simp)).1 (upd_same _ _ _)
      exact ((h'.qu.gr.tops hF hn).1 v (h'.all v hlt)).2 h1
    · rw [upd_other e]
      rcases List.mem_append.1 hv with hv | hv
      · exact ih v hv
      · simp at hv; exact absurd hv e
  | @child o t p u j h hu hb hj hlt ih =>
    intro v hv
    by_cases e : v = j
    · subst e
      rw [upd_same]
      have hum : u ∈ o ++ t := List.mem_append.2 (.inr hu)
      rcases h'.edge (h.lt u hum) hb with h1 | h1
      · rw [ih u hum] at h1
        rcases h.par u hum with h2 | ⟨x, hx, h2, _⟩
        · omega
        · have : x = v := by omega
          exact absurd (this ▸ hx) hj
      · exact h1
    · rw [upd_other e]
      exact ih v ((mem_snoc.1 hv).resolve_right e)
open Classical in
/-- The parents. -/
noncomputable def parV (F : Nat → Nat) (n : Nat) : Nat → Int := if h : ∃ o t p, Run F n o t p then h.choose_spec.choose_spec.choose else fun _ => 0
theorem Run.par (hF : Sym F n) (hn : n ≤ 16) {o t : List Nat} {p : Nat → Int} (h : Run F n o t p) : ∀ v, v < n → p v = parV F n v := by
  intro v hv
  have hex : ∃ o t p, Run F n o t p := ⟨o, t, p, h⟩
  have e : parV F n = hex.choose_spec.choose_spec.choose := by unfold parV; rw [dif_pos hex]
  have hr := hex.choose_spec.choose_spec.choose_spec
  rw [e]
  exact grow_same hF hn hr.qu.gr h v (hr.all v hv)
/-! ### the roots in their order -/
theorem roots_rising (F : Nat → Nat) (n : Nat) : (roots F n n).Pairwise (· < ·) := List.Pairwise.filter _ List.pairwise_lt_range
theorem roots_lt {i j a b : Nat} (hi : (roots F n n)[i]? = some a) (hj : (roots F n n)[j]? = some b) : i < j ↔ a < b := by
  have hp := roots_rising F n
  rw [List.pairwise_iff_getElem] at hp
  obtain ⟨h1, e1⟩ := List.getElem?_eq_some_iff.1 hi
  obtain ⟨h2, e2⟩ := List.getElem?_eq_some_iff.1 hj
  constructor
  · intro h
    have := hp i j h1 h2 h
    rw [e1, e2] at this
    exact this
  · intro h
    apply Nat.lt_of_not_le
    intro hle
    rcases Nat.lt_or_eq_of_le hle with h3 | h3
    · have := hp j i h2 h1 h3
      rw [e1, e2] at this
      omega
    · subst h3
      rw [hi] at hj
      injection hj with hj
      omega
theorem root_at {v : Nat} (h : root F n v = true) (hv : v < n) : ∃ i : Nat, (roots F n n)[i]? = some v := by
  have hm : v ∈ roots F n n := roots_mem.2 ⟨hv, h⟩
  obtain ⟨i, hi, e⟩ := List.mem_iff_getElem.1 hm
  exact ⟨i, by rw [List.getElem?_eq_getElem hi, e]⟩
/-- The roots that have been taken, and what is reached from them. -/
structure Taken (F : Nat → Nat) (n : Nat) (o t : List Nat) (p : Nat → Int) (m idx : Nat) : Prop where
  qu : Qu F n o t p m
  len : (o ++ t).length = m
  has : ∀ j r, j < idx → (roots F n n)[j]? = some r → r ∈ o ++ t
  only : ∀ v ∈ o ++ t, root F n v = true → ∃ j, j < idx ∧ (roots F n n)[j]? = some v
  no : ∀ v, v ∉ o ++ t → p v = -1
variable {o t : List Nat} {p : Nat → Int} {m idx r : Nat}
theorem taken_start (F : Nat → Nat) (n : Nat) : Taken F n [] [] (fun _ => -1) 0 0 := ⟨qu_start F n _, rfl, fun j r hj => absurd hj (by omega), by simp, fun _ _ => rfl⟩
theorem Taken.fresh (h : Taken F n o t p m idx) (hr : (roots F n n)[idx]? = some r) : r ∉ o ++ t := by
  intro hm
  have hrt := roots_mem.1 (List.mem_of_getElem? hr)
  obtain ⟨j, hj, e⟩ := h.only r hm hrt.2
  have := (roots_lt e hr).1 hj
  omega
theorem Taken.below (hF : Sym F n) (hn : n ≤ 16) (h : Taken F n o t p m idx) (hr : (roots F n n)[idx]? = some r) : ∀ u, u < r → u ∈ o ++ t := by
  intro u hu
  have hrn := (roots_mem.1 (List.mem_of_getElem? hr)).1
  have hun : u < n := by omega
  have hp := comp_part hF hun
  have hl := root_low hF hn hp
  have hle := low_le (hp.lt16 hn) (comp_self F n u)
  obtain ⟨j, hj⟩ := root_at hl.1 (hp.low_lt hn)
  have hji : j < idx := (roots_lt hj hr).2 (by omega)
  have hm := h.has j _ hji hj
  have hs : Shut F (o ++ t) := h.qu.shut h.len.symm
  exact hp.least _ (shut_clo hs n) _ (hp.low hn) hm u (comp_self F n u)
theorem Taken.step (hF : Sym F n) (hn : n ≤ 16) (h : Taken F n o t p m idx) (hr : (roots F n n)[idx]? = some r) {t' : List Nat} {p' : Nat → Int} {m' : Nat} (hq : Qu F n (o ++ t) t' p' m') (hl : ((o ++ t) ++ t').length = m')
    (hm : r ∈ (o ++ t) ++ t') (hno : ∀ v, v ∉ (o ++ t) ++ t' → p' v = -1) : Taken F n (o ++ t) t' p' m' (idx + 1) := by
  have hrt := roots_mem.1 (List.mem_of_getElem? hr)
  have hrt' : r ∈ t' := (List.mem_append.1 hm).resolve_left (h.fresh hr)
  refine ⟨hq, hl, fun j r' hj hr' => ?_, fun v hv hroot => ?_, hno⟩
  · by_cases e : j = idx
    · subst e
      rw [hr] at hr'
      injection hr' with hr'
      exact hr' ▸ hm
    · exact List.mem_append.2 (.inl (h.has j r' (by omega) hr'))
  · rcases List.mem_append.1 hv with hv | hv
    · obtain ⟨j, hj, e⟩ := h.only v hv hroot
      exact ⟨j, by omega, e⟩
    · have hone := hq.gr.one hF (fun x hx u hu => by
        rcases hq.gr.par x (List.mem_append.2 (.inr hx)) with h1 | ⟨y, _, h2, h3⟩
        · omega
        · have : y = u := by omega
          subst this; exact h3) v hv r hrt'
      have h1 : low (comp F n v) = v := by simpa [root] using hroot
      have h2 : low (comp F n r) = r := by simpa [root] using hrt.2
      have : v = r := by rw [← h1, hone, h2]
      exact ⟨idx, by omega, this ▸ hr⟩
theorem Taken.full (hF : Sym F n) (hn : n ≤ 16) (h : Taken F n o t p m (roots F n n).length) : Run F n o t p := by
  have hs : Shut F (o ++ t) := h.qu.shut h.len.symm
  refine ⟨by rw [h.len]; exact h.qu, fun v hv => ?_⟩
  have hp := comp_part hF hv
  have hl := root_low hF hn hp
  obtain ⟨j, hj⟩ := root_at hl.1 (hp.low_lt hn)
  have hjl := (List.getElem?_eq_some_iff.1 hj).1
  exact hp.least _ (shut_clo hs n) _ (hp.low hn) (h.has j _ hjl hj) v (comp_self F n v)
end
end Go.Proofs.YtmcimfblhpflnaaDoor
/-
The order of the search is told by the graph alone, and what is matched in it. Nothing here speaks of the program.
-/
namespace Go.Proofs.YtmcimfblhpflnaaDoor
theorem le_of_all : ∀ (n : Nat) (l : List Nat), (∀ v, v < n → v ∈ l) → n ≤ l.length
  | 0, _, _ => Nat.zero_le _
  | n + 1, l, h => by
    have hm := h n (by omega)
    have h1 := le_of_all n (l.erase n) (fun v hv => by
      have hne : v ≠ n := by omega
      exact (List.mem_erase_of_ne hne).2 (h v (by omega)))
    have h2 := List.length_erase (a := n) (l := l)
    rw [if_pos hm] at h2
    have := List.length_pos_of_mem hm
    omega
section
variable {F : Nat → Nat} {n : Nat}
theorem Run.len {o t : List Nat} {p : Nat → Int} (h : Run F n o t p) : (o ++ t).length = n :=
  Nat.le_antisymm (nodup_le h.qu.gr.nodup h.qu.gr.lt) (le_of_all n _ h.all)
/-- The order of the search. -/
def ordL (F : Nat → Nat) (n : Nat) : List Nat := seqL F n n
theorem Run.ord {o t : List Nat} {p : Nat → Int} (h : Run F n o t p) : o ++ t = ordL F n := by
  have := h.qu.seq rfl
  rw [h.len] at this
  exact this
end
/-! ### what is matched -/
/-- One button is looked at: what is taken, and the pairs in the order in which they are found. -/
def mtStep (p : Nat → Int) (s : Nat × List (Nat × Nat)) (i : Nat) : Nat × List (Nat × Nat) :=
  if p i < 0 ∨ s.1.testBit i = true ∨ s.1.testBit (p i).toNat = true then s
  else (s.1 ||| (2 ^ i ||| 2 ^ (p i).toNat), s.2 ++ [(min i (p i).toNat, max i (p i).toNat)])
def mtRun (p : Nat → Int) (l : List Nat) : Nat × List (Nat × Nat) := l.foldl (mtStep p) (0, [])
theorem mtRun_snoc (p : Nat → Int) (l : List Nat) (i : Nat) : mtRun p (l ++ [i]) = mtStep p (mtRun p l) i := by simp [mtRun]
theorem mtStep_same {p q : Nat → Int} {s : Nat × List (Nat × Nat)} {i : Nat} (h : p i = q i) : mtStep p s i = mtStep q s i := by simp [mtStep, h]
theorem mtRun_same {p q : Nat → Int} {l : List Nat} (h : ∀ v ∈ l, p v = q v) : mtRun p l = mtRun q l := by
  have key : ∀ (l : List Nat) (s : Nat × List (Nat × Nat)), (∀ v ∈ l, p v = q v) → l.foldl (mtStep p) s = l.foldl (mtStep q) s := by
    intro l
    induction l with
    | nil => simp
    | cons a r ih =>
      intro s h
      rw [List.foldl_cons, List.foldl_cons, mtStep_same (h a (by simp))]
      exact ih _ fun v hv => h v (List.mem_cons_of_mem _ hv)
  exact key l _ h
def ends (L : List (Nat × Nat)) : List Nat := L.flatMap fun e => [e.1, e.2]
theorem ends_snoc (L : List (Nat × Nat)) (e : Nat × Nat) : ends (L ++ [e]) = ends L ++ [e.1, e.2] := by simp [ends]
theorem ends_length (L : List (Nat × Nat)) : (ends L).length = 2 * L.length := by
  induction L with
  | nil => rfl
  | cons a r ih => simp [ends] at ih ⊢; omega
/-- No button is in two pairs, and each that is in one is taken. -/
structure Mat (n : Nat) (s : Nat × List (Nat × Nat)) : Prop where
  nd : (ends s.2).Nodup
  lt : ∀ v ∈ ends s.2, v < n
  bit : ∀ v, s.1.testBit v = true ↔ v ∈ ends s.2
  rise : ∀ e ∈ s.2, e.1 < e.2
theorem Mat.start (n : Nat) : Mat n (0, []) := ⟨by simp [ends], by simp [ends], by simp [ends], by simp⟩
theorem Mat.step {n : Nat} {p : Nat → Int} {s : Nat × List (Nat × Nat)} {i : Nat} (h : Mat n s) (hi : i < n) (hp : p i < 0 ∨ ∃ u : Nat, p i = u ∧ u < n ∧ u ≠ i) : Mat n (mtStep p s i) := by
  unfold mtStep
  split
  · exact h
  · rename_i hc
    rw [not_or, not_or] at hc
    obtain ⟨c1, c2, c3⟩ := hc
    obtain ⟨u, e, hu, hne⟩ := hp.resolve_left c1
    have et : (p i).toNat = u := by omega
    rw [et] at c3 ⊢
    have ni : i ∉ ends s.2 := fun hm => c2 ((h.bit i).2 hm)
    have nu : u ∉ ends s.2 := fun hm => c3 ((h.bit u).2 hm)
    have two : (min i u = i ∧ max i u = u ∧ i < u) ∨ (min i u = u ∧ max i u = i ∧ u < i) := by omega
    refine ⟨?_, fun v hv => ?_, fun v => ?_, fun x hx => ?_⟩
    · rw [ends_snoc, List.nodup_append]
      refine ⟨h.nd, ?_, fun a ha b hb => ?_⟩
      · rcases two with ⟨a, b, c⟩ | ⟨a, b, c⟩ <;> simp [a, b] <;> omega
      · rcases two with ⟨c, d, _⟩ | ⟨c, d, _⟩ <;> simp [c, d] at hb <;> rcases hb with rfl | rfl <;> rintro rfl
        · exact ni ha
        · exact nu ha
        · exact nu ha
        · exact ni ha
    · rw [ends_snoc] at hv
      rcases List.mem_append.1 hv with hv | hv
      · exact h.lt v hv
      · simp at hv; omega
    · rw [ends_snoc, List.mem_append, ← h.bit v]
      simp only [Nat.testBit_or, Bool.or_eq_true, Nat.testBit_two_pow, decide_eq_true_eq, List.mem_cons, List.not_mem_nil, or_false]
      rcases two with ⟨c, d, _⟩ | ⟨c, d, _⟩ <;> rw [c, d]
      · constructor
        · rintro (h | h | h)
          · exact .inl h
          · exact .inr (.inl h.symm)
          · exact .inr (.inr h.symm)
        · rintro (h | h | h)
          · exact .inl h
          · exact .inr (.inl h.symm)
          · exact .inr (.inr h.symm)
      · constructor
        · rintro (h | h | h)
          · exact .inl h
          · exact .inr (.inr h.symm)
          · exact .inr (.inl h.symm)
        · rintro (h | h | h)
          · exact .inl h
          · exact .inr (.inr h.symm)
          · exact .inr (.inl h.symm)
    · rcases List.mem_append.1 hx with hx | hx
      · exact h.rise x hx
      · simp at hx; rw [hx]; simp; omega
theorem Mat.len {n : Nat} {s : Nat × List (Nat × Nat)} (h : Mat n s) : 2 * s.2.length ≤ n := by
  rw [← ends_length]; exact nodup_le h.nd h.lt
/-- The lesser ends are all distinct: one order alone is rising. -/
theorem Mat.firsts {n : Nat} {s : Nat × List (Nat × Nat)} (h : Mat n s) : s.2.Pairwise fun a b => a.1 ≠ b.1 := by
  have key : ∀ L : List (Nat × Nat), (ends L).Nodup → L.Pairwise fun a b => a.1 ≠ b.1 := by
    intro L
    induction L with
    | nil => intro _; exact .nil
    | cons a r ih =>
      intro hnd
      have e : ends (a :: r) = [a.1, a.2] ++ ends r := rfl
      rw [e, List.nodup_append] at hnd
      refine .cons (fun b hb => ?_) (ih hnd.2.1)
      exact hnd.2.2 a.1 (by simp) b.1 (List.mem_flatMap.2 ⟨b, hb, by simp⟩)
  exact key s.2 h.nd
/-- A pair put behind all with a lesser first end: what the model does. -/
def putE (e : Nat × Nat) : List (Nat × Nat) → List (Nat × Nat)
  | [] => [e]
  | a :: r => if a.1 < e.1 then a :: putE e r else e :: a :: r
def sortE (L : List (Nat × Nat)) : List (Nat × Nat) := L.foldl (fun out e => putE e out) []
theorem sortE_snoc (L : List (Nat × Nat)) (e : Nat × Nat) : sortE (L ++ [e]) = putE e (sortE L) := by simp [sortE]
theorem putE_perm (e : Nat × Nat) : ∀ L : List (Nat × Nat), (putE e L).Perm (e :: L)
  | [] => .refl _
  | a :: r => by
    unfold putE
    split
    · exact ((putE_perm e r).cons a).trans (.swap _ _ _)
    · exact .refl _
theorem sortE_perm (L : List (Nat × Nat)) : (sortE L).Perm L := by
  have key : ∀ (L out : List (Nat × Nat)), (L.foldl (fun out e => putE e out) out).Perm (L ++ out) := by
    intro L
    induction L with
    | nil => intro out; exact .refl _
    | cons a r ih =>
      intro out
      rw [List.foldl_cons]
      exact (ih _).trans (((putE_perm a out).append_left r).trans List.perm_middle)
  have := key L []
  rw [List.append_nil] at this
  exact this
theorem putE_rising {e : Nat × Nat} : ∀ {L : List (Nat × Nat)}, L.Pairwise (fun a b => a.1 < b.1) → (∀ a ∈ L, a.1 ≠ e.1) → (putE e L).Pairwise (fun a b => a.1 < b.1)
  | [], _, _ => by simp [putE]
  | a :: r, hp, hn => by
    rw [List.pairwise_cons] at hp
    unfold putE
    split
    · rename_i hlt
      refine .cons (fun b hb => ?_) (putE_rising hp.2 fun b hb => hn b (List.mem_cons_of_mem _ hb))
      have := (putE_perm e r).mem_iff.1 hb
      rcases List.mem_cons.1 this with rfl | h
      · exact hlt
      · exact hp.1 b h
    · rename_i hge
      have hne := hn a (by simp)
      refine .cons (fun b hb => ?_) (.cons hp.1 hp.2)
      rcases List.mem_cons.1 hb with rfl | h
      · omega
      · have := hp.1 b h; omega
theorem sortE_rising {L : List (Nat × Nat)} (h : L.Pairwise fun a b => a.1 ≠ b.1) : (sortE L).Pairwise (fun a b => a.1 < b.1) := by
  have key : ∀ (L out : List (Nat × Nat)), out.Pairwise (fun a b => a.1 < b.1) → L.Pairwise (fun a b => a.1 ≠ b.1) → (∀ a ∈ L, ∀ b ∈ out, b.1 ≠ a.1) → (L.foldl (fun out e => putE e out) out).Pairwise (fun a b => a.1 < b.1) := by
    intro L
    induction L with
    | nil => intro out h _ _; exact h
    | cons a r ih =>
      intro out h1 h2 h3
      rw [List.pairwise_cons] at h2
      rw [List.foldl_cons]
      refine ih _ (putE_rising h1 (h3 a (by simp))) h2.2 fun x hx b hb => ?_
      rcases List.mem_cons.1 ((putE_perm a out).mem_iff.1 hb) with rfl | hb
      · exact h2.1 x hx
      · exact h3 x (List.mem_cons_of_mem _ hx) b hb
  exact key L [] .nil h (by simp)
/-- Two lists with the same pairs, both rising, are one. -/
theorem rising_one : ∀ {L M : List (Nat × Nat)}, L.Pairwise (fun a b => a.1 < b.1) → M.Pairwise (fun a b => a.1 < b.1) → L.Perm M → L = M
  | [], M, _, _, h => by rw [h.nil_eq]
  | a :: r, [], _, _, h => absurd h.symm.nil_eq (by simp)
  | a :: r, b :: s, h1, h2, h => by
    rw [List.pairwise_cons] at h1 h2
    have hab : a = b := by
      rcases List.mem_cons.1 (h.mem_iff.1 (by simp : a ∈ a :: r)) with e | hm
      · exact e
      · rcases List.mem_cons.1 (h.mem_iff.2 (by simp : b ∈ b :: s)) with e | hm2
        · exact e.symm
        · have x1 := h2.1 a hm
          have x2 := h1.1 b hm2
          omega
    subst hab
    rw [rising_one h1.2 h2.2 ((List.perm_cons a).1 h)]
section
variable {F : Nat → Nat} {n : Nat}
/-- The parents of a search that has reached all are buttons, and none is its own. -/
theorem Run.par_lt {o t : List Nat} {p : Nat → Int} (hI : Irr F n) (h : Run F n o t p) {i : Nat} (hi : i < n) : p i < 0 ∨ ∃ u : Nat, p i = u ∧ u < n ∧ u ≠ i := by
  rcases h.qu.gr.par i (h.all i hi) with h1 | ⟨u, h1, h2, h3⟩
  · left; omega
  · refine .inr ⟨u, h2, h.qu.gr.lt u h1, ?_⟩
    rintro rfl
    rw [hI u hi] at h3
    cases h3
theorem Run.mat {o t : List Nat} {p : Nat → Int} (hI : Irr F n) (h : Run F n o t p) : ∀ l : List Nat, (∀ v ∈ l, v < n) → Mat n (mtRun p l) := by
  have key : ∀ (l : List Nat) (s : Nat × List (Nat × Nat)), Mat n s → (∀ v ∈ l, v < n) → Mat n (l.foldl (mtStep p) s) := by
    intro l
    induction l with
    | nil => intro s hs _; exact hs
    | cons a r ih =>
      intro s hs hl
      rw [List.foldl_cons]
      exact ih _ (hs.step (hl a (by simp)) (h.par_lt hI (hl a (by simp)))) fun v hv => hl v (List.mem_cons_of_mem _ hv)
  exact fun l hl => key l _ (.start n) hl
end
end Go.Proofs.YtmcimfblhpflnaaDoor
