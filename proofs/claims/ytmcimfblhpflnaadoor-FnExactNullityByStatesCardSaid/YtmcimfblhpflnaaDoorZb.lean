/-
Texts joined: FU MT ST SZ TV TU.
-/
import Derived.Test.YtmcimfblhpflnaaDoorBT
import Derived.Test.YtmcimfblhpflnaaDoorTP
/-
Parents are told by the graph alone. Nothing here speaks of the program.
-/
namespace Go.Proofs.YtmcimfblhpflnaaDoor
section
variable {F : Nat → Nat} {n : Nat}
/-- A search that has reached all. -/
structure Run (F : Nat → Nat) (n : Nat) (o t : List Nat) (p : Nat → Int) : Prop where
  qu : Qu F n o t p (o ++ t).length
  all : ∀ v, v < n → v ∈ o ++ t
theorem Run.edge {o t : List Nat} {p : Nat → Int} (h : Run F n o t p) {a b : Nat} (ha : a < n) (hb : (F a).testBit b = true) : p a = (b : Nat) ∨ p b = (a : Nat) := by
  obtain ⟨m, hm, e⟩ := List.mem_iff_getElem.1 (h.all a ha)
  exact (h.qu.done m (by omega) a (by rw [List.getElem?_eq_getElem hm, e]) b hb).2
theorem grow_same (hF : Sym F n) (hn : n ≤ 16) {o t o' t' : List Nat} {p p' : Nat → Int} (h : Grow F n o t p) (h' : Run F n o' t' p') : ∀ v ∈ o ++ t, p' v = p v := by
  induction h with
  | nil => simp
  | @plant o t p r h hs hr hlt hu ih =>
    intro v hv
    by_cases e : v = r
    · subst e
      rw [upd_same]
      have hg : Grow F n (o ++ t) [v] (upd p v (-1)) := .plant h hs hr hlt hu
      have h1 := ((hg.tops hF hn).1 v (by simp)).1 (upd_same _ _ _)
      exact ((h'.qu.gr.tops hF hn).1 v (h'.all v hlt)).2 h1
    · rw [upd_other e]
      rcases List.mem_append.1 hv with hv | hv
      · exact ih v hv
      · simp at hv; exact absurd hv e
  | @child o t p u j h hu hb hj hlt ih =>
    intro v hv
    by_cases e : v = j
    · subst e
      rw [upd_same]
      have hum : u ∈ o ++ t := List.mem_append.2 (.inr hu)
      rcases h'.edge (h.lt u hum) hb with h1 | h1
      · rw [ih u hum] at h1
        rcases h.par u hum with h2 | ⟨x, hx, h2, _⟩
        · omega
        · have : x = v := by omega
          exact absurd (this ▸ hx) hj
      · exact h1
    · rw [upd_other e]
      exact ih v ((mem_snoc.1 hv).resolve_right e)
open Classical in
/-- The parents. -/
noncomputable def parV (F : Nat → Nat) (n : Nat) : Nat → Int := if h : ∃ o t p, Run F n o t p then h.choose_spec.choose_spec.choose else fun _ => 0
theorem Run.par (hF : Sym F n) (hn : n ≤ 16) {o t : List Nat} {p : Nat → Int} (h : Run F n o t p) : ∀ v, v < n → p v = parV F n v := by
  intro v hv
  have hex : ∃ o t p, Run F n o t p := ⟨o, t, p, h⟩
  have e : parV F n = hex.choose_spec.choose_spec.choose := by unfold parV; rw [dif_pos hex]
  have hr := hex.choose_spec.choose_spec.choose_spec
  rw [e]
  exact grow_same hF hn hr.qu.gr h v (hr.all v hv)
/-! ### the roots in their order -/
theorem roots_rising (F : Nat → Nat) (n : Nat) : (roots F n n).Pairwise (· < ·) := List.Pairwise.filter _ List.pairwise_lt_range
theorem roots_lt {i j a b : Nat} (hi : (roots F n n)[i]? = some a) (hj : (roots F n n)[j]? = some b) : i < j ↔ a < b := by
  have hp := roots_rising F n
  rw [List.pairwise_iff_getElem] at hp
  obtain ⟨h1, e1⟩ := List.getElem?_eq_some_iff.1 hi
  obtain ⟨h2, e2⟩ := List.getElem?_eq_some_iff.1 hj
  constructor
  · intro h
    have := hp i j h1 h2 h
    rw [e1, e2] at this
    exact this
  · intro h
    apply Nat.lt_of_not_le
    intro hle
    rcases Nat.lt_or_eq_of_le hle with h3 | h3
    · have := hp j i h2 h1 h3
      rw [e1, e2] at this
      omega
    · subst h3
      rw [hi] at hj
      injection hj with hj
      omega
theorem root_at {v : Nat} (h : root F n v = true) (hv : v < n) : ∃ i : Nat, (roots F n n)[i]? = some v := by
  have hm : v ∈ roots F n n := roots_mem.2 ⟨hv, h⟩
  obtain ⟨i, hi, e⟩ := List.mem_iff_getElem.1 hm
  exact ⟨i, by rw [List.getElem?_eq_getElem hi, e]⟩
/-- The roots that have been taken, and what is reached from them. -/
structure Taken (F : Nat → Nat) (n : Nat) (o t : List Nat) (p : Nat → Int) (m idx : Nat) : Prop where
  qu : Qu F n o t p m
  len : (o ++ t).length = m
  has : ∀ j r, j < idx → (roots F n n)[j]? = some r → r ∈ o ++ t
  only : ∀ v ∈ o ++ t, root F n v = true → ∃ j, j < idx ∧ (roots F n n)[j]? = some v
  no : ∀ v, v ∉ o ++ t → p v = -1
variable {o t : List Nat} {p : Nat → Int} {m idx r : Nat}
theorem taken_start (F : Nat → Nat) (n : Nat) : Taken F n [] [] (fun _ => -1) 0 0 := ⟨qu_start F n _, rfl, fun j r hj => absurd hj (by omega), by simp, fun _ _ => rfl⟩
theorem Taken.fresh (h : Taken F n o t p m idx) (hr : (roots F n n)[idx]? = some r) : r ∉ o ++ t := by
  intro hm
  have hrt := roots_mem.1 (List.mem_of_getElem? hr)
  obtain ⟨j, hj, e⟩ := h.only r hm hrt.2
  have := (roots_lt e hr).1 hj
  omega
theorem Taken.below (hF : Sym F n) (hn : n ≤ 16) (h : Taken F n o t p m idx) (hr : (roots F n n)[idx]? = some r) : ∀ u, u < r → u ∈ o ++ t := by
  intro u hu
  have hrn := (roots_mem.1 (List.mem_of_getElem? hr)).1
  have hun : u < n := by omega
  have hp := comp_part hF hun
  have hl := root_low hF hn hp
  have hle := low_le (hp.lt16 hn) (comp_self F n u)
  obtain ⟨j, hj⟩ := root_at hl.1 (hp.low_lt hn)
  have hji : j < idx := (roots_lt hj hr).2 (by omega)
  have hm := h.has j _ hji hj
  have hs : Shut F (o ++ t) := h.qu.shut h.len.symm
  exact hp.least _ (shut_clo hs n) _ (hp.low hn) hm u (comp_self F n u)
theorem Taken.step (hF : Sym F n) (hn : n ≤ 16) (h : Taken F n o t p m idx) (hr : (roots F n n)[idx]? = some r) {t' : List Nat} {p' : Nat → Int} {m' : Nat} (hq : Qu F n (o ++ t) t' p' m') (hl : ((o ++ t) ++ t').length = m')
    (hm : r ∈ (o ++ t) ++ t') (hno : ∀ v, v ∉ (o ++ t) ++ t' → p' v = -1) : Taken F n (o ++ t) t' p' m' (idx + 1) := by
  have hrt := roots_mem.1 (List.mem_of_getElem? hr)
  have hrt' : r ∈ t' := (List.mem_append.1 hm).resolve_left (h.fresh hr)
  refine ⟨hq, hl, fun j r' hj hr' => ?_, fun v hv hroot => ?_, hno⟩
  · by_cases e : j = idx
    · subst e
      rw [hr] at hr'
      injection hr' with hr'
      exact hr' ▸ hm
    · exact List.mem_append.2 (.inl (h.has j r' (by omega) hr'))
  · rcases List.mem_append.1 hv with hv | hv
    · obtain ⟨j, hj, e⟩ := h.only v hv hroot
      exact ⟨j, by omega, e⟩
    · have hone := hq.gr.one hF (fun x hx u hu => by
        rcases hq.gr.par x (List.mem_append.2 (.inr hx)) with h1 | ⟨y, _, h2, h3⟩
        · omega
        · have : y = u := by omega
          subst this; exact h3) v hv r hrt'
      have h1 : low (comp F n v) = v := by simpa [root] using hroot
      have h2 : low (comp F n r) = r := by simpa [root] using hrt.2
      have : v = r := by rw [← h1, hone, h2]
      exact ⟨idx, by omega, this ▸ hr⟩
theorem Taken.full (hF : Sym F n) (hn : n ≤ 16) (h : Taken F n o t p m (roots F n n).length) : Run F n o t p := by
  have hs : Shut F (o ++ t) := h.qu.shut h.len.symm
  refine ⟨by rw [h.len]; exact h.qu, fun v hv => ?_⟩
  have hp := comp_part hF hv
  have hl := root_low hF hn hp
  obtain ⟨j, hj⟩ := root_at hl.1 (hp.low_lt hn)
  have hjl := (List.getElem?_eq_some_iff.1 hj).1
  exact hp.least _ (shut_clo hs n) _ (hp.low hn) (h.has j _ hjl hj) v (comp_self F n v)
end
end Go.Proofs.YtmcimfblhpflnaaDoor
/-
The order of the search is told by the graph alone, and what is matched in it. Nothing here speaks of the program.
-/
namespace Go.Proofs.YtmcimfblhpflnaaDoor
theorem le_of_all : ∀ (n : Nat) (l : List Nat), (∀ v, v < n → v ∈ l) → n ≤ l.length
  | 0, _, _ => Nat.zero_le _
  | n + 1, l, h => by
    have hm := h n (by omega)
    have h1 := le_of_all n (l.erase n) (fun v hv => by
      have hne : v ≠ n := by omega
      exact (List.mem_erase_of_ne hne).2 (h v (by omega)))
    have h2 := List.length_erase (a := n) (l := l)
    rw [if_pos hm] at h2
    have := List.length_pos_of_mem hm
    omega
section
variable {F : Nat → Nat} {n : Nat}
theorem Run.len {o t : List Nat} {p : Nat → Int} (h : Run F n o t p) : (o ++ t).length = n :=
  Nat.le_antisymm (nodup_le h.qu.gr.nodup h.qu.gr.lt) (le_of_all n _ h.all)
/-- The order of the search. -/
def ordL (F : Nat → Nat) (n : Nat) : List Nat := seqL F n n
theorem Run.ord {o t : List Nat} {p : Nat → Int} (h : Run F n o t p) : o ++ t = ordL F n := by
  have := h.qu.seq rfl
  rw [h.len] at this
  exact this
end
/-! ### what is matched -/
/-- One button is looked at: what is taken, and the pairs in the order in which they are found. -/
def mtStep (p : Nat → Int) (s : Nat × List (Nat × Nat)) (i : Nat) : Nat × List (Nat × Nat) :=
  if p i < 0 ∨ s.1.testBit i = true ∨ s.1.testBit (p i).toNat = true then s
  else (s.1 ||| (2 ^ i ||| 2 ^ (p i).toNat), s.2 ++ [(min i (p i).toNat, max i (p i).toNat)])
def mtRun (p : Nat → Int) (l : List Nat) : Nat × List (Nat × Nat) := l.foldl (mtStep p) (0, [])
theorem mtRun_snoc (p : Nat → Int) (l : List Nat) (i : Nat) : mtRun p (l ++ [i]) = mtStep p (mtRun p l) i := by simp [mtRun]
theorem mtStep_same {p q : Nat → Int} {s : Nat × List (Nat × Nat)} {i : Nat} (h : p i = q i) : mtStep p s i = mtStep q s i := by simp [mtStep, h]
theorem mtRun_same {p q : Nat → Int} {l : List Nat} (h : ∀ v ∈ l, p v = q v) : mtRun p l = mtRun q l := by
  have key : ∀ (l : List Nat) (s : Nat × List (Nat × Nat)), (∀ v ∈ l, p v = q v) → l.foldl (mtStep p) s = l.foldl (mtStep q) s := by
    intro l
    induction l with
    | nil => simp
    | cons a r ih =>
      intro s h
      rw [List.foldl_cons, List.foldl_cons, mtStep_same (h a (by simp))]
      exact ih _ fun v hv => h v (List.mem_cons_of_mem _ hv)
  exact key l _ h
def ends (L : List (Nat × Nat)) : List Nat := L.flatMap fun e => [e.1, e.2]
theorem ends_snoc (L : List (Nat × Nat)) (e : Nat × Nat) : ends (L ++ [e]) = ends L ++ [e.1, e.2] := by simp [ends]
theorem ends_length (L : List (Nat × Nat)) : (ends L).length = 2 * L.length := by
  induction L with
  | nil => rfl
  | cons a r ih => simp [ends] at ih ⊢; omega
/-- No button is in two pairs, and each that is in one is taken. -/
structure Mat (n : Nat) (s : Nat × List (Nat × Nat)) : Prop where
  nd : (ends s.2).Nodup
  lt : ∀ v ∈ ends s.2, v < n
  bit : ∀ v, s.1.testBit v = true ↔ v ∈ ends s.2
  rise : ∀ e ∈ s.2, e.1 < e.2
theorem Mat.start (n : Nat) : Mat n (0, []) := ⟨by simp [ends], by simp [ends], by simp [ends], by simp⟩
theorem Mat.step {n : Nat} {p : Nat → Int} {s : Nat × List (Nat × Nat)} {i : Nat} (h : Mat n s) (hi : i < n) (hp : p i < 0 ∨ ∃ u : Nat, p i = u ∧ u < n ∧ u ≠ i) : Mat n (mtStep p s i) := by
  unfold mtStep
  split
  · exact h
  · rename_i hc
    rw [not_or, not_or] at hc
    obtain ⟨c1, c2, c3⟩ := hc
    obtain ⟨u, e, hu, hne⟩ := hp.resolve_left c1
    have et : (p i).toNat = u := by omega
    rw [et] at c3 ⊢
    have ni : i ∉ ends s.2 := fun hm => c2 ((h.bit i).2 hm)
    have nu : u ∉ ends s.2 := fun hm => c3 ((h.bit u).2 hm)
    have two : (min i u = i ∧ max i u = u ∧ i < u) ∨ (min i u = u ∧ max i u = i ∧ u < i) := by omega
    refine ⟨?_, fun v hv => ?_, fun v => ?_, fun x hx => ?_⟩
    · rw [ends_snoc, List.nodup_append]
      refine ⟨h.nd, ?_, fun a ha b hb => ?_⟩
      · rcases two with ⟨a, b, c⟩ | ⟨a, b, c⟩ <;> simp [a, b] <;> omega
      · rcases two with ⟨c, d, _⟩ | ⟨c, d, _⟩ <;> simp [c, d] at hb <;> rcases hb with rfl | rfl <;> rintro rfl
        · exact ni ha
        · exact nu ha
        · exact nu ha
        · exact ni ha
    · rw [ends_snoc] at hv
      rcases List.mem_append.1 hv with hv | hv
      · exact h.lt v hv
      · simp at hv; omega
    · rw [ends_snoc, List.mem_append, ← h.bit v]
      simp only [Nat.testBit_or, Bool.or_eq_true, Nat.testBit_two_pow, decide_eq_true_eq, List.mem_cons, List.not_mem_nil, or_false]
      rcases two with ⟨c, d, _⟩ | ⟨c, d, _⟩ <;> rw [c, d]
      · constructor
        · rintro (h | h | h)
          · exact .inl h
          · exact .inr (.inl h.symm)
          · exact .inr (.inr h.symm)
        · rintro (h | h | h)
          · exact .inl h
          · exact .inr (.inl h.symm)
          · exact .inr (.inr h.symm)
      · constructor
        · rintro (h | h | h)
          · exact .inl h
          · exact .inr (.inr h.symm)
          · exact .inr (.inl h.symm)
        · rintro (h | h | h)
          · exact .inl h
          · exact .inr (.inr h.symm)
          · exact .inr (.inl h.symm)
    · rcases List.mem_append.1 hx with hx | hx
      · exact h.rise x hx
      · simp at hx; rw [hx]; simp; omega
theorem Mat.len {n : Nat} {s : Nat × List (Nat × Nat)} (h : Mat n s) : 2 * s.2.length ≤ n := by
  rw [← ends_length]; exact nodup_le h.nd h.lt
/-- The lesser ends are all distinct: one order alone is rising. -/
theorem Mat.firsts {n : Nat} {s : Nat × List (Nat × Nat)} (h : Mat n s) : s.2.Pairwise fun a b => a.1 ≠ b.1 := by
  have key : ∀ L : List (Nat × Nat), (ends L).Nodup → L.Pairwise fun a b => a.1 ≠ b.1 := by
    intro L
    induction L with
    | nil => intro _; exact .nil
    | cons a r ih =>
      intro hnd
      have e : ends (a :: r) = [a.1, a.2] ++ ends r := rfl
      rw [e, List.nodup_append] at hnd
      refine .cons (fun b hb => ?_) (ih hnd.2.1)
      exact hnd.2.2 a.1 (by simp) b.1 (List.mem_flatMap.2 ⟨b, hb, by simp⟩)
  exact key s.2 h.nd
/-- A pair put behind all with a lesser first end: what the model does. -/
def putE (e : Nat × Nat) : List (Nat × Nat) → List (Nat × Nat)
  | [] => [e]
  | a :: r => if a.1 < e.1 then a :: putE e r else e :: a :: r
def sortE (L : List (Nat × Nat)) : List (Nat × Nat) := L.foldl (fun out e => putE e out) []
theorem sortE_snoc (L : List (Nat × Nat)) (e : Nat × Nat) : sortE (L ++ [e]) = putE e (sortE L) := by simp [sortE]
theorem putE_perm (e : Nat × Nat) : ∀ L : List (Nat × Nat), (putE e L).Perm (e :: L)
  | [] => .refl _
  | a :: r => by
    unfold putE
    split
    · exact ((putE_perm e r).cons a).trans (.swap _ _ _)
    · exact .refl _
theorem sortE_perm (L : List (Nat × Nat)) : (sortE L).Perm L := by
  have key : ∀ (L out : List (Nat × Nat)), (L.foldl (fun out e => putE e out) out).Perm (L ++ out) := by
    intro L
    induction L with
    | nil => intro out; exact .refl _
    | cons a r ih =>
      intro out
      rw [List.foldl_cons]
      exact (ih _).trans (((putE_perm a out).append_left r).trans List.perm_middle)
  have := key L []
  rw [List.append_nil] at this
  exact this
theorem putE_rising {e : Nat × Nat} : ∀ {L : List (Nat × Nat)}, L.Pairwise (fun a b => a.1 < b.1) → (∀ a ∈ L, a.1 ≠ e.1) → (putE e L).Pairwise (fun a b => a.1 < b.1)
  | [], _, _ => by simp [putE]
  | a :: r, hp, hn => by
    rw [List.pairwise_cons] at hp
    unfold putE
    split
    · rename_i hlt
      refine .cons (fun b hb => ?_) (putE_rising hp.2 fun b hb => hn b (List.mem_cons_of_mem _ hb))
      have := (putE_perm e r).mem_iff.1 hb
      rcases List.mem_cons.1 this with rfl | h
      · exact hlt
      · exact hp.1 b h
    · rename_i hge
      have hne := hn a (by simp)
      refine .cons (fun b hb => ?_) (.cons hp.1 hp.2)
      rcases List.mem_cons.1 hb with rfl | h
      · omega
      · have := hp.1 b h; omega
theorem sortE_rising {L : List (Nat × Nat)} (h : L.Pairwise fun a b => a.1 ≠ b.1) : (sortE L).Pairwise (fun a b => a.1 < b.1) := by
  have key : ∀ (L out : List (Nat × Nat)), out.Pairwise (fun a b => a.1 < b.1) → L.Pairwise (fun a b => a.1 ≠ b.1) → (∀ a ∈ L, ∀ b ∈ out, b.1 ≠ a.1) → (L.foldl (fun out e => putE e out) out).Pairwise (fun a b => a.1 < b.1) := by
    intro L
    induction L with
    | nil => intro out h _ _; exact h
    | cons a r ih =>
      intro out h1 h2 h3
      rw [List.pairwise_cons] at h2
      rw [List.foldl_cons]
      refine ih _ (putE_rising h1 (h3 a (by simp))) h2.2 fun x hx b hb => ?_
      rcases List.mem_cons.1 ((putE_perm a out).mem_iff.1 hb) with rfl | hb
      · exact h2.1 x hx
      · exact h3 x (List.mem_cons_of_mem _ hx) b hb
  exact key L [] .nil h (by simp)
/-- Two lists with the same pairs, both rising, are one. -/
theorem rising_one : ∀ {L M : List (Nat × Nat)}, L.Pairwise (fun a b => a.1 < b.1) → M.Pairwise (fun a b => a.1 < b.1) → L.Perm M → L = M
  | [], M, _, _, h => by rw [h.nil_eq]
  | a :: r, [], _, _, h => absurd h.symm.nil_eq (by simp)
  | a :: r, b :: s, h1, h2, h => by
    rw [List.pairwise_cons] at h1 h2
    have hab : a = b := by
      rcases List.mem_cons.1 (h.mem_iff.1 (by simp : a ∈ a :: r)) with e | hm
      · exact e
      · rcases List.mem_cons.1 (h.mem_iff.2 (by simp : b ∈ b :: s)) with e | hm2
        · exact e.symm
        · have x1 := h2.1 a hm
          have x2 := h1.1 b hm2
          omega
    subst hab
    rw [rising_one h1.2 h2.2 ((List.perm_cons a).1 h)]
section
variable {F : Nat → Nat} {n : Nat}
/-- The parents of a search that has reached all are buttons, and none is its own. -/
theorem Run.par_lt {o t : List Nat} {p : Nat → Int} (hI : Irr F n) (h : Run F n o t p) {i : Nat} (hi : i < n) : p i < 0 ∨ ∃ u : Nat, p i = u ∧ u < n ∧ u ≠ i := by
  rcases h.qu.gr.par i (h.all i hi) with h1 | ⟨u, h1, h2, h3⟩
  · left; omega
  · refine .inr ⟨u, h2, h.qu.gr.lt u h1, ?_⟩
    rintro rfl
    rw [hI u hi] at h3
    cases h3
theorem Run.mat {o t : List Nat} {p : Nat → Int} (hI : Irr F n) (h : Run F n o t p) : ∀ l : List Nat, (∀ v ∈ l, v < n) → Mat n (mtRun p l) := by
  have key : ∀ (l : List Nat) (s : Nat × List (Nat × Nat)), Mat n s → (∀ v ∈ l, v < n) → Mat n (l.foldl (mtStep p) s) := by
    intro l
    induction l with
    | nil => intro s hs _; exact hs
    | cons a r ih =>
      intro s hs hl
      rw [List.foldl_cons]
      exact ih _ (hs.step (hl a (by simp)) (h.par_lt hI (hl a (by simp)))) fun v hv => hl v (List.mem_cons_of_mem _ hv)
  exact fun l hl => key l _ (.start n) hl
end
end Go.Proofs.YtmcimfblhpflnaaDoor
/-
Sums over states: numbers for each button, pressed or not, and its parent, pressed or not. Nothing here speaks of the program.
-/
namespace Go.Proofs.YtmcimfblhpflnaaDoor
/-- Each button has its place on the list, and a parent's is before it. -/
theorem Grow.places {F : Nat → Nat} {n : Nat} {o t : List Nat} {p : Nat → Int} (h : Grow F n o t p) : ∃ d : Nat → Nat, ∀ v ∈ o ++ t, (o ++ t)[d v]? = some v ∧ ∀ u : Nat, p v = u → u ∈ o ++ t ∧ d u < d v := by
  induction h with
  | nil => exact ⟨fun _ => 0, by simp⟩
  | @plant o t p r h hs hr hlt hu ih =>
    obtain ⟨d, hd⟩ := ih
    refine ⟨fun v => if v = r then (o ++ t).length else d v, fun v hv => ?_⟩
    by_cases e : v = r
    · subst e
      rw [upd_same]
      refine ⟨by simp, fun u hu => by omega⟩
    · have hv' : v ∈ o ++ t := by
        rcases List.mem_append.1 hv with hv | hv
        · exact hv
        · simp at hv; exact absurd hv e
      obtain ⟨h1, h2⟩ := hd v hv'
      have hl : d v < (o ++ t).length := (List.getElem?_eq_some_iff.1 h1).1
      rw [upd_other e]
      refine ⟨by simp only [e, if_false]; rw [List.getElem?_append_left hl]; exact h1, fun u hu => ?_⟩
      obtain ⟨h3, h4⟩ := h2 u hu
      have hne : u ≠ r := fun e => hr (e ▸ h3)
      exact ⟨List.mem_append.2 (.inl h3), by simp only [e, hne, if_false]; exact h4⟩
  | @child o t p w j h hu hb hj hlt ih =>
    obtain ⟨d, hd⟩ := ih
    have hw : w ∈ o ++ t := List.mem_append.2 (.inr hu)
    refine ⟨fun v => if v = j then (o ++ t).length else d v, fun v hv => ?_⟩
    have hwl : d w < (o ++ t).length := (List.getElem?_eq_some_iff.1 (hd w hw).1).1
    by_cases e : v = j
    · subst e
      rw [upd_same]
      refine ⟨by simp only [if_true]; rw [← List.append_assoc]; simp, fun u hu => ?_⟩
      have : u = w := by omega
      subst this
      have hne : u ≠ v := fun e => hj (e ▸ hw)
      exact ⟨mem_snoc.2 (.inl hw), by simp only [hne, if_false, if_true]; exact hwl⟩
    · have hv' : v ∈ o ++ t := (mem_snoc.1 hv).resolve_right e
      obtain ⟨h1, h2⟩ := hd v hv'
      have hl : d v < (o ++ t).length := (List.getElem?_eq_some_iff.1 h1).1
      rw [upd_other e]
      refine ⟨by simp only [e, if_false]; rw [← List.append_assoc, List.getElem?_append_left hl]; exact h1, fun u hu => ?_⟩
      obtain ⟨h3, h4⟩ := h2 u hu
      have hne : u ≠ j := fun e => hj (e ▸ h3)
      exact ⟨mem_snoc.2 (.inl h3), by simp only [e, hne, if_false]; exact h4⟩
/-! ### the recursion -/
structure Acc (T : Type) where
  none : T
  single : Nat → T
  either : T → T → T
  both : T → T → T
section
variable {T : Type}
/-- One child more: the numbers for an even and for an odd number of pressed children. -/
def kStep (A : Acc T) (v : Nat → Nat → Nat → T) (pr : Nat) (s : T × T) (j : Nat) : T × T :=
  (A.either (A.both s.1 (v j 0 pr)) (A.both s.2 (v j 1 pr)), A.either (A.both s.2 (v j 0 pr)) (A.both s.1 (v j 1 pr)))
def kRun (A : Acc T) (v : Nat → Nat → Nat → T) (pr : Nat) (l : List Nat) : T × T := l.foldl (kStep A v pr) (A.single 0, A.none)
theorem kRun_snoc (A : Acc T) (v : Nat → Nat → Nat → T) (pr : Nat) (l : List Nat) (j : Nat) : kRun A v pr (l ++ [j]) = kStep A v pr (kRun A v pr l) j := by simp [kRun]
theorem kRun_same {A : Acc T} {v v' : Nat → Nat → Nat → T} {pr : Nat} {l : List Nat} (h : ∀ j ∈ l, v j = v' j) : kRun A v pr l = kRun A v' pr l := by
  have key : ∀ (l : List Nat) (s : T × T), (∀ j ∈ l, v j = v' j) → l.foldl (kStep A v pr) s = l.foldl (kStep A v' pr) s := by
    intro l
    induction l with
    | nil => simp
    | cons a r ih =>
      intro s h
      have e : kStep A v pr s a = kStep A v' pr s a := by simp [kStep, h a (by simp)]
      rw [List.foldl_cons, List.foldl_cons, e]
      exact ih _ fun j hj => h j (List.mem_cons_of_mem _ hj)
  exact key l _ h
/-- K: the children in their order; D: whether the number of pressed children must be odd. -/
def stOf (A : Acc T) (K : Nat → List Nat) (D : Nat → Nat → Nat → Bool) (v : Nat → Nat → Nat → T) (i pr ab : Nat) : T :=
  A.both (A.single pr) (if D i pr ab then (kRun A v pr (K i)).2 else (kRun A v pr (K i)).1)
def st (A : Acc T) (K : Nat → List Nat) (D : Nat → Nat → Nat → Bool) : Nat → Nat → Nat → Nat → T
  | 0 => fun _ _ _ => A.none
  | f + 1 => stOf A K D (st A K D f)
theorem st_fuel {A : Acc T} {K : Nat → List Nat} {D : Nat → Nat → Nat → Bool} {r : Nat → Nat} : ∀ (f g i : Nat), (∀ i, ∀ j ∈ K i, r j < r i) → r i < f → r i < g → st A K D f i = st A K D g i
  | 0, _, _, _, h, _ => absurd h (by omega)
  | f + 1, 0, _, _, _, h => absurd h (by omega)
  | f + 1, g + 1, i, hr, h1, h2 => by
    funext pr ab
    have e : kRun A (st A K D f) pr (K i) = kRun A (st A K D g) pr (K i) :=
      kRun_same fun j hj => st_fuel f g j hr (by have := hr i j hj; omega) (by have := hr i j hj; omega)
    simp only [st, stOf, e]
/-- What holds of the numbers for all buttons: they come from those of the children. -/
theorem st_fix {A : Acc T} {K : Nat → List Nat} {D : Nat → Nat → Nat → Bool} {r : Nat → Nat} {n i : Nat} (hr : ∀ i, ∀ j ∈ K i, r j < r i) (hi : r i < n) (pr ab : Nat) :
    st A K D n i pr ab = stOf A K D (st A K D n) i pr ab := by
  rw [st_fuel (r := r) n (n + 1) i hr hi (by omega)]
  rfl
end
/-! ### ways and the least number of presses -/
def accM : Acc (Nat × Nat) where
  none := (0, 0)
  single k := (1, k)
  either a b := if a.1 = 0 then b else if b.1 = 0 then a else (a.1 + b.1, min a.2 b.2)
  both a b := if a.1 = 0 ∨ b.1 = 0 then (0, 0) else (a.1 * b.1, a.2 + b.2)
def accC : Acc Nat where
  none := 0
  single _ := 1
  either a b := a + b
  both a b := a * b
def accL : Acc Nat where
  none := 17
  single k := k
  either a b := min a b
  both a b := a + b
/-- The model's pair, the number of ways and the least number tell the same, of m buttons at most. -/
structure Same (m : Nat) (s : Nat × Nat) (c v : Nat) : Prop where
  ways : c = s.1
  no : s.1 = 0 → s.2 = 0 ∧ 17 ≤ v
  yes : s.1 ≠ 0 → v = s.2 ∧ v ≤ m
theorem Same.none (m : Nat) : Same m accM.none accC.none accL.none := ⟨rfl, fun _ => ⟨rfl, Nat.le_refl _⟩, fun h => absurd rfl h⟩
theorem Same.single {m k : Nat} (h : k ≤ m) : Same m (accM.single k) (accC.single k) (accL.single k) := ⟨rfl, fun h => by simp [accM] at h, fun _ => ⟨rfl, h⟩⟩
theorem Same.both {m m' : Nat} {s s' : Nat × Nat} {c c' v v' : Nat} (h : Same m s c v) (h' : Same m' s' c' v') : Same (m + m') (accM.both s s') (accC.both c c') (accL.both v v') := by
  by_cases h1 : s.1 = 0
  · have e : accM.both s s' = (0, 0) := by simp [accM, h1]
    rw [e]
    refine ⟨by simp [accC, h.ways, h1], fun _ => ⟨rfl, ?_⟩, fun h => absurd rfl h⟩
    have := (h.no h1).2
    show 17 ≤ v + v'; omega
  · by_cases h2 : s'.1 = 0
    · have e : accM.both s s' = (0, 0) := by simp [accM, h2]
      rw [e]
      refine ⟨by simp [accC, h'.ways, h2], fun _ => ⟨rfl, ?_⟩, fun h => absurd rfl h⟩
      have := (h'.no h2).2
      show 17 ≤ v + v'; omega
    · have e : accM.both s s' = (s.1 * s'.1, s.2 + s'.2) := by simp [accM, h1, h2]
      rw [e]
      obtain ⟨a1, a2⟩ := h.yes h1
      obtain ⟨b1, b2⟩ := h'.yes h2
      refine ⟨by simp [accC, h.ways, h'.ways], fun h0 => ?_, fun _ => ?_⟩
      · exact absurd h0 (Nat.mul_ne_zero h1 h2)
      · show v + v' = s.2 + s'.2 ∧ v + v' ≤ m + m'
        omega
theorem Same.either {m : Nat} {s s' : Nat × Nat} {c c' v v' : Nat} (hm : m ≤ 16) (h : Same m s c v) (h' : Same m s' c' v') : Same m (accM.either s s') (accC.either c c') (accL.either v v') := by
  by_cases h1 : s.1 = 0
  · have e : accM.either s s' = s' := by simp [accM, h1]
    rw [e]
    have k1 := (h.no h1).2
    refine ⟨by simp [accC, h.ways, h1, h'.ways], fun h0 => ?_, fun h0 => ?_⟩
    · have := h'.no h0
      refine ⟨this.1, ?_⟩
      show 17 ≤ min v v'; omega
    · have := h'.yes h0
      show min v v' = s'.2 ∧ min v v' ≤ m
      omega
  · have k1 := h.yes h1
    by_cases h2 : s'.1 = 0
    · have e : accM.either s s' = s := by simp [accM, h1, h2]
      rw [e]
      have k2 := (h'.no h2).2
      refine ⟨by simp [accC, h.ways, h2, h'.ways], fun h0 => absurd h0 h1, fun _ => ?_⟩
      show min v v' = s.2 ∧ min v v' ≤ m
      omega
    · have e : accM.either s s' = (s.1 + s'.1, min s.2 s'.2) := by simp [accM, h1, h2]
      rw [e]
      have k2 := h'.yes h2
      refine ⟨by simp [accC, h.ways, h'.ways], fun h0 => ?_, fun _ => ?_⟩
      · have : s.1 + s'.1 = 0 := h0
        omega
      · show min v v' = min s.2 s'.2 ∧ min v v' ≤ m
        omega
theorem Same.more {m m' : Nat} {s : Nat × Nat} {c v : Nat} (h : Same m s c v) (hm : m ≤ m') : Same m' s c v := ⟨h.ways, h.no, fun h0 => by have := h.yes h0; omega⟩
/-! ### sizes -/
def szL (z : Nat → Nat) (l : List Nat) : Nat := (l.map z).sum
theorem szL_snoc (z : Nat → Nat) (l : List Nat) (j : Nat) : szL z (l ++ [j]) = szL z l + z j := by simp [szL]
/-- How many there are below, and the button. -/
def sz (K : Nat → List Nat) : Nat → Nat → Nat
  | 0 => fun _ => 0
  | f + 1 => fun i => 1 + szL (sz K f) (K i)
theorem kRun_same3 {vM : Nat → Nat → Nat → Nat × Nat} {vC vL : Nat → Nat → Nat → Nat} {z : Nat → Nat} {pr : Nat} : ∀ l : List Nat, szL z l ≤ 16 → (∀ j ∈ l, ∀ a, a < 2 → Same (z j) (vM j a pr) (vC j a pr) (vL j a pr)) →
    Same (szL z l) (kRun accM vM pr l).1 (kRun accC vC pr l).1 (kRun accL vL pr l).1 ∧ Same (szL z l) (kRun accM vM pr l).2 (kRun accC vC pr l).2 (kRun accL vL pr l).2 := by
  have key : ∀ (l : List Nat) (m : Nat) (sM : (Nat × Nat) × (Nat × Nat)) (sC sL : Nat × Nat), m + szL z l ≤ 16 → (∀ j ∈ l, ∀ a, a < 2 → Same (z j) (vM j a pr) (vC j a pr) (vL j a pr)) →
      Same m sM.1 sC.1 sL.1 → Same m sM.2 sC.2 sL.2 →
      Same (m + szL z l) (l.foldl (kStep accM vM pr) sM).1 (l.foldl (kStep accC vC pr) sC).1 (l.foldl (kStep accL vL pr) sL).1 ∧ Same (m + szL z l) (l.foldl (kStep accM vM pr) sM).2 (l.foldl (kStep accC vC pr) sC).2 (l.foldl (kStep accL vL pr) sL).2 := by
    intro l
    induction l with
    | nil => intro m sM sC sL _ _ h1 h2; exact ⟨h1, h2⟩
    | cons a r ih =>
      intro m sM sC sL hm h h1 h2
      have e : szL z (a :: r) = z a + szL z r := by simp [szL]
      rw [e] at hm ⊢
      have k0 := h a (by simp) 0 (by omega)
      have k1 := h a (by simp) 1 (by omega)
      rw [List.foldl_cons, List.foldl_cons, List.foldl_cons, ← Nat.add_assoc]
      exact ih (m + z a) _ _ _ (by omega) (fun j hj => h j (List.mem_cons_of_mem _ hj)) (.either (by omega) (h1.both k0) (h2.both k1)) (.either (by omega) (h2.both k0) (h1.both k1))
  intro l hl h
  have := key l 0 (accM.single 0, accM.none) (accC.single 0, accC.none) (accL.single 0, accL.none) (by omega) h (Same.single (Nat.le_refl _)) (Same.none _)
  rw [Nat.zero_add] at this
  exact this
theorem st_same (K : Nat → List Nat) (D : Nat → Nat → Nat → Bool) : ∀ (f i : Nat), sz K f i ≤ 16 → ∀ pr ab, pr < 2 → Same (sz K f i) (st accM K D f i pr ab) (st accC K D f i pr ab) (st accL K D f i pr ab)
  | 0, _, _, _, _, _ => Same.none _
  | f + 1, i, hz, pr, ab, hp => by
    have hz' : 1 + szL (sz K f) (K i) ≤ 16 := hz
    have h1 := kRun_same3 (vM := st accM K D f) (vC := st accC K D f) (vL := st accL K D f) (z := sz K f) (pr := pr) (K i) (by omega) fun j hj a ha =>
      st_same K D f j (by
        have : ∀ l : List Nat, j ∈ l → sz K f j ≤ szL (sz K f) l := by
          intro l
          induction l with
          | nil => intro h; simp at h
          | cons a r ih =>
            intro h
            have e : szL (sz K f) (a :: r) = sz K f a + szL (sz K f) r := by simp [szL]
            rw [e]
            rcases List.mem_cons.1 h with rfl | h
            · omega
            · have := ih h; omega
        have := this _ hj
        omega) a pr ha
    show Same (1 + szL (sz K f) (K i)) (stOf accM K D (st accM K D f) i pr ab) (stOf accC K D (st accC K D f) i pr ab) (stOf accL K D (st accL K D f) i pr ab)
    unfold stOf
    refine Same.both (Same.single (by omega)) ?_
    split
    · exact h1.2
    · exact h1.1
end Go.Proofs.YtmcimfblhpflnaaDoor
/-
Sums over states: all buttons together, sizes and bounds. Nothing here speaks of the program.
-/
namespace Go.Proofs.YtmcimfblhpflnaaDoor
/-! ### sums below n -/
def sumN (g : Nat → Nat) : Nat → Nat
  | 0 => 0
  | n + 1 => sumN g n + g n
theorem sumN_same {g h : Nat → Nat} : ∀ {n : Nat}, (∀ i, i < n → g i = h i) → sumN g n = sumN h n
  | 0, _ => rfl
  | n + 1, e => by rw [sumN, sumN, sumN_same (fun i hi => e i (by omega)), e n (by omega)]
theorem sumN_add (g h : Nat → Nat) : ∀ n, sumN (fun i => g i + h i) n = sumN g n + sumN h n
  | 0 => rfl
  | n + 1 => by simp only [sumN]; rw [sumN_add g h n]; omega
theorem sumN_zero : ∀ n, sumN (fun _ => 0) n = 0
  | 0 => rfl
  | n + 1 => by rw [sumN, sumN_zero n]
theorem sumN_one : ∀ n, sumN (fun _ => 1) n = n
  | 0 => rfl
  | n + 1 => by rw [sumN, sumN_one n]
theorem sumN_swap (f : Nat → Nat → Nat) (m : Nat) : ∀ n, sumN (fun i => sumN (fun j => f i j) m) n = sumN (fun j => sumN (fun i => f i j) n) m
  | 0 => by simp only [sumN]; rw [sumN_zero]
  | n + 1 => by simp only [sumN]; rw [sumN_swap f m n, sumN_add]
theorem sumN_pick (u x : Nat) : ∀ n, sumN (fun i => if i = u then x else 0) n = if u < n then x else 0
  | 0 => by simp [sumN]
  | n + 1 => by
    rw [sumN, sumN_pick u x n]
    by_cases h1 : u < n
    · have : n ≠ u := by omega
      simp [h1, this]; omega
    · by_cases h2 : n = u
      · subst h2; simp
      · have h3 : ¬ u < n + 1 := by omega
        simp [h1, h2, h3]
theorem szL_filter (z : Nat → Nat) (P : Nat → Bool) : ∀ n, szL z ((List.range n).filter P) = sumN (fun j => if P j = true then z j else 0) n
  | 0 => rfl
  | n + 1 => by
    rw [List.range_succ, List.filter_append, sumN, ← szL_filter z P n]
    by_cases h : P n = true <;> simp [szL, h]
/-- The children, in rising order. -/
def kids (p : Nat → Int) (n i : Nat) : List Nat := (List.range n).filter fun j => decide (p j = (i : Nat))
theorem kids_mem {p : Nat → Int} {n i j : Nat} : j ∈ kids p n i ↔ j < n ∧ p j = (i : Nat) := by simp [kids]
theorem kids_same {p q : Nat → Int} {n : Nat} (h : ∀ v, v < n → p v = q v) (i : Nat) : kids p n i = kids q n i := by
  unfold kids
  apply List.filter_congr
  intro x hx
  rw [h x (List.mem_range.1 hx)]
section
variable {F : Nat → Nat} {n : Nat} {o t : List Nat} {p : Nat → Int}
/-- Children have a lesser rank. -/
theorem Run.ranks (h : Run F n o t p) : ∃ r : Nat → Nat, (∀ i, i < n → r i < n) ∧ ∀ i, ∀ j ∈ kids p n i, r j < r i := by
  obtain ⟨d, hd⟩ := h.qu.gr.places
  have hl : ∀ v, v < n → d v < n := fun v hv => by
    have := (List.getElem?_eq_some_iff.1 (hd v (h.all v hv)).1).1
    rw [h.len] at this
    exact this
  refine ⟨fun v => n - 1 - d v, fun i hi => ?_, fun i j hj => ?_⟩
  · show n - 1 - d i < n
    omega
  · obtain ⟨h1, h2⟩ := kids_mem.1 hj
    have h3 := ((hd j (h.all j h1)).2 i h2).2
    have h4 := hl j h1
    show n - 1 - d j < n - 1 - d i
    omega
theorem sz_fuel {K : Nat → List Nat} {r : Nat → Nat} : ∀ (f g i : Nat), (∀ i, ∀ j ∈ K i, r j < r i) → r i < f → r i < g → sz K f i = sz K g i
  | 0, _, _, _, h, _ => absurd h (by omega)
  | f + 1, 0, _, _, _, h => absurd h (by omega)
  | f + 1, g + 1, i, hr, h1, h2 => by
    have e : ∀ l : List Nat, (∀ j ∈ l, sz K f j = sz K g j) → szL (sz K f) l = szL (sz K g) l := fun l hl => by
      unfold szL
      rw [List.map_congr_left hl]
    show 1 + szL (sz K f) (K i) = 1 + szL (sz K g) (K i)
    rw [e _ fun j hj => sz_fuel f g j hr (by have := hr i j hj; omega) (by have := hr i j hj; omega)]
theorem sz_fix {K : Nat → List Nat} {r : Nat → Nat} {i : Nat} (hr : ∀ i, ∀ j ∈ K i, r j < r i) (hi : r i < n) : sz K n i = 1 + szL (sz K n) (K i) := by
  rw [sz_fuel (r := r) n (n + 1) i hr hi (by omega)]
  rfl
/-- The trees together are all buttons. -/
theorem Run.sizes (hI : Irr F n) (h : Run F n o t p) : sumN (fun i => if p i < 0 then sz (kids p n) n i else 0) n = n := by
  obtain ⟨r, hr1, hr2⟩ := h.ranks
  have e1 : sumN (sz (kids p n) n) n = n + sumN (fun i => sumN (fun j => if p j = (i : Nat) then sz (kids p n) n j else 0) n) n := by
    have : sumN (sz (kids p n) n) n = sumN (fun i => 1 + sumN (fun j => if p j = (i : Nat) then sz (kids p n) n j else 0) n) n := by
      apply sumN_same
      intro i hi
      rw [sz_fix hr2 (hr1 i hi)]
      congr 1
      rw [kids, szL_filter]
      apply sumN_same
      intro j _
      simp only [decide_eq_true_eq]
    rw [this, sumN_add, sumN_one]
  rw [sumN_swap] at e1
  have e2 : sumN (fun j => sumN (fun i : Nat => if p j = (i : Nat) then sz (kids p n) n j else 0) n) n = sumN (fun j => if p j < 0 then 0 else sz (kids p n) n j) n := by
    apply sumN_same
    intro j hj
    rcases h.par_lt hI hj with hp | ⟨u, hu, hun, _⟩
    · rw [if_pos hp]
      rw [show sumN (fun i : Nat => if p j = (i : Nat) then sz (kids p n) n j else 0) n = sumN (fun _ => 0) n from sumN_same fun i _ => if_neg (by omega)]
      exact sumN_zero n
    · rw [if_neg (by omega)]
      rw [show sumN (fun i : Nat => if p j = (i : Nat) then sz (kids p n) n j else 0) n = sumN (fun i => if i = u then sz (kids p n) n j else 0) n from sumN_same fun i _ => by
        by_cases e : i = u
        · rw [if_pos e, if_pos (by omega)]
        · rw [if_neg e, if_neg (by omega)]]
      rw [sumN_pick, if_pos hun]
  have e3 : sumN (sz (kids p n) n) n = sumN (fun j => if p j < 0 then sz (kids p n) n j else 0) n + sumN (fun j => if p j < 0 then 0 else sz (kids p n) n j) n := by
    rw [← sumN_add]
    apply sumN_same
    intro i _
    split <;> omega
  omega
end
/-! ### bounds -/
theorem four_mul (a b : Nat) : 4 ^ (a + b) = 4 ^ a * 4 ^ b := Nat.pow_add 4 a b
/-- Behind a run over children: the numbers are bounded. -/
theorem kRun_bound {vC vL : Nat → Nat → Nat → Nat} {z : Nat → Nat} {pr : Nat} : ∀ l : List Nat, (∀ j ∈ l, ∀ a, a < 2 → 2 * vC j a pr ≤ 4 ^ z j ∧ vL j a pr ≤ 18 * z j) →
    ((kRun accC vC pr l).1 ≤ 4 ^ szL z l ∧ (kRun accC vC pr l).2 ≤ 4 ^ szL z l) ∧ (kRun accL vL pr l).1 ≤ 17 + 18 * szL z l ∧ (kRun accL vL pr l).2 ≤ 17 + 18 * szL z l := by
  have key : ∀ (l : List Nat) (m : Nat) (sC sL : Nat × Nat), (∀ j ∈ l, ∀ a, a < 2 → 2 * vC j a pr ≤ 4 ^ z j ∧ vL j a pr ≤ 18 * z j) → sC.1 ≤ 4 ^ m → sC.2 ≤ 4 ^ m → sL.1 ≤ 17 + 18 * m → sL.2 ≤ 17 + 18 * m →
      ((l.foldl (kStep accC vC pr) sC).1 ≤ 4 ^ (m + szL z l) ∧ (l.foldl (kStep accC vC pr) sC).2 ≤ 4 ^ (m + szL z l)) ∧ (l.foldl (kStep accL vL pr) sL).1 ≤ 17 + 18 * (m + szL z l) ∧ (l.foldl (kStep accL vL pr) sL).2 ≤ 17 + 18 * (m + szL z l) := by
    intro l
    induction l with
    | nil => intro m sC sL _ h1 h2 h3 h4; exact ⟨⟨h1, h2⟩, h3, h4⟩
    | cons a r ih =>
      intro m sC sL h h1 h2 h3 h4
      have e : szL z (a :: r) = z a + szL z r := by simp [szL]
      rw [e, ← Nat.add_assoc, List.foldl_cons, List.foldl_cons]
      obtain ⟨c0, v0⟩ := h a (by simp) 0 (by omega)
      obtain ⟨c1, v1⟩ := h a (by simp) 1 (by omega)
      have mm : ∀ x y x' y' : Nat, x ≤ 4 ^ m → x' ≤ 4 ^ m → 2 * y ≤ 4 ^ z a → 2 * y' ≤ 4 ^ z a → x * y + x' * y' ≤ 4 ^ (m + z a) := by
        intro x y x' y' a1 a2 a3 a4
        rw [four_mul]
        have b1 := Nat.mul_le_mul a1 a3
        have b2 := Nat.mul_le_mul a2 a4
        have b3 : x * (2 * y) = 2 * (x * y) := by rw [Nat.mul_left_comm]
        have b4 : x' * (2 * y') = 2 * (x' * y') := by rw [Nat.mul_left_comm]
        omega
      refine ih (m + z a) _ _ (fun j hj => h j (List.mem_cons_of_mem _ hj)) (mm _ _ _ _ h1 h2 c0 c1) (mm _ _ _ _ h2 h1 c0 c1) ?_ ?_
      · show min (sL.1 + vL a 0 pr) (sL.2 + vL a 1 pr) ≤ _
        omega
      · show min (sL.2 + vL a 0 pr) (sL.1 + vL a 1 pr) ≤ _
        omega
  intro l h
  have := key l 0 (accC.single 0, accC.none) (accL.single 0, accL.none) h (by simp [accC]) (by simp [accC]) (by simp [accL]) (by simp [accL])
  rw [Nat.zero_add] at this
  exact this
theorem st_bound {K : Nat → List Nat} {D : Nat → Nat → Nat → Bool} {r : Nat → Nat} (hr : ∀ i, ∀ j ∈ K i, r j < r i) : ∀ (f i pr ab : Nat), r i < f → pr < 2 → 2 * st accC K D f i pr ab ≤ 4 ^ sz K f i ∧ st accL K D f i pr ab ≤ 18 * sz K f i
  | 0, _, _, _, h, _ => absurd h (by omega)
  | f + 1, i, pr, ab, h, hp => by
    have hb := kRun_bound (vC := st accC K D f) (vL := st accL K D f) (z := sz K f) (pr := pr) (K i) fun j hj a ha => st_bound hr f j a pr (by have := hr i j hj; omega) ha
    have e1 : sz K (f + 1) i = 1 + szL (sz K f) (K i) := rfl
    have e2 : st accC K D (f + 1) i pr ab = 1 * (if D i pr ab then (kRun accC (st accC K D f) pr (K i)).2 else (kRun accC (st accC K D f) pr (K i)).1) := rfl
    have e3 : st accL K D (f + 1) i pr ab = pr + (if D i pr ab then (kRun accL (st accL K D f) pr (K i)).2 else (kRun accL (st accL K D f) pr (K i)).1) := rfl
    rw [e1, e2, e3, four_mul, Nat.one_mul]
    obtain ⟨⟨b1, b2⟩, b3, b4⟩ := hb
    split <;> constructor <;> omega
/-! ### all trees -/
section
variable {T : Type}
/-- One button more: a root's tree is taken together with those before. -/
def aStep (A : Acc T) (v : Nat → Nat → Nat → T) (p : Nat → Int) (s : T) (i : Nat) : T := if p i < 0 then A.both s (A.either (v i 0 0) (v i 1 0)) else s
def aRun (A : Acc T) (v : Nat → Nat → Nat → T) (p : Nat → Int) (l : List Nat) : T := l.foldl (aStep A v p) (A.single 0)
theorem aRun_snoc (A : Acc T) (v : Nat → Nat → Nat → T) (p : Nat → Int) (l : List Nat) (i : Nat) : aRun A v p (l ++ [i]) = aStep A v p (aRun A v p l) i := by simp [aRun]
/-- The order of the buttons doesn't matter, where taking together is in any order. -/
theorem aRun_perm {A : Acc T} {v : Nat → Nat → Nat → T} {p : Nat → Int} (hc : ∀ x y z, A.both (A.both x y) z = A.both (A.both x z) y) {l l' : List Nat} (h : l.Perm l') : aRun A v p l = aRun A v p l' := by
  have hs : ∀ x i j, aStep A v p (aStep A v p x i) j = aStep A v p (aStep A v p x j) i := by
    intro x i j
    unfold aStep
    by_cases h1 : p i < 0 <;> by_cases h2 : p j < 0 <;> simp [h1, h2, hc]
  have key : ∀ s, l.foldl (aStep A v p) s = l'.foldl (aStep A v p) s := by
    induction h with
    | nil => intro s; rfl
    | cons a _ ih => intro s; rw [List.foldl_cons, List.foldl_cons]; exact ih _
    | swap a b r => intro s; rw [List.foldl_cons, List.foldl_cons, List.foldl_cons, List.foldl_cons, hs]
    | trans _ _ ih1 ih2 => intro s; exact (ih1 s).trans (ih2 s)
  exact key _
end
theorem accC_comm (x y z : Nat) : accC.both (accC.both x y) z = accC.both (accC.both x z) y := Nat.mul_right_comm x y z
theorem accL_comm (x y z : Nat) : accL.both (accL.both x y) z = accL.both (accL.both x z) y := Nat.add_right_comm x y z
theorem aRun_same {vM : Nat → Nat → Nat → Nat × Nat} {vC vL : Nat → Nat → Nat → Nat} {z : Nat → Nat} {p : Nat → Int} : ∀ n : Nat, sumN (fun i => if p i < 0 then z i else 0) n ≤ 16 → (∀ i, i < n → ∀ a, a < 2 → z i ≤ 16 → Same (z i) (vM i a 0) (vC i a 0) (vL i a 0)) →
    Same (sumN (fun i => if p i < 0 then z i else 0) n) (aRun accM vM p (List.range n)) (aRun accC vC p (List.range n)) (aRun accL vL p (List.range n))
  | 0, _, _ => Same.single (Nat.le_refl _)
  | n + 1, hz, h => by
    rw [sumN] at hz ⊢
    have ih := aRun_same (vM := vM) (vC := vC) (vL := vL) (z := z) (p := p) n (by omega) fun i hi => h i (by omega)
    rw [List.range_succ, aRun_snoc, aRun_snoc, aRun_snoc]
    unfold aStep
    by_cases hp : p n < 0
    · simp only [hp, if_true] at hz ⊢
      have k0 := h n (by omega) 0 (by omega) (by omega)
      have k1 := h n (by omega) 1 (by omega) (by omega)
      exact ih.both (k0.either (by omega) k1)
    · simp only [hp, if_false] at hz ⊢
      exact ih
section
variable {F : Nat → Nat} {n : Nat} {o t : List Nat} {p : Nat → Int}
theorem Run.perm (h : Run F n o t p) : (ordL F n).reverse.Perm (List.range n) := by
  refine (List.reverse_perm _).trans ?_
  rw [← h.ord]
  refine (List.perm_ext_iff_of_nodup h.qu.gr.nodup List.nodup_range).2 fun a => ?_
  rw [List.mem_range]
  exact ⟨h.qu.gr.lt a, h.all a⟩
/-- The model's answer for all buttons, and the two numbers found in the order of the search, last first, tell the same. -/
theorem Run.answers (hn : n ≤ 16) (hI : Irr F n) (h : Run F n o t p) (D : Nat → Nat → Nat → Bool) :
    Same n (aRun accM (st accM (kids p n) D n) p (List.range n)) (aRun accC (st accC (kids p n) D n) p (ordL F n).reverse) (aRun accL (st accL (kids p n) D n) p (ordL F n).reverse) := by
  rw [aRun_perm accC_comm h.perm, aRun_perm accL_comm h.perm]
  have hz := h.sizes hI
  have := aRun_same (vM := st accM (kids p n) D n) (vC := st accC (kids p n) D n) (vL := st accL (kids p n) D n) (z := sz (kids p n) n) (p := p) n (by omega) fun i _ a ha hz => st_same _ D n i hz a 0 ha
  rw [hz] at this
  exact this
end
end Go.Proofs.YtmcimfblhpflnaaDoor
/-
Bounds on the numbers of states. Nothing here speaks of the program.
-/
namespace Go.Proofs.YtmcimfblhpflnaaDoor
theorem kids_succ (p : Nat → Int) (k i : Nat) : kids p (k + 1) i = if p k = (i : Nat) then kids p k i ++ [k] else kids p k i := by
  unfold kids
  rw [List.range_succ, List.filter_append]
  by_cases h : p k = (i : Nat) <;> simp [h]
theorem szL_kids_le (z : Nat → Nat) (p : Nat → Int) (i : Nat) : ∀ (n k : Nat), k ≤ n → szL z (kids p k i) ≤ szL z (kids p n i)
  | 0, k, h => by have : k = 0 := by omega
                  subst this; exact Nat.le_refl _
  | n + 1, k, h => by
    by_cases e : k = n + 1
    · subst e; exact Nat.le_refl _
    · have ih := szL_kids_le z p i n k (by omega)
      rw [kids_succ]
      split
      · rw [szL_snoc]; omega
      · exact ih
theorem szL_mem {z : Nat → Nat} {j : Nat} : ∀ {l : List Nat}, j ∈ l → z j ≤ szL z l
  | [], h => by simp at h
  | a :: r, h => by
    have e : szL z (a :: r) = z a + szL z r := by simp [szL]
    rw [e]
    rcases List.mem_cons.1 h with rfl | h
    · omega
    · have := szL_mem (z := z) h; omega
theorem sumN_mem (g : Nat → Nat) {i : Nat} : ∀ {n : Nat}, i < n → g i ≤ sumN g n
  | 0, h => absurd h (by omega)
  | n + 1, h => by
    rw [sumN]
    by_cases e : i = n
    · subst e; omega
    · have := sumN_mem g (i := i) (n := n) (by omega); omega
/-- What the walks of states ask: how large the numbers are. -/
structure Bnd (p : Nat → Int) (n : Nat) (D : Nat → Nat → Nat → Bool) : Prop where
  fix : ∀ {T : Type} (A : Acc T), ∀ i, i < n → ∀ pr ab, st A (kids p n) D n i pr ab = stOf A (kids p n) D (st A (kids p n) D n) i pr ab
  v : ∀ i, i < n → ∀ a b, a < 2 → (st accM (kids p n) D n i a b).1 ≤ 2147483648 ∧ (st accM (kids p n) D n i a b).2 ≤ 16
  vk : ∀ i j, i < n → j ∈ kids p n i → ∀ a b, a < 2 → (st accM (kids p n) D n j a b).1 ≤ 536870912
  r : ∀ i, i < n → ∀ k, k ≤ n → ∀ a, a < 2 → ((kRun accM (st accM (kids p n) D n) a (kids p k i)).1.1 ≤ 1073741824 ∧ (kRun accM (st accM (kids p n) D n) a (kids p k i)).1.2 ≤ 16) ∧
    (kRun accM (st accM (kids p n) D n) a (kids p k i)).2.1 ≤ 1073741824 ∧ (kRun accM (st accM (kids p n) D n) a (kids p k i)).2.2 ≤ 16
  rz : ∀ i, i < n → ∀ k, k ≤ n → ∀ a, a < 2 → ((kRun accM (st accM (kids p n) D n) a (kids p k i)).1.1 = 0 → (kRun accM (st accM (kids p n) D n) a (kids p k i)).1.2 = 0) ∧
    ((kRun accM (st accM (kids p n) D n) a (kids p k i)).2.1 = 0 → (kRun accM (st accM (kids p n) D n) a (kids p k i)).2.2 = 0)
  vc : ∀ i, i < n → ∀ a b, a < 2 → st accC (kids p n) D n i a b ≤ 2147483648 ∧ st accL (kids p n) D n i a b ≤ 288
  vck : ∀ i j, i < n → j ∈ kids p n i → ∀ a b, a < 2 → st accC (kids p n) D n j a b ≤ 536870912
  rc : ∀ i, i < n → ∀ k, k ≤ n → ∀ a, a < 2 → ((kRun accC (st accC (kids p n) D n) a (kids p k i)).1 ≤ 1073741824 ∧ (kRun accC (st accC (kids p n) D n) a (kids p k i)).2 ≤ 1073741824) ∧
    (kRun accL (st accL (kids p n) D n) a (kids p k i)).1 ≤ 305 ∧ (kRun accL (st accL (kids p n) D n) a (kids p k i)).2 ≤ 305
theorem Same.bound {m : Nat} {s : Nat × Nat} {c v : Nat} (h : Same m s c v) (hm : m ≤ 16) : s.2 ≤ 16 := by
  by_cases h0 : s.1 = 0
  · have := (h.no h0).1; omega
  · have := h.yes h0; omega
theorem pow4 {a b : Nat} (h : a ≤ b) : 4 ^ a ≤ 4 ^ b := Nat.pow_le_pow_right (by decide) h
section
variable {F : Nat → Nat} {n : Nat} {o t : List Nat} {p : Nat → Int}
/-- No tree has more buttons than there are. -/
theorem Run.sz_le (hI : Irr F n) (h : Run F n o t p) : ∀ v, v < n → sz (kids p n) n v ≤ n := by
  obtain ⟨r, hr1, hr2⟩ := h.ranks
  have key : ∀ (m v : Nat), v < n → n - r v ≤ m → sz (kids p n) n v ≤ n := by
    intro m
    induction m with
    | zero => intro v hv h0; have := hr1 v hv; omega
    | succ m ih =>
      intro v hv hm
      rcases h.par_lt hI hv with hp | ⟨u, hu, hun, _⟩
      · have h1 := h.sizes hI
        have h2 := sumN_mem (fun i => if p i < 0 then sz (kids p n) n i else 0) hv
        simp only [hp, if_true] at h2
        omega
      · have hk : v ∈ kids p n u := kids_mem.2 ⟨hv, hu⟩
        have h1 := hr2 u v hk
        have h2 := ih u hun (by omega)
        rw [sz_fix hr2 (hr1 u hun)] at h2
        have h3 := szL_mem (z := sz (kids p n) n) hk
        omega
  exact fun v hv => key _ v hv (Nat.le_refl _)
theorem Run.bnd (hn : n ≤ 16) (hI : Irr F n) (h : Run F n o t p) (D : Nat → Nat → Nat → Bool) : Bnd p n D := by
  obtain ⟨r, hr1, hr2⟩ := h.ranks
  have hz := h.sz_le hI
  have hkz : ∀ i, i < n → 1 + szL (sz (kids p n) n) (kids p n i) ≤ n := fun i hi => by
    have := hz i hi
    rwa [sz_fix hr2 (hr1 i hi)] at this
  have hjz : ∀ i j, i < n → j ∈ kids p n i → 1 + sz (kids p n) n j ≤ 16 := fun i j hi hj => by
    have h1 := hkz i hi
    have h2 := szL_mem (z := sz (kids p n) n) hj
    omega
  have hpz : ∀ i k, i < n → k ≤ n → szL (sz (kids p n) n) (kids p k i) ≤ 15 := fun i k hi hk => by
    have h1 := hkz i hi
    have h2 := szL_kids_le (sz (kids p n) n) p i n k hk
    omega
  have sb := fun i (hi : i < n) a b (ha : a < 2) => st_bound (D := D) hr2 n i a b (hr1 i hi) ha
  have ss := fun i (hi : i < n) a b (ha : a < 2) => st_same (kids p n) D n i (by have := hz i hi; omega) a b ha
  have sub : ∀ i k, k ≤ n → ∀ j ∈ kids p k i, j < n ∧ j ∈ kids p n i := fun i k hk j hj => by
    obtain ⟨h1, h2⟩ := kids_mem.1 hj
    exact ⟨by omega, kids_mem.2 ⟨by omega, h2⟩⟩
  have e15 : (4 : Nat) ^ 15 = 1073741824 := rfl
  have e16 : (4 : Nat) ^ 16 = 4294967296 := rfl
  have kb := fun i (hi : i < n) k (hk : k ≤ n) a (ha : a < 2) => kRun_bound (vC := st accC (kids p n) D n) (vL := st accL (kids p n) D n) (z := sz (kids p n) n) (pr := a) (kids p k i) (fun j hj b hb => sb j (sub i k hk j hj).1 b a hb)
  have ks := fun i (hi : i < n) k (hk : k ≤ n) a (ha : a < 2) => kRun_same3 (vM := st accM (kids p n) D n) (vC := st accC (kids p n) D n) (vL := st accL (kids p n) D n) (z := sz (kids p n) n) (pr := a) (kids p k i) (by have := hpz i k hi hk; omega) (fun j hj b hb => ss j (sub i k hk j hj).1 b a hb)
  refine ⟨fun A i hi pr ab => st_fix hr2 (hr1 i hi) pr ab, fun i hi a b ha => ?_, fun i j hi hj a b ha => ?_, fun i hi k hk a ha => ?_, fun i hi k hk a ha => ?_, fun i hi a b ha => ?_, fun i j hi hj a b ha => ?_, fun i hi k hk a ha => ?_⟩
  · have h1 := (sb i hi a b ha).1
    have h2 := ss i hi a b ha
    have h3 := pow4 (show sz (kids p n) n i ≤ 16 by have := hz i hi; omega)
    rw [← h2.ways]
    exact ⟨by omega, h2.bound (by have := hz i hi; omega)⟩
  · have hjn := (kids_mem.1 hj).1
    have h1 := (sb j hjn a b ha).1
    have h2 := ss j hjn a b ha
    have h3 := pow4 (show sz (kids p n) n j ≤ 15 by have := hjz i j hi hj; omega)
    rw [← h2.ways]
    omega
  · obtain ⟨⟨b1, b2⟩, _⟩ := kb i hi k hk a ha
    obtain ⟨s1, s2⟩ := ks i hi k hk a ha
    have h3 := pow4 (hpz i k hi hk)
    have h4 := hpz i k hi hk
    rw [← s1.ways, ← s2.ways]
    exact ⟨⟨by omega, s1.bound (by omega)⟩, by omega, s2.bound (by omega)⟩
  · obtain ⟨s1, s2⟩ := ks i hi k hk a ha
    exact ⟨fun h => (s1.no h).1, fun h => (s2.no h).1⟩
  · have h1 := sb i hi a b ha
    have h3 := pow4 (show sz (kids p n) n i ≤ 16 by have := hz i hi; omega)
    have h4 := hz i hi
    omega
  · have hjn := (kids_mem.1 hj).1
    have h1 := (sb j hjn a b ha).1
    have h3 := pow4 (show sz (kids p n) n j ≤ 15 by have := hjz i j hi hj; omega)
    omega
  · obtain ⟨⟨b1, b2⟩, b3, b4⟩ := kb i hi k hk a ha
    have h3 := pow4 (hpz i k hi hk)
    have h4 := hpz i k hi hk
    omega
end
end Go.Proofs.YtmcimfblhpflnaaDoor
/-
Bounds on the numbers of all trees. Nothing here speaks of the program.
-/
namespace Go.Proofs.YtmcimfblhpflnaaDoor
theorem szL_range (z : Nat → Nat) : ∀ n, szL z (List.range n) = sumN z n
  | 0 => rfl
  | n + 1 => by rw [List.range_succ, szL_snoc, sumN, szL_range z n]
theorem szL_perm {z : Nat → Nat} {l l' : List Nat} (h : l.Perm l') : szL z l = szL z l' := (h.map z).sum_nat
theorem szL_append (z : Nat → Nat) (l r : List Nat) : szL z (l ++ r) = szL z l + szL z r := by simp [szL]
/-- Numbers of all trees of a list. -/
theorem aRun_bound {vC vL : Nat → Nat → Nat → Nat} {z : Nat → Nat} {p : Nat → Int} : ∀ l : List Nat, (∀ i ∈ l, ∀ a, a < 2 → 2 * vC i a 0 ≤ 4 ^ z i ∧ vL i a 0 ≤ 18 * z i) →
    aRun accC vC p l ≤ 4 ^ szL (fun i => if p i < 0 then z i else 0) l ∧ aRun accL vL p l ≤ 18 * szL (fun i => if p i < 0 then z i else 0) l := by
  have key : ∀ (l : List Nat) (m c v : Nat), (∀ i ∈ l, ∀ a, a < 2 → 2 * vC i a 0 ≤ 4 ^ z i ∧ vL i a 0 ≤ 18 * z i) → c ≤ 4 ^ m → v ≤ 18 * m →
      l.foldl (aStep accC vC p) c ≤ 4 ^ (m + szL (fun i => if p i < 0 then z i else 0) l) ∧ l.foldl (aStep accL vL p) v ≤ 18 * (m + szL (fun i => if p i < 0 then z i else 0) l) := by
    intro l
    induction l with
    | nil => intro m c v _ h1 h2; exact ⟨h1, h2⟩
    | cons a r ih =>
      intro m c v h h1 h2
      have e : szL (fun i => if p i < 0 then z i else 0) (a :: r) = (if p a < 0 then z a else 0) + szL (fun i => if p i < 0 then z i else 0) r := by simp [szL]
      rw [e, ← Nat.add_assoc, List.foldl_cons, List.foldl_cons]
      obtain ⟨c0, v0⟩ := h a (by simp) 0 (by omega)
      obtain ⟨c1, v1⟩ := h a (by simp) 1 (by omega)
      refine ih _ _ _ (fun i hi => h i (List.mem_cons_of_mem _ hi)) ?_ ?_
      · unfold aStep
        split
        · show c * (vC a 0 0 + vC a 1 0) ≤ 4 ^ (m + z a)
          rw [four_mul]
          exact Nat.mul_le_mul h1 (by omega)
        · exact h1
      · unfold aStep
        split
        · show v + min (vL a 0 0) (vL a 1 0) ≤ 18 * (m + z a)
          omega
        · exact h2
  intro l h
  have := key l 0 1 0 h (by simp) (by simp)
  rw [Nat.zero_add] at this
  exact this
/-- What the walks over all trees ask. -/
structure BndA (F : Nat → Nat) (p : Nat → Int) (n : Nat) (D : Nat → Nat → Nat → Bool) : Prop where
  m : ∀ k, k ≤ n → (aRun accM (st accM (kids p n) D n) p (List.range k)).1 ≤ 4294967296 ∧ (aRun accM (st accM (kids p n) D n) p (List.range k)).2 ≤ 16
  e : ∀ k, k < n → (accM.either (st accM (kids p n) D n k 0 0) (st accM (kids p n) D n k 1 0)).1 ≤ 4294967296 ∧ (accM.either (st accM (kids p n) D n k 0 0) (st accM (kids p n) D n k 1 0)).2 ≤ 16
  x : ∀ k, k < n → p k < 0 → (aRun accM (st accM (kids p n) D n) p (List.range k)).1 * (accM.either (st accM (kids p n) D n k 0 0) (st accM (kids p n) D n k 1 0)).1 ≤ 4294967296
  c : ∀ l r, l ++ r = (ordL F n).reverse → aRun accC (st accC (kids p n) D n) p l ≤ 4294967296 ∧ aRun accL (st accL (kids p n) D n) p l ≤ 288
section
variable {F : Nat → Nat} {n : Nat} {o t : List Nat} {p : Nat → Int}
theorem Run.bndA (hn : n ≤ 16) (hI : Irr F n) (h : Run F n o t p) (D : Nat → Nat → Nat → Bool) : BndA F p n D := by
  obtain ⟨r, hr1, hr2⟩ := h.ranks
  have hz := h.sz_le hI
  have hsum := h.sizes hI
  have sb := fun i (hi : i < n) a (ha : a < 2) => st_bound (D := D) hr2 n i a 0 (hr1 i hi) ha
  have ss := fun i (hi : i < n) a (ha : a < 2) => st_same (kids p n) D n i (by have := hz i hi; omega) a 0 ha
  have e16 : (4 : Nat) ^ 16 = 4294967296 := rfl
  have smono : ∀ k, k ≤ n → sumN (fun i => if p i < 0 then sz (kids p n) n i else 0) k ≤ n := by
    intro k hk
    have : ∀ n k, k ≤ n → ∀ g : Nat → Nat, sumN g k ≤ sumN g n := by
      intro n
      induction n with
      | zero => intro k hk g; have : k = 0 := by omega
                subst this; exact Nat.le_refl _
      | succ n ih =>
        intro k hk g
        by_cases e : k = n + 1
        · subst e; exact Nat.le_refl _
        · have := ih k (by omega) g
          rw [sumN]; omega
    have := this n k hk (fun i => if p i < 0 then sz (kids p n) n i else 0)
    omega
  have same := fun k (hk : k ≤ n) => aRun_same (vM := st accM (kids p n) D n) (vC := st accC (kids p n) D n) (vL := st accL (kids p n) D n) (z := sz (kids p n) n) (p := p) k (by have := smono k hk; omega) (fun i hi a ha _ => ss i (by omega) a ha)
  have bound := fun k (hk : k ≤ n) => aRun_bound (vC := st accC (kids p n) D n) (vL := st accL (kids p n) D n) (z := sz (kids p n) n) (p := p) (List.range k) (fun i hi a ha => sb i (by have := List.mem_range.1 hi; omega) a ha)
  have ei := fun k (hk : k < n) => (ss k hk 0 (by omega)).either (by have := hz k hk; omega) (ss k hk 1 (by omega))
  have ew : ∀ k, k < n → (accM.either (st accM (kids p n) D n k 0 0) (st accM (kids p n) D n k 1 0)).1 ≤ 4 ^ sz (kids p n) n k := fun k hk => by
    rw [← (ei k hk).ways]
    have h0 := (sb k hk 0 (by omega)).1
    have h1 := (sb k hk 1 (by omega)).1
    show st accC (kids p n) D n k 0 0 + st accC (kids p n) D n k 1 0 ≤ _
    omega
  have aw : ∀ k, k ≤ n → (aRun accM (st accM (kids p n) D n) p (List.range k)).1 ≤ 4 ^ sumN (fun i => if p i < 0 then sz (kids p n) n i else 0) k := fun k hk => by
    rw [← (same k hk).ways, ← szL_range]
    exact (bound k hk).1
  refine ⟨fun k hk => ⟨?_, (same k hk).bound (by have := smono k hk; omega)⟩, fun k hk => ⟨?_, (ei k hk).bound (by have := hz k hk; omega)⟩, fun k hk hp => ?_, fun l r hl => ?_⟩
  · have h1 := aw k hk
    have h2 := pow4 (show sumN (fun i => if p i < 0 then sz (kids p n) n i else 0) k ≤ 16 by have := smono k hk; omega)
    omega
  · have h1 := ew k hk
    have h2 := pow4 (show sz (kids p n) n k ≤ 16 by have := hz k hk; omega)
    omega
  · have h1 := Nat.mul_le_mul (aw k (by omega)) (ew k hk)
    rw [← four_mul] at h1
    have h3 := smono (k + 1) hk
    simp only [sumN, hp, if_true] at h3
    have h2 := pow4 (show sumN (fun i => if p i < 0 then sz (kids p n) n i else 0) k + sz (kids p n) n k ≤ 16 by omega)
    omega
  · have hm : ∀ i ∈ l, i < n := fun i hi => by
      have h1 : i ∈ (ordL F n).reverse := by rw [← hl]; exact List.mem_append.2 (.inl hi)
      exact List.mem_range.1 (h.perm.mem_iff.1 h1)
    have hb := aRun_bound (vC := st accC (kids p n) D n) (vL := st accL (kids p n) D n) (z := sz (kids p n) n) (p := p) l (fun i hi a ha => sb i (hm i hi) a ha)
    have hs := szL_perm (z := fun i => if p i < 0 then sz (kids p n) n i else 0) h.perm
    rw [← hl, szL_append, szL_range, hsum] at hs
    have h2 := pow4 (show szL (fun i => if p i < 0 then sz (kids p n) n i else 0) l ≤ 16 by omega)
    omega
end
end Go.Proofs.YtmcimfblhpflnaaDoor
