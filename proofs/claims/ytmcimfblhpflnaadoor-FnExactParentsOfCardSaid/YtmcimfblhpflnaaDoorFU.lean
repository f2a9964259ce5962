/-
Parents are told by the graph alone. Nothing here speaks of the program.
-/
import Derived.Test.YtmcimfblhpflnaaDoorBT
namespace Go.Proofs.YtmcimfblhpflnaaDoor
section
variable {F : Nat → Nat} {n : Nat}
/-- A search that has reached all. -/
structure Run (F : Nat → Nat) (n : Nat) (o t : List Nat) (p : Nat → Int) : Prop where
  qu : Qu F n o t p (o ++ t).length
  all : ∀ v, v < n → v ∈ o ++ t
theorem Run.edge {o t : List Nat} {p : Nat → Int} (h : Run F n o t p) {a b : Nat} (ha : a < n) (hb : (F a).testBit b = true) : p a = (b : Nat) ∨ p b = (a : Nat) := by
  obtain ⟨m, hm, e⟩ := List.mem_iff_getElem.1 (h.all a ha)
  exact (h.qu.done m (by omega) a (by rw [List.getElem?_eq_getElem hm, e]) b hb).2
theorem grow_same (hF : Sym F n) (hn : n ≤ 16) {o t o' t' : List Nat} {p p' : Nat → Int} (h : Grow F n o t p) (h' : Run F n o' t' p') : ∀ v ∈ o ++ t, p' v = p v := by
  induction h with
  | nil => simp
  | @plant o t p r h hs hr hlt hu ih =>
    intro v hv
    by_cases e : v = r
    · subst e
      rw [upd_same]
      have hg : Grow F n (o ++ t) [v] (upd p v (-1)) := .plant h hs hr hlt hu
      have h1 := ((hg.tops hF hn).1 v (by simp)).1 (upd_same _ _ _)
      exact ((h'.qu.gr.tops hF hn).1 v (h'.all v hlt)).2 h1
    · rw [upd_other e]
      rcases List.mem_append.1 hv with hv | hv
      · exact ih v hv
      · simp at hv; exact absurd hv e
  | @child o t p u j h hu hb hj hlt ih =>
    intro v hv
    by_cases e : v = j
    · subst e
      rw [upd_same]
      have hum : u ∈ o ++ t := List.mem_append.2 (.inr hu)
      rcases h'.edge (h.lt u hum) hb with h1 | h1
      · rw [ih u hum] at h1
        rcases h.par u hum with h2 | ⟨x, hx, h2, _⟩
        · omega
        · have : x = v := by omega
          exact absurd (this ▸ hx) hj
      · exact h1
    · rw [upd_other e]
      exact ih v ((mem_snoc.1 hv).resolve_right e)
open Classical in
/-- The parents. -/
noncomputable def parV (F : Nat → Nat) (n : Nat) : Nat → Int := if h : ∃ o t p, Run F n o t p then h.choose_spec.choose_spec.choose else fun _ => 0
theorem Run.par (hF : Sym F n) (hn : n ≤ 16) {o t : List Nat} {p : Nat → Int} (h : Run F n o t p) : ∀ v, v < n → p v = parV F n v := by
  intro v hv
  have hex : ∃ o t p, Run F n o t p := ⟨o, t, p, h⟩
  have e : parV F n = hex.choose_spec.choose_spec.choose := by unfold parV; rw [dif_pos hex]
  have hr := hex.choose_spec.choose_spec.choose_spec
  rw [e]
  exact grow_same hF hn hr.qu.gr h v (hr.all v hv)
/-! ### the roots in their order -/
theorem roots_rising (F : Nat → Nat) (n : Nat) : (roots F n n).Pairwise (· < ·) := List.Pairwise.filter _ List.pairwise_lt_range
theorem roots_lt {i j a b : Nat} (hi : (roots F n n)[i]? = some a) (hj : (roots F n n)[j]? = some b) : i < j ↔ a < b := by
  have hp := roots_rising F n
  rw [List.pairwise_iff_getElem] at hp
  obtain ⟨h1, e1⟩ := List.getElem?_eq_some_iff.1 hi
  obtain ⟨h2, e2⟩ := List.getElem?_eq_some_iff.1 hj
  constructor
  · intro h
    have := hp i j h1 h2 h
    rw [e1, e2] at this
    exact this
  · intro h
    apply Nat.lt_of_not_le
    intro hle
    rcases Nat.lt_or_eq_of_le hle with h3 | h3
    · have := hp j i h2 h1 h3
      rw [e1, e2] at this
      omega
    · subst h3
      rw [hi] at hj
      injection hj with hj
      omega
theorem root_at {v : Nat} (h : root F n v = true) (hv : v < n) : ∃ i : Nat, (roots F n n)[i]? = some v := by
  have hm : v ∈ roots F n n := roots_mem.2 ⟨hv, h⟩
  obtain ⟨i, hi, e⟩ := List.mem_iff_getElem.1 hm
  exact ⟨i, by rw [List.getElem?_eq_getElem hi, e]⟩
/-- The roots that have been taken, and what is reached from them. -/
structure Taken (F : Nat → Nat) (n : Nat) (o t : List Nat) (p : Nat → Int) (m idx : Nat) : Prop where
  qu : Qu F n o t p m
  len : (o ++ t).length = m
  has : ∀ j r, j < idx → (roots F n n)[j]? = some r → r ∈ o ++ t
  only : ∀ v ∈ o ++ t, root F n v = true → ∃ j, j < idx ∧ (roots F n n)[j]? = some v
  no : ∀ v, v ∉ o ++ t → p v = -1
variable {o t : List Nat} {p : Nat → Int} {m idx r : Nat}
theorem taken_start (F : Nat → Nat) (n : Nat) : Taken F n [] [] (fun _ => -1) 0 0 := ⟨qu_start F n _, rfl, fun j r hj => absurd hj (by omega), by simp, fun _ _ => rfl⟩
theorem Taken.fresh (h : Taken F n o t p m idx) (hr : (roots F n n)[idx]? = some r) : r ∉ o ++ t := by
  intro hm
  have hrt := roots_mem.1 (List.mem_of_getElem? hr)
  obtain ⟨j, hj, e⟩ := h.only r hm hrt.2
  have := (roots_lt e hr).1 hj
  omega
theorem Taken.below (hF : Sym F n) (hn : n ≤ 16) (h : Taken F n o t p m idx) (hr : (roots F n n)[idx]? = some r) : ∀ u, u < r → u ∈ o ++ t := by
  intro u hu
  have hrn := (roots_mem.1 (List.mem_of_getElem? hr)).1
  have hun : u < n := by omega
  have hp := comp_part hF hun
  have hl := root_low hF hn hp
  have hle := low_le (hp.lt16 hn) (comp_self F n u)
  obtain ⟨j, hj⟩ := root_at hl.1 (hp.low_lt hn)
  have hji : j < idx := (roots_lt hj hr).2 (by omega)
  have hm := h.has j _ hji hj
  have hs : Shut F (o ++ t) := h.qu.shut h.len.symm
  exact hp.least _ (shut_clo hs n) _ (hp.low hn) hm u (comp_self F n u)
theorem Taken.step (hF : Sym F n) (hn : n ≤ 16) (h : Taken F n o t p m idx) (hr : (roots F n n)[idx]? = some r) {t' : List Nat} {p' : Nat → Int} {m' : Nat} (hq : Qu F n (o ++ t) t' p' m') (hl : ((o ++ t) ++ t').length = m')
    (hm : r ∈ (o ++ t) ++ t') (hno : ∀ v, v ∉ (o ++ t) ++ t' → p' v = -1) : Taken F n (o ++ t) t' p' m' (idx + 1) := by
  have hrt := roots_mem.1 (List.mem_of_getElem? hr)
  have hrt' : r ∈ t' := (List.mem_append.1 hm).resolve_left (h.fresh hr)
  refine ⟨hq, hl, fun j r' hj hr' => ?_, fun v hv hroot => ?_, hno⟩
  · by_cases e : j = idx
    · subst e
      rw [hr] at hr'
      injection hr' with hr'
      exact hr' ▸ hm
    · exact List.mem_append.2 (.inl (h.has j r' (by omega) hr'))
  · rcases List.mem_append.1 hv with hv | hv
    · obtain ⟨j, hj, e⟩ := h.only v hv hroot
      exact ⟨j, by omega, e⟩
    · have hone := hq.gr.one hF (fun x hx u hu => by
        rcases hq.gr.par x (List.mem_append.2 (.inr hx)) with h1 | ⟨y, _, h2, h3⟩
        · omega
        · have : y = u := by omega
          subst this; exact h3) v hv r hrt'
      have h1 : low (comp F n v) = v := by simpa [root] using hroot
      have h2 : low (comp F n r) = r := by simpa [root] using hrt.2
      have : v = r := by rw [← h1, hone, h2]
      exact ⟨idx, by omega, this ▸ hr⟩
theorem Taken.full (hF : Sym F n) (hn : n ≤ 16) (h : Taken F n o t p m (roots F n n).length) : Run F n o t p := by
  have hs : Shut F (o ++ t) := h.qu.shut h.len.symm
  refine ⟨by rw [h.len]; exact h.qu, fun v hv => ?_⟩
  have hp := comp_part hF hv
  have hl := root_low hF hn hp
  obtain ⟨j, hj⟩ := root_at hl.1 (hp.low_lt hn)
  have hjl := (List.getElem?_eq_some_iff.1 hj).1
  exact hp.least _ (shut_clo hs n) _ (hp.low hn) (h.has j _ hjl hj) v (comp_self F n v)
end
end Go.Proofs.YtmcimfblhpflnaaDoor
