/-
A search level by level: what it has reached, and that it ends well just if edges and parts are together as many as buttons. Nothing here speaks of the program.
-/
import Derived.Test.YtmcimfblhpflnaaDoorPV
namespace Go.Proofs.YtmcimfblhpflnaaDoor
def upd (p : Nat → Int) (j : Nat) (x : Int) : Nat → Int := fun v => if v = j then x else p v
theorem upd_same (p : Nat → Int) (j : Nat) (x : Int) : upd p j x j = x := by simp [upd]
theorem upd_other {p : Nat → Int} {j v : Nat} {x : Int} (h : v ≠ j) : upd p j x v = p v := by simp [upd, h]
/-- A set of buttons that no edge leaves. -/
def Shut (F : Nat → Nat) (o : List Nat) : Prop := ∀ u ∈ o, ∀ j, (F u).testBit j = true → j ∈ o
/-- What can have been reached: whole trees o0, and some of the next one, t, with parents p. -/
inductive Grow (F : Nat → Nat) (n : Nat) : List Nat → List Nat → (Nat → Int) → Prop
  | nil (p : Nat → Int) : Grow F n [] [] p
  | plant {o t p r} : Grow F n o t p → Shut F (o ++ t) → r ∉ o ++ t → r < n → (∀ u, u < r → u ∈ o ++ t) → Grow F n (o ++ t) [r] (upd p r (-1))
  | child {o t p u j} : Grow F n o t p → u ∈ t → (F u).testBit j = true → j ∉ o ++ t → j < n → Grow F n o (t ++ [j]) (upd p j u)
section
variable {F : Nat → Nat} {n : Nat} {o t : List Nat} {p : Nat → Int}
theorem mem_snoc {o t : List Nat} {j v : Nat} : v ∈ o ++ (t ++ [j]) ↔ v ∈ o ++ t ∨ v = j := by simp [or_assoc]
theorem Grow.lt (h : Grow F n o t p) : ∀ v ∈ o ++ t, v < n := by
  induction h with
  | nil => simp
  | plant h hs hr hlt hu ih =>
    intro v hv
    rcases List.mem_append.1 hv with hv | hv
    · exact ih v hv
    · simp at hv; omega
  | child h hu hb hj hlt ih =>
    intro v hv
    rcases mem_snoc.1 hv with hv | hv
    · exact ih v hv
    · omega
theorem Grow.nodup (h : Grow F n o t p) : (o ++ t).Nodup := by
  induction h with
  | nil => simp
  | plant h hs hr hlt hu ih =>
    rw [List.nodup_append]
    exact ⟨ih, by simp, fun a ha b hb => by simp at hb; subst hb; rintro rfl; exact hr ha⟩
  | child h hu hb hj hlt ih =>
    rw [← List.append_assoc, List.nodup_append]
    exact ⟨ih, by simp, fun a ha b hb => by simp at hb; subst hb; rintro rfl; exact hj ha⟩
theorem Grow.shut (h : Grow F n o t p) : Shut F o := by
  induction h with
  | nil => intro u hu; simp at hu
  | plant h hs hr hlt hu ih => exact hs
  | child h hu hb hj hlt ih => exact ih
/-- Each has no parent, or one that was reached before it. -/
theorem Grow.par (h : Grow F n o t p) : ∀ v ∈ o ++ t, p v = -1 ∨ ∃ u, u ∈ o ++ t ∧ p v = (u : Nat) ∧ (F u).testBit v = true := by
  induction h with
  | nil => simp
  | @plant o t p r h hs hr hlt hu ih =>
    intro v hv
    by_cases e : v = r
    · left; rw [e, upd_same]
    · have hv' : v ∈ o ++ t := by
        rcases List.mem_append.1 hv with hv | hv
        · exact hv
        · simp at hv; exact absurd hv e
      rw [upd_other e]
      rcases ih v hv' with h1 | ⟨u, h1, h2, h3⟩
      · exact .inl h1
      · exact .inr ⟨u, List.mem_append.2 (.inl h1), h2, h3⟩
  | @child o t p u j h hu hb hj hlt ih =>
    intro v hv
    by_cases e : v = j
    · right; exact ⟨u, mem_snoc.2 (.inl (List.mem_append.2 (.inr hu))), by rw [e, upd_same], by rw [e]; exact hb⟩
    · rw [upd_other e]
      rcases ih v ((mem_snoc.1 hv).resolve_right e) with h1 | ⟨u', h1, h2, h3⟩
      · exact .inl h1
      · exact .inr ⟨u', mem_snoc.2 (.inl h1), h2, h3⟩
/-- No two are parents of each other. -/
theorem Grow.once (h : Grow F n o t p) : ∀ v w, v ∈ o ++ t → w ∈ o ++ t → p v = (w : Nat) → p w ≠ (v : Nat) := by
  induction h with
  | nil => intro v w hv; simp at hv
  | @plant o t p r h hs hr hlt hu ih =>
    intro v w hv hw e1 e2
    have c : ∀ x, x ∈ o ++ t ++ [r] → x ≠ r → x ∈ o ++ t := fun x hx hne => by
      rcases List.mem_append.1 hx with hx | hx
      · exact hx
      · simp at hx; exact absurd hx hne
    by_cases hvr : v = r
    · rw [hvr, upd_same] at e1; omega
    · by_cases hwr : w = r
      · rw [hwr, upd_same] at e2; omega
      · rw [upd_other hvr] at e1
        rw [upd_other hwr] at e2
        exact ih v w (c v hv hvr) (c w hw hwr) e1 e2
  | @child o t p u j h hu hb hj hlt ih =>
    intro v w hv hw e1 e2
    have c : ∀ x, x ∈ o ++ (t ++ [j]) → x ≠ j → x ∈ o ++ t := fun x hx hne => (mem_snoc.1 hx).resolve_right hne
    have noj : ∀ x, x ∈ o ++ t → p x ≠ (j : Nat) := fun x hx e => by
      rcases h.par x hx with h1 | ⟨u', h1, h2, _⟩
      · omega
      · have : u' = j := by omega
        exact hj (this ▸ h1)
    by_cases hvj : v = j
    · by_cases hwj : w = j
      · rw [hvj, upd_same, hwj] at e1
        have : u = j := by omega
        exact hj (this ▸ List.mem_append.2 (.inr hu))
      · rw [upd_other hwj, hvj] at e2
        exact noj w (c w hw hwj) e2
    · rw [upd_other hvj] at e1
      by_cases hwj : w = j
      · rw [hwj] at e1
        exact noj v (c v hv hvj) e1
      · rw [upd_other hwj] at e2
        exact ih v w (c v hv hvj) (c w hw hwj) e1 e2
theorem shut_clo (h : Shut F o) (n : Nat) : Clo F n (fun v => v ∈ o) := fun i j _ _ hb hi => h i hi j hb
/-- Each is in the part of one without a parent, and those alone are the least of their parts. -/
theorem Grow.tops (hF : Sym F n) (hn : n ≤ 16) (h : Grow F n o t p) : (∀ v ∈ o ++ t, (p v = -1 ↔ root F n v = true)) ∧ ∀ v ∈ o ++ t, ∃ r, r ∈ o ++ t ∧ p r = -1 ∧ (comp F n r).testBit v = true := by
  induction h with
  | nil => simp
  | @plant o t p r h hs hr hlt hu ih =>
    have c : ∀ x, x ∈ o ++ t ++ [r] → x ≠ r → x ∈ o ++ t := fun x hx hne => by
      rcases List.mem_append.1 hx with hx | hx
      · exact hx
      · simp at hx; exact absurd hx hne
    have hroot : root F n r = true := by
      rw [root_iff hF hn hlt]
      intro j hj
      cases hb : (comp F n r).testBit j
      · rfl
      · have h1 := hu j hj
        have hp := comp_part hF hlt
        exact absurd (hp.least _ (shut_clo hs n) j hb h1 r (comp_self F n r)) hr
    constructor
    · intro v hv
      by_cases e : v = r
      · subst e; rw [upd_same]; simp [hroot]
      · rw [upd_other e]; exact ih.1 v (c v hv e)
    · intro v hv
      by_cases e : v = r
      · subst e; exact ⟨v, hv, upd_same _ _ _, comp_self F n v⟩
      · obtain ⟨r', h1, h2, h3⟩ := ih.2 v (c v hv e)
        have hne : r' ≠ r := fun e => hr (e ▸ h1)
        exact ⟨r', List.mem_append.2 (.inl h1), by rw [upd_other hne]; exact h2, h3⟩
  | @child o t p u j h hu hb hj hlt ih =>
    have c : ∀ x, x ∈ o ++ (t ++ [j]) → x ≠ j → x ∈ o ++ t := fun x hx hne => (mem_snoc.1 hx).resolve_right hne
    have hum : u ∈ o ++ t := List.mem_append.2 (.inr hu)
    obtain ⟨r, hr1, hr2, hr3⟩ := ih.2 u hum
    have hrn := h.lt r hr1
    have hrj : (comp F n r).testBit j = true := (comp_part hF hrn).clo u j (h.lt u hum) hlt hb hr3
    have hne : r ≠ j := fun e => hj (e ▸ hr1)
    have hrr := (root_iff hF hn hrn).1 ((ih.1 r hr1).1 hr2)
    constructor
    · intro v hv
      by_cases e : v = j
      · subst e
        rw [upd_same]
        have hlow : r < v := by
          apply Nat.lt_of_not_le
          intro hle
          rw [hrr v (by omega)] at hrj
          cases hrj
        have h3 := comp_mem hF hrn hrj
        constructor
        · intro e; omega
        · intro hv2
          have := (root_iff hF hn hlt).1 hv2 r hlow
          rw [← h3, comp_self] at this
          cases this
      · rw [upd_other e]; exact ih.1 v (c v hv e)
    · intro v hv
      by_cases e : v = j
      · subst e
        exact ⟨r, mem_snoc.2 (.inl hr1), by rw [upd_other hne]; exact hr2, hrj⟩
      · obtain ⟨r', h1, h2, h3⟩ := ih.2 v (c v hv e)
        have hne : r' ≠ j := fun e => hj (e ▸ h1)
        exact ⟨r', mem_snoc.2 (.inl h1), by rw [upd_other hne]; exact h2, h3⟩
/-- The tree under way is of one part in each graph that has its edges to parents. -/
theorem Grow.one {F' : Nat → Nat} (hF' : Sym F' n) (h : Grow F n o t p) (hp : ∀ v ∈ t, ∀ u : Nat, p v = (u : Nat) → (F' u).testBit v = true) : ∀ v ∈ t, ∀ w ∈ t, comp F' n v = comp F' n w := by
  induction h with
  | nil => simp
  | plant h hs hr hlt hu ih => intro v hv w hw; simp at hv hw; rw [hv, hw]
  | @child o t p u j h hu hb hj hlt ih =>
    have hjt : j ∉ t := fun h => hj (List.mem_append.2 (.inr h))
    have ih := ih fun v hv x hx => by
      have hne : v ≠ j := fun e => hjt (e ▸ hv)
      exact hp v (List.mem_append.2 (.inl hv)) x (by rw [upd_other hne]; exact hx)
    have huj := hp j (List.mem_append.2 (.inr (by simp))) u (upd_same _ _ _)
    have hun := h.lt u (List.mem_append.2 (.inr hu))
    have e1 : comp F' n u = comp F' n j := comp_mem hF' hun ((comp_part hF' hun).clo u j hun hlt huj (comp_self F' n u))
    have key : ∀ v ∈ t ++ [j], comp F' n v = comp F' n u := by
      intro v hv
      rcases List.mem_append.1 hv with hv | hv
      · exact ih v hv u hu
      · simp at hv; rw [hv, e1]
    intro v hv w hw
    rw [key v hv, key w hw]
/-! ### the order of the search, told by the graph alone -/
/-- With the least button that is not there behind the list. -/
def rootL (n : Nat) (l : List Nat) : List Nat := match (List.range n).find? (fun r => !l.contains r) with
  | some r => l ++ [r]
  | none => l
def openL (n : Nat) (l : List Nat) (k : Nat) : List Nat := if l.length = k then rootL n l else l
/-- The neighbours below j that are not on the list. -/
def kidL (F : Nat → Nat) (l : List Nat) (i j : Nat) : List Nat := (List.range j).filter (fun b => (F i).testBit b && !l.contains b)
/-- What is reached behind k buttons looked at. -/
def seqL (F : Nat → Nat) (n : Nat) : Nat → List Nat
  | 0 => []
  | k + 1 => openL n (seqL F n k) k ++ kidL F (openL n (seqL F n k) k) ((openL n (seqL F n k) k).getD k 0) n
theorem kidL_succ (F : Nat → Nat) (l : List Nat) (i j : Nat) : kidL F l i (j + 1) = kidL F l i j ++ (if (F i).testBit j = true ∧ j ∉ l then [j] else []) := by
  unfold kidL
  rw [List.range_succ, List.filter_append]
  congr 1
  by_cases h1 : (F i).testBit j = true <;> by_cases h2 : j ∈ l <;> simp [h1, h2]
theorem kidL_lt {F : Nat → Nat} {l : List Nat} {i j b : Nat} (h : b ∈ kidL F l i j) : b < j := by
  have := (List.mem_filter.1 h).1
  exact List.mem_range.1 this
theorem filter_upto {P : Nat → Bool} {a : Nat} (h : ∀ x, P x = true → x < a) : ∀ c, a ≤ c → (List.range c).filter P = (List.range a).filter P
  | 0, hc => by have : a = 0 := by omega
                subst this; rfl
  | c + 1, hc => by
    by_cases e : a = c + 1
    · subst e; rfl
    · rw [List.range_succ, List.filter_append, filter_upto h c (by omega)]
      have : P c = false := by
        cases hp : P c
        · rfl
        · have := h c hp; omega
      simp [this]
theorem kidL_all {F : Nat → Nat} {l : List Nat} {i j n : Nat} (h : ∀ b, (F i).testBit b = true → b < j ∧ b < n) : kidL F l i j = kidL F l i n := by
  have h1 : ∀ b, ((F i).testBit b && !l.contains b) = true → b < j ∧ b < n := fun b hb => h b (by rw [Bool.and_eq_true] at hb; exact hb.1)
  unfold kidL
  rcases Nat.le_total j n with hl | hl
  · exact (filter_upto (fun b hb => (h1 b hb).1) n hl).symm
  · exact filter_upto (fun b hb => (h1 b hb).2) j hl
theorem rootL_some {n r : Nat} {l : List Nat} (hr : r ∉ l) (hrn : r < n) (hu : ∀ u, u < r → u ∈ l) : rootL n l = l ++ [r] := by
  have : (List.range n).find? (fun r => !l.contains r) = some r := by
    rw [List.find?_range_eq_some]
    refine ⟨by simp [hr], by simpa using hrn, fun j hj => by simp [hu j hj]⟩
  unfold rootL
  rw [this]
theorem rootL_cases (n : Nat) (l : List Nat) : rootL n l = l ∨ (rootL n l).length = l.length + 1 := by
  unfold rootL
  split
  · right; simp
  · exact .inl rfl
/-! ### the queue -/
/-- k have been looked at. -/
structure Qu (F : Nat → Nat) (n : Nat) (o t : List Nat) (p : Nat → Int) (k : Nat) : Prop where
  gr : Grow F n o t p
  lo : o.length ≤ k
  hi : k ≤ (o ++ t).length
  done : ∀ m, m < k → ∀ v, (o ++ t)[m]? = some v → ∀ j, (F v).testBit j = true → j ∈ o ++ t ∧ (p v = (j : Nat) ∨ p j = (v : Nat))
  past : ∀ v ∈ o ++ t, p v = -1 ∨ ∃ m u, m < k ∧ (o ++ t)[m]? = some u ∧ p v = (u : Nat)
  ord : o ++ t = seqL F n k ∨ o ++ t = openL n (seqL F n k) k
/-- k have been looked at, and the neighbours below j of the next one, i. -/
structure Lk (F : Nat → Nat) (n : Nat) (o t : List Nat) (p : Nat → Int) (k i j : Nat) : Prop where
  gr : Grow F n o t p
  lo : o.length ≤ k
  at_ : (o ++ t)[k]? = some i
  done : ∀ m, m < k → ∀ v, (o ++ t)[m]? = some v → ∀ j, (F v).testBit j = true → j ∈ o ++ t ∧ (p v = (j : Nat) ∨ p j = (v : Nat))
  cur : ∀ b, b < j → (F i).testBit b = true → b ∈ o ++ t ∧ (p i = (b : Nat) ∨ p b = (i : Nat))
  past : ∀ v ∈ o ++ t, (p v = -1 ∨ ∃ m u, m < k ∧ (o ++ t)[m]? = some u ∧ p v = (u : Nat)) ∨ (p v = (i : Nat) ∧ v < j)
  fst : (openL n (seqL F n k) k)[k]? = some i
  ord : o ++ t = openL n (seqL F n k) k ++ kidL F (openL n (seqL F n k) k) i j
theorem qu_start (F : Nat → Nat) (n : Nat) (p : Nat → Int) : Qu F n [] [] p 0 := ⟨.nil p, Nat.le_refl _, Nat.le_refl _, fun m hm => absurd hm (by omega), by simp, .inl rfl⟩
variable {k i j : Nat}
theorem Qu.shut (h : Qu F n o t p k) (hk : k = (o ++ t).length) : Shut F (o ++ t) := by
  intro u hu j hb
  obtain ⟨m, hm, e⟩ := List.mem_iff_getElem.1 hu
  exact (h.done m (by omega) u (by rw [List.getElem?_eq_getElem hm, e]) j hb).1
theorem Qu.plant (h : Qu F n o t p k) (hk : k = (o ++ t).length) {r : Nat} (hr : r ∉ o ++ t) (hrn : r < n) (hu : ∀ u, u < r → u ∈ o ++ t) : Qu F n (o ++ t) [r] (upd p r (-1)) k := by
  have hne : ∀ v, v ∈ o ++ t → v ≠ r := fun v hv e => hr (e ▸ hv)
  refine ⟨.plant h.gr (h.shut hk) hr hrn hu, by omega, by rw [List.length_append]; omega, fun m hm v hv j hb => ?_, fun v hv => ?_, .inr ?_⟩
  · rw [List.getElem?_append_left (by omega)] at hv
    obtain ⟨h1, h2⟩ := h.done m hm v hv j hb
    have hvm : v ∈ o ++ t := List.mem_of_getElem? hv
    exact ⟨List.mem_append.2 (.inl h1), by rw [upd_other (hne v hvm), upd_other (hne j h1)]; exact h2⟩
  · rcases List.mem_append.1 hv with hv | hv
    · rw [upd_other (hne v hv)]
      rcases h.past v hv with h1 | ⟨m, u, hm, h1, h2⟩
      · exact .inl h1
      · exact .inr ⟨m, u, hm, by rw [List.getElem?_append_left (by omega)]; exact h1, h2⟩
    · simp at hv; left; rw [hv, upd_same]
  · have he : o ++ t = seqL F n k := by
      rcases h.ord with e | e
      · exact e
      · unfold openL at e
        split at e
        · rename_i hl
          rcases rootL_cases n (seqL F n k) with e2 | e2
          · rw [e, e2]
          · rw [← e] at e2; omega
        · exact e
    unfold openL
    rw [← he, if_pos hk.symm, rootL_some hr hrn hu]
theorem Qu.enter (h : Qu F n o t p k) (hi : (o ++ t)[k]? = some i) : Lk F n o t p k i 0 :=
  have he : o ++ t = openL n (seqL F n k) k := by
    rcases h.ord with e | e
    · have hl : k < (seqL F n k).length := by rw [← e]; exact (List.getElem?_eq_some_iff.1 hi).1
      unfold openL
      rw [if_neg (by omega)]
      exact e
    · exact e
  ⟨h.gr, h.lo, hi, h.done, fun b hb => absurd hb (by omega), fun v hv => .inl (h.past v hv), by rw [← he]; exact hi, by rw [← he]; simp [kidL]⟩
theorem Lk.mem (h : Lk F n o t p k i j) : i ∈ t := by
  have h1 := h.at_
  rw [List.getElem?_append_right h.lo] at h1
  exact List.mem_of_getElem? h1
theorem Lk.skip (h : Lk F n o t p k i j) (hj : (F i).testBit j = true → p i = (j : Nat)) (hm : (F i).testBit j = true → j ∈ o ++ t) : Lk F n o t p k i (j + 1) := by
  refine ⟨h.gr, h.lo, h.at_, h.done, fun b hb hbit => ?_, fun v hv => ?_, h.fst, ?_⟩
  · by_cases e : b = j
    · subst e; exact ⟨hm hbit, .inl (hj hbit)⟩
    · exact h.cur b (by omega) hbit
  · rcases h.past v hv with h1 | ⟨h1, h2⟩
    · exact .inl h1
    · exact .inr ⟨h1, by omega⟩
  · rw [kidL_succ, ← List.append_assoc, ← h.ord, if_neg, List.append_nil]
    rintro ⟨hb, hn⟩
    have := hm hb
    rw [h.ord] at this
    rcases List.mem_append.1 this with h1 | h1
    · exact hn h1
    · have := kidL_lt h1; omega
/-- The parent has been reached. -/
theorem Lk.par_mem (h : Lk F n o t p k i j) (hp : p i = (j : Nat)) : j ∈ o ++ t := by
  rcases h.gr.par i (List.mem_append.2 (.inr h.mem)) with h1 | ⟨u, h1, h2, _⟩
  · omega
  · have : u = j := by omega
    exact this ▸ h1
theorem Lk.add (h : Lk F n o t p k i j) (hb : (F i).testBit j = true) (hj : j ∉ o ++ t) (hjn : j < n) : Lk F n o (t ++ [j]) (upd p j i) k i (j + 1) := by
  have hne : ∀ v, v ∈ o ++ t → v ≠ j := fun v hv e => hj (e ▸ hv)
  have him : i ∈ o ++ t := List.mem_append.2 (.inr h.mem)
  have hk : k < (o ++ t).length := by
    have := h.at_
    rw [List.getElem?_eq_some_iff] at this
    exact this.1
  have get : ∀ m, m ≤ k → (o ++ (t ++ [j]))[m]? = (o ++ t)[m]? := fun m hm => by
    rw [← List.append_assoc, List.getElem?_append_left (by omega)]
  refine ⟨.child h.gr h.mem hb hj hjn, h.lo, by rw [get k (Nat.le_refl _)]; exact h.at_, fun m hm v hv b hbit => ?_, fun b hbj hbit => ?_, fun v hv => ?_, h.fst, ?_⟩
  · rw [get m (by omega)] at hv
    obtain ⟨h1, h2⟩ := h.done m hm v hv b hbit
    have hvm : v ∈ o ++ t := List.mem_of_getElem? hv
    exact ⟨mem_snoc.2 (.inl h1), by rw [upd_other (hne v hvm), upd_other (hne b h1)]; exact h2⟩
  · by_cases e : b = j
    · subst e; exact ⟨mem_snoc.2 (.inr rfl), .inr (upd_same _ _ _)⟩
    · obtain ⟨h1, h2⟩ := h.cur b (by omega) hbit
      exact ⟨mem_snoc.2 (.inl h1), by rw [upd_other (hne i him), upd_other (hne b h1)]; exact h2⟩
  · by_cases e : v = j
    · right; rw [e, upd_same]; exact ⟨rfl, by omega⟩
    · rw [upd_other e]
      rcases h.past v ((mem_snoc.1 hv).resolve_right e) with (h1 | ⟨m, u, hm, h1, h2⟩) | ⟨h1, h2⟩
      · exact .inl (.inl h1)
      · exact .inl (.inr ⟨m, u, hm, by rw [get m (by omega)]; exact h1, h2⟩)
      · exact .inr ⟨h1, by omega⟩
  · rw [kidL_succ, ← List.append_assoc, ← List.append_assoc, ← h.ord, if_pos ⟨hb, fun hn => hj (by rw [h.ord]; exact List.mem_append.2 (.inl hn))⟩]
theorem Lk.next (h : Lk F n o t p k i j) (hj : ∀ b, (F i).testBit b = true → b < j) : Qu F n o t p (k + 1) := by
  have hk : k < (o ++ t).length := by
    have := h.at_
    rw [List.getElem?_eq_some_iff] at this
    exact this.1
  refine ⟨h.gr, by have := h.lo; omega, hk, fun m hm v hv b hbit => ?_, fun v hv => ?_, .inl ?_⟩
  · by_cases e : m = k
    · subst e
      rw [h.at_] at hv
      injection hv with hv
      subst hv
      exact h.cur b (hj b hbit) hbit
    · exact h.done m (by omega) v hv b hbit
  · rcases h.past v hv with (h1 | ⟨m, u, hm, h1, h2⟩) | ⟨h1, h2⟩
    · exact .inl h1
    · exact .inr ⟨m, u, by omega, h1, h2⟩
    · exact .inr ⟨k, i, by omega, h.at_, h1⟩
  · have hg : (openL n (seqL F n k) k).getD k 0 = i := by rw [List.getD_eq_getElem?_getD, h.fst]; rfl
    rw [h.ord, seqL, hg, kidL_all (fun b hb => ⟨hj b hb, h.gr.lt b (h.cur b (hj b hb) hb).1⟩)]
/-- The order is told by the graph alone. -/
theorem Qu.seq (h : Qu F n o t p k) (hk : k = (o ++ t).length) : o ++ t = seqL F n k := by
  rcases h.ord with e | e
  · exact e
  · unfold openL at e
    split at e
    · rename_i hl
      rcases rootL_cases n (seqL F n k) with e2 | e2
      · rw [e, e2]
      · rw [← e] at e2; omega
    · exact e
/-- A neighbour that has been reached and is no parent: an edge leads round. -/
theorem Lk.round (h : Lk F n o t p k i j) (hn : n ≤ 16) (hF : Sym F n) (hI : Irr F n) (hb : (F i).testBit j = true) (hp : p i ≠ (j : Nat)) (hj : j ∈ o ++ t) : n + 1 ≤ (allP F n n).length + (roots F n n).length := by
  have him : i ∈ o ++ t := List.mem_append.2 (.inr h.mem)
  have hin := h.gr.lt i him
  have hjn := h.gr.lt j hj
  have hij : i ≠ j := by rintro rfl; rw [hI i hin] at hb; cases hb
  have hnd := h.gr.nodup
  have hk : k < (o ++ t).length := by
    have := h.at_
    rw [List.getElem?_eq_some_iff] at this
    exact this.1
  have hjt : j ∈ t := by
    rcases List.mem_append.1 hj with hj | hj
    · have := h.gr.shut j hj i (hF.sym i j hin hjn hb)
      rw [List.nodup_append] at hnd
      exact absurd rfl (hnd.2.2 i this i h.mem)
    · exact hj
  have hpj : p j ≠ (i : Nat) := by
    intro e
    rcases h.past j hj with (h1 | ⟨m, u, hm, h1, h2⟩) | ⟨_, h2⟩
    · omega
    · have hui : u = i := by omega
      subst hui
      have h3 := h.at_
      rw [List.getElem?_eq_some_iff] at h1 h3
      obtain ⟨a1, a2⟩ := h1
      obtain ⟨b1, b2⟩ := h3
      have := (List.getElem_inj hnd).1 (a2.trans b2.symm)
      omega
    · omega
  obtain ⟨e, he, hx⟩ : ∃ e, e ∈ allP F n n ∧ ((i = e.1 ∧ j = e.2) ∨ (i = e.2 ∧ j = e.1)) := by
    have := gl_allP hF hI i j hin hjn
    rw [hb] at this
    exact (gl_bits i j _).1 this.symm
  obtain ⟨L1, L2, hL⟩ := List.append_of_mem he
  have hmem : ∀ x, x ∈ allP F n n ↔ x ∈ e :: (L1 ++ L2) := fun x => by
    rw [hL]; simp only [List.mem_append, List.mem_cons]
    constructor
    · rintro (h | h | h)
      · exact .inr (.inl h)
      · exact .inl h
      · exact .inr (.inr h)
    · rintro (h | h | h)
      · exact .inr (.inl h)
      · exact .inl h
      · exact .inr (.inr h)
  have hin2 : InL n (e :: (L1 ++ L2)) := fun x hx => allP_in F n x ((hmem x).2 hx)
  have hbits : ∀ a b, a < n → b < n → (F a).testBit b = (gl (e :: (L1 ++ L2)) a).testBit b := fun a b ha hb => by
    rw [gl_allP hF hI a b ha hb, Bool.eq_iff_iff, gl_bits, gl_bits]
    constructor
    · rintro ⟨x, h1, h2⟩; exact ⟨x, (hmem x).1 h1, h2⟩
    · rintro ⟨x, h1, h2⟩; exact ⟨x, (hmem x).2 h1, h2⟩
  have hS := gl_sym hin2.tail
  have htree : ∀ v ∈ t, ∀ u : Nat, p v = (u : Nat) → (gl (L1 ++ L2) u).testBit v = true := by
    intro v hv u hu
    have hvm : v ∈ o ++ t := List.mem_append.2 (.inr hv)
    rcases h.gr.par v hvm with h1 | ⟨u', h1, h2, h3⟩
    · omega
    · have : u' = u := by omega
      subst this
      have h4 := hbits u' v (h.gr.lt u' h1) (h.gr.lt v hvm)
      rw [h3] at h4
      obtain ⟨x, hx1, hx2⟩ := (gl_bits u' v _).1 h4.symm
      rcases List.mem_cons.1 hx1 with rfl | hx1
      · exfalso
        rcases hx with ⟨rfl, rfl⟩ | ⟨rfl, rfl⟩ <;> rcases hx2 with ⟨rfl, rfl⟩ | ⟨rfl, rfl⟩
        · exact hpj hu
        · exact hp hu
        · exact hp hu
        · exact hpj hu
      · exact (gl_bits u' v _).2 ⟨x, hx1, hx2⟩
  have hcomp := h.gr.one hS htree
  have hc : (comp (gl (L1 ++ L2)) n e.1).testBit e.2 = true := by
    rcases hx with ⟨e1, e2⟩ | ⟨e1, e2⟩
    · rw [← e1, ← e2, hcomp i h.mem j hjt]; exact comp_self _ _ _
    · rw [← e1, ← e2, hcomp j hjt i h.mem]; exact comp_self _ _ _
  have hmore := forest_more hn hin2 hc
  have hlen : (allP F n n).length = (e :: (L1 ++ L2)).length := by rw [hL]; simp; omega
  rw [hlen, cn_roots, cn_bits hF (gl_sym hin2) hbits]
  exact hmore
/-- All have been reached and looked at: no edge leads round. -/
theorem Qu.all (h : Qu F n o t p k) (hn : n ≤ 16) (hF : Sym F n) (hI : Irr F n) (hk : k = (o ++ t).length) (hall : ∀ v, v < n → v ∈ o ++ t) : (allP F n n).length + (roots F n n).length = n := by
  rw [cn_roots]
  have htop := (h.gr.tops hF hn).1
  refine count_parents hF hI (fun a b => decide (p a = (b : Nat))) (fun a b ha hb => ?_) (fun a b ha hb hab => ?_) _ (fun a ha hr => ?_) (fun a ha hr b hb => ?_)
  · simp only [decide_eq_true_eq]
    constructor
    · intro hbit
      obtain ⟨m, hm, e⟩ := List.mem_iff_getElem.1 (hall a ha)
      exact (h.done m (by omega) a (by rw [List.getElem?_eq_getElem hm, e]) b hbit).2
    · rintro (e | e)
      · rcases h.gr.par a (hall a ha) with h1 | ⟨u, h1, h2, h3⟩
        · omega
        · have : u = b := by omega
          subst this
          exact hF.sym u a hb ha h3
      · rcases h.gr.par b (hall b hb) with h1 | ⟨u, h1, h2, h3⟩
        · omega
        · have : u = a := by omega
          subst this
          exact h3
  · simp only [decide_eq_true_eq] at hab
    simp only [decide_eq_false_iff_not]
    exact h.gr.once a b (hall a ha) (hall b hb) hab
  · rcases h.gr.par a (hall a ha) with h1 | ⟨u, h1, h2, h3⟩
    · rw [(htop a (hall a ha)).1 h1] at hr; cases hr
    · refine ⟨u, h.gr.lt u h1, fun b hb => ?_⟩
      simp only [decide_eq_true_eq]
      omega
  · have := (htop a (hall a ha)).2 hr
    simp only [decide_eq_false_iff_not]
    omega
end
end Go.Proofs.YtmcimfblhpflnaaDoor
