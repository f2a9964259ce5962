/-
A map that keeps each part under its least button: what it holds key by key, while parts are joined in whatever order they come.
-/
import Derived.Test.YtmcimfblhpflnaaDoorPU
import Derived.Maps.Ext
import Derived.Maps.OwnSet
import Derived.Maps.RangeWalk
namespace Go.Proofs.YtmcimfblhpflnaaDoor
open Go.Maps Go.WideShapes
section
variable {H : Type} {F : Nat → Nat} {k n p : Nat} {D D0 : DataW H} {left : Lit → Bool} {J : Nat}
/-- The key of a part. -/
def ky (i : Nat) : Lit := .int .i64 (i : Int)
theorem ky_key (i : Nat) : WideAt.IsKeyLit (ky i) := trivial
theorem ky_ne {i j : Nat} (h : i ≠ j) : ky i ≠ ky j := by
  intro e; injection e with _ e; omega
theorem ky_inj {i j : Nat} (h : ky i = ky j) : i = j := by
  injection h with _ e; omega
def pt (p : Nat) : DataW H := .lit (.int .i64 (p : Int))
/-- D keeps the parts of the first k buttons. -/
structure PM (F : Nat → Nat) (k : Nat) (D : DataW H) : Prop where
  of : ∀ l, has D l = true → ∃ p, IsPart F k p ∧ l = ky (low p) ∧ ∀ zd, D.atKey l zd = pt p
  to : ∀ p, IsPart F k p → has D (ky (low p)) = true
theorem PM.at (h : PM F k D) (hk : k ≤ 16) (hp : IsPart F k p) (zd : DataW H) : D.atKey (ky (low p)) zd = pt p := by
  obtain ⟨q, hq, e, hat⟩ := h.of _ (h.to p hp)
  have := hp.of_low hq hk (ky_inj e)
  subst this
  exact hat zd
theorem pm_zero (F : Nat → Nat) : PM F 0 (.map [] : DataW H) := ⟨fun l h => by simp [has] at h, fun p hp => (no_part hp).elim⟩
/-- Some of the parts have come; those that k has neighbours in are struck and joined. -/
structure JN (F : Nat → Nat) (k : Nat) (D0 D : DataW H) (left : Lit → Bool) (J : Nat) : Prop where
  old : ∀ l, has D l = true → has D0 l = true ∧ ∀ zd, D.atKey l zd = D0.atKey l zd
  own : ∀ p, IsPart F k p → (has D (ky (low p)) = true ↔ left (ky (low p)) = true ∨ ¬ Meets F k p)
  bits : ∀ j, J.testBit j = true ↔ j = k ∨ ∃ p, IsPart F k p ∧ Meets F k p ∧ left (ky (low p)) = false ∧ p.testBit j = true
theorem jn_start (h : PM F k D0) : JN F k D0 D0 (has D0) (2 ^ k) := by
  refine ⟨fun l hl => ⟨hl, fun _ => rfl⟩, fun p hp => ?_, fun j => ?_⟩
  · rw [h.to p hp]; simp
  · rw [Nat.testBit_two_pow]
    simp only [decide_eq_true_eq]
    constructor
    · rintro rfl; exact .inl rfl
    · rintro (rfl | ⟨p, hp, _, hl, _⟩)
      · rfl
      · rw [h.to p hp] at hl; cases hl
theorem jn_lt (hk : k < 16) (h : JN F k D0 D left J) : J < 65536 := by
  have : J < 2 ^ 16 := Nat.lt_pow_two_of_testBit _ fun j hj => by
    cases hb : J.testBit j
    · rfl
    · rcases (h.bits j).1 hb with rfl | ⟨p, hp, _, _, hj'⟩
      · omega
      · have := hp.lt j hj'; omega
  exact this
/-- An entry that has come is a part. -/
theorem jn_entry (hk : k ≤ 16) (h0 : PM F k D0) (h : JN F k D0 D left J) {x c : Int} (hat : ∀ zd, D.atKey (.int .i64 x) zd = .lit (.int .i64 c)) : ∃ p, IsPart F k p ∧ x = (low p : Nat) ∧ c = (p : Nat) := by
  have h1 := has_true_of_atKey hat
  obtain ⟨h2, h3⟩ := h.old _ h1
  obtain ⟨p, hp, e, h4⟩ := h0.of _ h2
  refine ⟨p, hp, ?_, ?_⟩
  · injection e with _ e
  · have h5 := (hat .nil).symm.trans ((h3 .nil).trans (h4 .nil))
    simp only [pt, DataW.lit.injEq, Lit.int.injEq, true_and] at h5
    exact h5
theorem same_ky (i j : Nat) : (ky i).sameKey (ky j) = decide (i = j) := by
  simp only [ky, Lit.sameKey, true_and, decide_eq_decide]; omega
theorem jn_meet (hk : k ≤ 16) (h : JN F k D0 D left J) (hp : IsPart F k p) (hm : Meets F k p) : JN F k D0 (D.del (ky (low p))) (fun z => left z && !z.sameKey (ky (low p))) (J ||| p) := by
  refine ⟨fun l hl => ?_, fun q hq => ?_, fun j => ?_⟩
  · have hne : l ≠ ky (low p) := by rintro rfl; rw [has_del_same] at hl; cases hl
    rw [has_del_other hne] at hl
    exact ⟨(h.old l hl).1, fun zd => by rw [atKey_del_other hne, (h.old l hl).2]⟩
  · simp only [same_ky]
    by_cases e : low q = low p
    · have := hq.of_low hp hk e
      subst this
      rw [has_del_same]; simp [hm]
    · rw [has_del_other (ky_ne e), h.own q hq]; simp [e]
  · rw [Nat.testBit_or, Bool.or_eq_true, h.bits j]
    simp only [same_ky]
    constructor
    · rintro ((e | ⟨q, hq, hmq, hl, hj⟩) | hj)
      · exact .inl e
      · exact .inr ⟨q, hq, hmq, by simp [hl], hj⟩
      · exact .inr ⟨p, hp, hm, by simp, hj⟩
    · rintro (e | ⟨q, hq, hmq, hl, hj⟩)
      · exact .inl (.inl e)
      · by_cases e : low q = low p
        · have := hq.of_low hp hk e
          subst this
          exact .inr hj
        · exact .inl (.inr ⟨q, hq, hmq, by simpa [e] using hl, hj⟩)
theorem jn_miss (hk : k ≤ 16) (h : JN F k D0 D left J) (hp : IsPart F k p) (hm : ¬ Meets F k p) : JN F k D0 D (fun z => left z && !z.sameKey (ky (low p))) J := by
  refine ⟨h.old, fun q hq => ?_, fun j => ?_⟩
  · simp only [same_ky]
    by_cases e : low q = low p
    · have := hq.of_low hp hk e
      subst this
      have := (h.own q hq).2 (.inr hm)
      rw [this]; simp [hm]
    · rw [h.own q hq]; simp [e]
  · rw [h.bits j]
    simp only [same_ky]
    constructor
    · rintro (e | ⟨q, hq, hmq, hl, hj⟩)
      · exact .inl e
      · exact .inr ⟨q, hq, hmq, by simp [hl], hj⟩
    · rintro (e | ⟨q, hq, hmq, hl, hj⟩)
      · exact .inl e
      · have e : low q ≠ low p := by
          intro e
          have := hq.of_low hp hk e
          subst this
          exact hm hmq
        exact .inr ⟨q, hq, hmq, by simpa [e] using hl, hj⟩
theorem jn_joined (h : JN F k D0 D left J) (hl : ∀ z, left z = false) : Joined F k J := by
  intro j
  rw [h.bits j]
  constructor
  · rintro (e | ⟨p, hp, hm, _, hj⟩)
    · exact .inl e
    · exact .inr ⟨p, hp, hm, hj⟩
  · rintro (e | ⟨p, hp, hm, hj⟩)
    · exact .inl e
    · exact .inr ⟨p, hp, hm, hl _, hj⟩
/-- All have come: with the joined part the map keeps the parts of one button more. -/
theorem jn_end (hk : k < 16) (hF : Both F (k + 1)) (hc : Cov F k) (h0 : PM F k D0) (h : JN F k D0 D left J) (hl : ∀ z, left z = false) (hm : IsMap D) : PM F (k + 1) (D.put (ky (low J)) (pt J)) := by
  have hJ := jn_joined h hl
  constructor
  · intro l hl'
    by_cases e : l = ky (low J)
    · exact ⟨J, part_join hF hc hJ, e, fun zd => by rw [e, atKey_put_same hm (ky_key _)]⟩
    · rw [has_put_other e] at hl'
      obtain ⟨h1, h2⟩ := h.old l hl'
      obtain ⟨p, hp, rfl, h3⟩ := h0.of l h1
      have h4 := (h.own p hp).1 hl'
      rw [hl] at h4
      have hmt : ¬ Meets F k p := by simpa using h4
      exact ⟨p, part_stay hF hp hmt, rfl, fun zd => by rw [atKey_put_other e, h2, h3]⟩
  · intro q hq
    rcases part_split hF hc hJ hq with rfl | ⟨hq', hmq⟩
    · exact has_put_same hm (ky_key _) _
    · have hne := low_ne hF hc hJ hk hq' hmq
      rw [has_put_other (ky_ne hne)]
      exact (h.own q hq').2 (.inr hmq)
/-! ### how many there are, and which -/
def ents (F : Nat → Nat) (n : Nat) : List (Lit × DataW H) := (roots F n n).map fun i => (ky i, pt (comp F n i))
theorem ents_mem {l : Lit} {d : DataW H} : (l, d) ∈ (ents F n : List (Lit × DataW H)) ↔ ∃ i, i < n ∧ root F n i = true ∧ l = ky i ∧ d = pt (comp F n i) := by
  simp only [ents, List.mem_map, roots_mem, Prod.mk.injEq]
  constructor
  · rintro ⟨i, ⟨h1, h2⟩, rfl, rfl⟩; exact ⟨i, h1, h2, rfl, rfl⟩
  · rintro ⟨i, h1, h2, rfl, rfl⟩; exact ⟨i, ⟨h1, h2⟩, rfl, rfl⟩
theorem ents_rising (F : Nat → Nat) (n : Nat) : (ents F n : List (Lit × DataW H)).Pairwise (fun p q => p.1.before q.1 = true) := by
  unfold ents roots
  rw [List.pairwise_map]
  refine List.Pairwise.filter _ ?_
  refine (List.pairwise_lt_range).imp ?_
  intro a b hab
  simp only [ky, Lit.before, decide_eq_true_eq]
  omega
theorem pm_all (hF : Sym F n) (hn : n ≤ 16) (hc : Canon D) (h : PM F n D) : D = .map (ents F n) := by
  have hr := ents_rising (H := H) F n
  have hap := apart_of_rising hr
  refine Maps.ext hc ⟨_, rfl, hr, fun p hp => ?_⟩ (fun k => ?_) fun k z hk => ?_
  · obtain ⟨l, d⟩ := p
    obtain ⟨i, _, _, rfl, _⟩ := ents_mem.1 hp
    trivial
  · rw [Bool.eq_iff_iff]
    constructor
    · intro hk
      obtain ⟨p, hp, rfl, _⟩ := h.of k hk
      have hr := root_low hF hn hp
      have hm : (ky (low p), pt (comp F n (low p))) ∈ (ents F n : List (Lit × DataW H)) := ents_mem.2 ⟨low p, hp.low_lt hn, hr.1, rfl, rfl⟩
      exact has_true_of_atKey fun z => WideAt.atKey_mem z (ky_key _) hap hm
    · intro hk
      obtain ⟨q, hq, hs⟩ := List.any_eq_true.1 hk
      obtain ⟨l, d⟩ := q
      obtain ⟨i, hi, hri, rfl, _⟩ := ents_mem.1 hq
      have := WideAt.sameKey_eq hs
      subst this
      have hp := comp_part hF hi
      simp only [root, decide_eq_true_eq] at hri
      have := h.to _ hp
      rw [hri] at this
      exact this
  · obtain ⟨p, hp, rfl, hat⟩ := h.of k hk
    have hr := root_low hF hn hp
    have hm : (ky (low p), pt (comp F n (low p))) ∈ (ents F n : List (Lit × DataW H)) := ents_mem.2 ⟨low p, hp.low_lt hn, hr.1, rfl, rfl⟩
    rw [hat, WideAt.atKey_mem z (ky_key _) hap hm, hr.2]
theorem pm_size (hF : Sym F n) (hn : n ≤ 16) (hc : Canon D) (h : PM F n D) : size D = (roots F n n).length := by
  rw [pm_all hF hn hc h]
  simp [size, ents]
theorem pm_has (hF : Sym F n) (hn : n ≤ 16) (h : PM F n D) {i : Nat} (hi : i < n) : has D (ky i) = root F n i := by
  rw [Bool.eq_iff_iff]
  constructor
  · intro hk
    obtain ⟨p, hp, e, _⟩ := h.of _ hk
    rw [ky_inj e]
    exact (root_low hF hn hp).1
  · intro hr
    have := h.to _ (comp_part hF hi)
    simp only [root, decide_eq_true_eq] at hr
    rw [hr] at this
    exact this
theorem pm_at (hF : Sym F n) (hn : n ≤ 16) (h : PM F n D) {i : Nat} (hi : i < n) (hr : root F n i = true) (zd : DataW H) : D.atKey (ky i) zd = pt (comp F n i) := by
  have := h.at hn (comp_part hF hi) zd
  simp only [root, decide_eq_true_eq] at hr
  rwa [hr] at this
end
end Go.Proofs.YtmcimfblhpflnaaDoor
