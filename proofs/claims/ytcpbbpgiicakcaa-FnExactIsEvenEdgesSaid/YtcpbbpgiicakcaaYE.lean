/-
IsEvenEdges: both models find the same, and no list of more than 200 is good.
-/
import Derived.Test.YtcpbbpgiicakcaaYD
import Derived.Test.YtcpbbpgiicakcaaMB
namespace Go.Proofs.Ytcpbbpgiicakcaa
open Go.RowKit
set_option maxHeartbeats 1000000
theorem popN_high (k : Nat) : ∀ x, popN (k + 1) x = popN k x + (x.testBit k).toNat := by
  induction k with
  | zero => intro x; simp only [popN, Nat.testBit_zero, Nat.add_zero, Nat.zero_add]; have : x % 2 = 0 ∨ x % 2 = 1 := by omega
            rcases this with e | e <;> simp [e]
  | succ k ih =>
    intro x
    rw [popN, ih (x / 2)]
    have : (x / 2).testBit k = x.testBit (k + 1) := by rw [Nat.testBit_succ]
    rw [this, popN]
    omega
theorem pop_zero (k : Nat) : popN k 0 = 0 := by
  induction k with
  | zero => rfl
  | succ k ih => simp [popN, ih]
theorem pop_le (k x : Nat) : popN k x ≤ k := by
  induction k generalizing x with
  | zero => simp [popN]
  | succ k ih => have := ih (x / 2); simp only [popN]; omega
theorem two_bit (j a : Nat) : (2 ^ j).testBit a = decide (j = a) := Nat.testBit_two_pow
theorem lk_bit (i j : Nat) (F : Nat → Nat) (a b : Nat) : (lk i j F a).testBit b = ((F a).testBit b || decide (a = i ∧ b = j) || decide (a = j ∧ b = i)) := by
  unfold lk
  by_cases h1 : a = j
  · by_cases h2 : j = i
    · rw [if_pos h1, if_pos h2, Nat.testBit_or, Nat.testBit_or, two_bit, two_bit]
      cases (F a).testBit b
      · rw [Bool.eq_iff_iff]; simp only [Bool.false_or, Bool.or_eq_true, decide_eq_true_eq]; omega
      · simp
    · rw [if_pos h1, if_neg h2, Nat.testBit_or, two_bit]
      cases (F a).testBit b
      · rw [Bool.eq_iff_iff]; simp only [Bool.false_or, Bool.or_eq_true, decide_eq_true_eq]; omega
      · simp
  · by_cases h2 : a = i
    · rw [if_neg h1, if_pos h2, Nat.testBit_or, two_bit]
      cases (F a).testBit b
      · rw [Bool.eq_iff_iff]; simp only [Bool.false_or, Bool.or_eq_true, decide_eq_true_eq]; omega
      · simp
    · rw [if_neg h1, if_neg h2]
      cases (F a).testBit b
      · simp [h1, h2]
      · simp
theorem par_step (P a i j : Nat) (hij : i < j) : decide ((P + (if a = i then 1 else 0) + (if a = j then 1 else 0)) % 2 = 1) = (decide (P % 2 = 1) ^^ (decide (i = a) || decide (j = a))) := by
  by_cases hi : a = i
  · have e1 : decide (i = a) = true := by simp [hi]
    rw [if_pos hi, if_neg (by omega), e1]
    rcases Nat.mod_two_eq_zero_or_one P with h | h
    · have e : (P + 1 + 0) % 2 = 1 := by omega
      rw [e, h]; rfl
    · have e : (P + 1 + 0) % 2 = 0 := by omega
      rw [e, h]; rfl
  · have e1 : decide (i = a) = false := by simp; omega
    by_cases hj : a = j
    · have e2 : decide (j = a) = true := by simp [hj]
      rw [if_neg hi, if_pos hj, e1, e2]
      rcases Nat.mod_two_eq_zero_or_one P with h | h
      · have e : (P + 0 + 1) % 2 = 1 := by omega
        rw [e, h]; rfl
      · have e : (P + 0 + 1) % 2 = 0 := by omega
        rw [e, h]; rfl
    · have e2 : decide (j = a) = false := by simp; omega
      rw [if_neg hi, if_neg hj, e1, e2, Nat.add_zero]
      simp
/-- Who is told a neighbour of whom. -/
theorem tl_bit (R : Nat → Nat → Int) (a b : Nat) : ∀ m, (tl R m a).testBit b = true ↔ ∃ p, p < m ∧ ((a = (R p 0).toNat ∧ b = (R p 1).toNat) ∨ (a = (R p 1).toNat ∧ b = (R p 0).toNat))
  | 0 => by simp [tl]
  | m + 1 => by
    rw [tl, lk_bit]
    simp only [Bool.or_eq_true, decide_eq_true_eq, tl_bit R a b m]
    constructor
    · rintro ((⟨p, hp, h⟩ | h) | h)
      · exact ⟨p, by omega, h⟩
      · exact ⟨m, by omega, .inl h⟩
      · exact ⟨m, by omega, .inr h⟩
    · rintro ⟨p, hp, h⟩
      by_cases hpm : p = m
      · subst hpm
        rcases h with h | h
        · exact .inl (.inr h)
        · exact .inr h
      · exact .inl (.inl ⟨p, by omega, h⟩)
theorem pop_or_new (k j x : Nat) (hj : j < k) (h : x.testBit j = false) : popN k (x ||| 2 ^ j) = popN k x + 1 := by
  induction k with
  | zero => omega
  | succ k ih =>
    rw [popN_high, popN_high, Nat.testBit_or, two_bit]
    by_cases hk : j = k
    · subst hk
      have : ∀ q, q ≤ j → popN q (x ||| 2 ^ j) = popN q x := by
        intro q hq
        induction q with
        | zero => rfl
        | succ q ihq =>
          rw [popN_high, popN_high, ihq (by omega), Nat.testBit_or, two_bit]
          simp [show ¬ j = q by omega]
      rw [this j (Nat.le_refl _)]
      simp [h]
    · rw [ih (by omega)]
      simp [hk]
      omega
theorem pop_lk {i j : Nat} {F : Nat → Nat} (hij : i < j) (hj : j < 16) (h1 : (F i).testBit j = false) (h2 : (F j).testBit i = false) (a : Nat) :
    popN 16 (lk i j F a) = popN 16 (F a) + (if a = i then 1 else 0) + (if a = j then 1 else 0) := by
  unfold lk
  by_cases ha : a = j
  · subst ha
    simp [show ¬ a = i by omega, pop_or_new 16 i (F a) (by omega) h2]
  · by_cases hb : a = i
    · subst hb
      simp [ha, pop_or_new 16 j (F a) hj h1]
    · simp [ha, hb]
theorem fresh_parts {n : Nat} {F : Nat → Nat} {ln : Nat → Nat} {R : Nat → Nat → Int} {k : Nat} (h : fresh n F ln R k = true) :
    ordB n (ln k) (nv F) (R k) = true ∧ (tl R k (R k 0).toNat).testBit (R k 1).toNat = false ∧ (tl R k (R k 1).toNat).testBit (R k 0).toNat = false := by
  simp only [fresh, Bool.and_eq_true, Bool.not_eq_true', nv, bt_nat] at h
  refine ⟨h.1, h.2, ?_⟩
  cases hb : (tl R k (R k 1).toNat).testBit (R k 0).toNat
  · rfl
  · have := (tl_bit R _ _ k).1 hb
    obtain ⟨p, hp, hh⟩ := this
    have h3 := (tl_bit R (R k 0).toNat (R k 1).toNat k).2 ⟨p, hp, hh.elim (fun h => .inr ⟨h.2, h.1⟩) (fun h => .inl ⟨h.2, h.1⟩)⟩
    rw [h3] at h
    simp at h
theorem okT_okS (n : Nat) (F : Nat → Nat) (ln : Nat → Nat) (R : Nat → Nat → Int) (m : Nat) : okT n F ln R m ↔ okS n F ln R m := by
  constructor
  · intro h k hk
    obtain ⟨h1, h2, _⟩ := fresh_parts (h k hk)
    refine ⟨h1, fun p hp hh => ?_⟩
    have := (tl_bit R (R k 0).toNat (R k 1).toNat k).2 ⟨p, hp, .inl ⟨by rw [hh.1], by rw [hh.2]⟩⟩
    rw [this] at h2
    cases h2
  · intro h k hk
    obtain ⟨h1, h2⟩ := h k hk
    obtain ⟨_, i, j, hij, hj, e0, e1, _⟩ := ord_ok h1
    have h3 : (tl R k (R k 0).toNat).testBit (R k 1).toNat = false := by
      cases hb : (tl R k (R k 0).toNat).testBit (R k 1).toNat
      · rfl
      · obtain ⟨p, hp, hh⟩ := (tl_bit R _ _ k).1 hb
        obtain ⟨_, i', j', hij', hj', f0, f1, _⟩ := ord_ok (h p (by omega)).1
        rw [e0, e1, f0, f1] at hh
        simp only [Int.toNat_natCast] at hh
        exact absurd ⟨by rw [e0, f0]; omega, by rw [e1, f1]; omega⟩ (h2 p hp)
    simp [fresh, h1, nv, bt_nat, h3]
/-- The parity of the degrees is that of the ends. -/
theorem tl_par {n : Nat} {F : Nat → Nat} {ln : Nat → Nat} {R : Nat → Nat → Int} (hn : n ≤ 16) (a m : Nat) (h : okT n F ln R m) : decide (popN 16 (tl R m a) % 2 = 1) = (paX R m).testBit a := by
  induction m with
  | zero =>
    have e1 : tl R 0 a = 0 := rfl
    have e2 : paX R 0 = 0 := rfl
    rw [e1, e2, pop_zero, Nat.zero_testBit]
    simp
  | succ m ih =>
    have ih := ih fun j hj => h j (by omega)
    obtain ⟨h1, h2, h3⟩ := fresh_parts (h m (by omega))
    obtain ⟨_, i, j, hij, hj, e0, e1, _⟩ := ord_ok h1
    rw [e0, e1] at h2 h3
    simp only [Int.toNat_natCast] at h2 h3
    have e2 : tl R (m + 1) = lk i j (tl R m) := by rw [tl, e0, e1]; rfl
    have e3 : paX R (m + 1) = paX R m ^^^ (2 ^ i ||| 2 ^ j) := by rw [paX, e0, e1]; rfl
    have e4 := pop_lk hij (by omega) h2 h3 a
    rw [e2, e3, e4, Nat.testBit_xor, Nat.testBit_or, two_bit, two_bit, ← ih]
    generalize popN 16 (tl R m a) = P
    exact par_step P a i j hij
theorem odd_paX {n : Nat} {F : Nat → Nat} {ln : Nat → Nat} {R : Nat → Nat → Int} (hn : n ≤ 16) (m : Nat) (h : okT n F ln R m) : oddN (tl R m) n = paX R m := by
  apply Nat.eq_of_testBit_eq
  intro a
  rw [oddN_bit, tl_par hn a m h]
  by_cases ha : a < n
  · simp [ha]
  · have : (paX R m).testBit a = false := by
      rw [← tl_par hn a m h]
      have hz : tl R m a = 0 := by
        apply Nat.eq_of_testBit_eq
        intro b
        rw [Nat.zero_testBit]
        cases hb : (tl R m a).testBit b
        · rfl
        · obtain ⟨p, hp, hh⟩ := (tl_bit R a b m).1 hb
          obtain ⟨_, i, j, hij, hj, e0, e1, _⟩ := ord_ok (fresh_parts (h p hp)).1
          rw [e0, e1] at hh
          simp only [Int.toNat_natCast] at hh
          omega
      rw [hz, pop_zero]; rfl
    simp [this]
def sumF (f : Nat → Nat) : Nat → Nat
  | 0 => 0
  | k + 1 => sumF f k + f k
theorem sumF_add (f g : Nat → Nat) : ∀ k, sumF (fun a => f a + g a) k = sumF f k + sumF g k
  | 0 => rfl
  | k + 1 => by simp only [sumF, sumF_add f g k]; omega
theorem sumF_one (i : Nat) : ∀ k, sumF (fun a => if a = i then 1 else 0) k = if i < k then 1 else 0
  | 0 => rfl
  | k + 1 => by
    simp only [sumF, sumF_one i k]
    by_cases h1 : i < k
    · simp [h1, show i < k + 1 by omega, show ¬ k = i by omega]
    · by_cases h2 : k = i
      · simp [h2]
      · simp [h1, h2, show ¬ i < k + 1 by omega]
theorem sumF_le (f : Nat → Nat) (b : Nat) (h : ∀ a, f a ≤ b) : ∀ k, sumF f k ≤ k * b
  | 0 => by simp [sumF]
  | k + 1 => by
    have := sumF_le f b h k
    have := h k
    simp only [sumF, Nat.succ_mul]
    omega
theorem sum_tl {n : Nat} {F : Nat → Nat} {ln : Nat → Nat} {R : Nat → Nat → Int} (hn : n ≤ 16) : ∀ m, okT n F ln R m → sumF (fun a => popN 16 (tl R m a)) 16 = 2 * m
  | 0, _ => by simp [tl, pop_zero, sumF]
  | m + 1, h => by
    have ih := sum_tl hn m fun j hj => h j (by omega)
    obtain ⟨h1, h2, h3⟩ := fresh_parts (h m (by omega))
    obtain ⟨_, i, j, hij, hj, e0, e1, _⟩ := ord_ok h1
    rw [e0, e1] at h2 h3
    simp only [Int.toNat_natCast] at h2 h3
    have he : (fun a => popN 16 (tl R (m + 1) a)) = fun a => (popN 16 (tl R m a) + (if a = i then 1 else 0)) + (if a = j then 1 else 0) := by
      funext a
      rw [tl, e0, e1]
      simp only [Int.toNat_natCast]
      exact pop_lk hij (by omega) h2 h3 a
    rw [he, sumF_add (fun a => popN 16 (tl R m a) + (if a = i then 1 else 0)), sumF_add (fun a => popN 16 (tl R m a)), ih, sumF_one, sumF_one]
    simp [show i < 16 by omega, show j < 16 by omega]
    omega
/-- No good list is longer than 200. -/
theorem okT_short {n : Nat} {F : Nat → Nat} {ln : Nat → Nat} {R : Nat → Nat → Int} (hn : n ≤ 16) (m : Nat) (h : okT n F ln R m) : m ≤ 200 := by
  have h1 := sum_tl hn m h
  have h2 := sumF_le (fun a => popN 16 (tl R m a)) 16 (fun a => pop_le 16 _) 16
  omega
end Go.Proofs.Ytcpbbpgiicakcaa
