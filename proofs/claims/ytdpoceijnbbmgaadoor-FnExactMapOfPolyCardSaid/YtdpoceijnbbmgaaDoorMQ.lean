/-
Maps of sets, told by a function of the index: powers, polynomials of a map, by powers and by Horner's way. Plain arithmetic; nothing here speaks of the program.
-/
import Derived.Test.YtdpoceijnbbmgaaDoorEff
namespace Go.Proofs.YtdpoceijnbbmgaaDoor
theorem effN_congr {T U : Nat → Nat} (p : Nat) : ∀ k, (∀ i, i < k → T i = U i) → effN T p k = effN U p k
  | 0, _ => rfl
  | k + 1, h => by simp only [effN, effN_congr p k (fun i hi => h i (by omega)), h k (by omega)]
/-- Of a map m of n sets, the power k at the index j. -/
def pw (n : Nat) (M : Nat → Nat) : Nat → Nat → Nat
  | 0, j => 2 ^ j
  | k + 1, j => effN M (pw n M k j) n
theorem pw_lt {n : Nat} {M : Nat → Nat} (hM : ∀ j, j < n → M j < 2 ^ n) : ∀ k j, j < n → pw n M k j < 2 ^ n
  | 0, j, hj => Nat.pow_lt_pow_right (by decide) hj
  | k + 1, j, hj => effN_lt hM _ _ (Nat.le_refl _)
theorem pw_congr {n : Nat} {M M' : Nat → Nat} (h : ∀ j, j < n → M j = M' j) : ∀ k j, pw n M k j = pw n M' k j
  | 0, _ => rfl
  | k + 1, j => by simp only [pw, pw_congr h k j]; exact effN_congr _ _ h
/-- The polynomial p of a map, at the index j: the powers below K. -/
def pm (n : Nat) (M : Nat → Nat) (p K j : Nat) : Nat := effN (fun k => pw n M k j) p K
theorem pm_lt {n : Nat} {M : Nat → Nat} (hM : ∀ j, j < n → M j < 2 ^ n) (p j : Nat) (hj : j < n) : ∀ K, pm n M p K j < 2 ^ n
  | 0 => Nat.two_pow_pos n
  | K + 1 => by
    unfold pm
    simp only [effN]
    have ih := pm_lt hM p j hj K
    unfold pm at ih
    split
    · exact Nat.xor_lt_two_pow ih (pw_lt hM K j hj)
    · exact ih
theorem pm_more {n : Nat} {M : Nat → Nat} {p K : Nat} (j : Nat) (hp : p < 2 ^ K) : ∀ d, pm n M p (K + d) j = pm n M p K j
  | 0 => rfl
  | d + 1 => by
    have h : p.testBit (K + d) = false := Nat.testBit_lt_two_pow (Nat.lt_of_lt_of_le hp (Nat.pow_le_pow_right (by decide) (by omega)))
    have ih := pm_more (n := n) (M := M) j hp d
    unfold pm at ih ⊢
    rw [← Nat.add_assoc, effN, h]
    simpa using ih
/-- Horner's step. -/
theorem pm_step (n : Nat) (M : Nat → Nat) (j : Nat) : ∀ (K p : Nat), pm n M p (K + 1) j = effN M (pm n M (p >>> 1) K j) n ^^^ (if p.testBit 0 then 2 ^ j else 0)
  | 0, p => by
    simp only [pm, effN, effN_zero, pw]
    cases p.testBit 0 <;> simp
  | K + 1, p => by
    have ih := pm_step n M j K p
    have e : pm n M p (K + 1 + 1) j = (if p.testBit (K + 1) then pm n M p (K + 1) j ^^^ pw n M (K + 1) j else pm n M p (K + 1) j) := rfl
    have e2 : pm n M (p >>> 1) (K + 1) j = (if (p >>> 1).testBit K then pm n M (p >>> 1) K j ^^^ pw n M K j else pm n M (p >>> 1) K j) := rfl
    have hb : (p >>> 1).testBit K = p.testBit (K + 1) := by rw [Nat.testBit_shiftRight, Nat.add_comm]
    rw [e, e2, hb, ih]
    cases p.testBit (K + 1)
    · simp
    · simp only [if_true, effN_xor]
      rw [Nat.xor_assoc, Nat.xor_assoc]
      congr 1
      exact Nat.xor_comm _ _
/-- What Horner's way has behind the powers from k on. -/
def ho (n : Nat) (M : Nat → Nat) (p K k j : Nat) : Nat := pm n M (p >>> k) (K - k) j
theorem ho_step {n : Nat} {M : Nat → Nat} {p K k j : Nat} (hk : k < K) : ho n M p K k j = effN M (ho n M p K (k + 1) j) n ^^^ (if p.testBit k then 2 ^ j else 0) := by
  unfold ho
  obtain ⟨d, hd⟩ : ∃ d, K - k = d + 1 := ⟨K - k - 1, by omega⟩
  have hd2 : K - (k + 1) = d := by omega
  rw [hd, hd2, pm_step, ← Nat.shiftRight_add]
  congr 2
theorem ho_top (n : Nat) (M : Nat → Nat) (p K j : Nat) : ho n M p K K j = 0 := by simp [ho, pm, effN]
theorem ho_end (n : Nat) (M : Nat → Nat) (p K j : Nat) : ho n M p K 0 j = pm n M p K j := by simp [ho]
theorem ho_lt {n : Nat} {M : Nat → Nat} (hM : ∀ j, j < n → M j < 2 ^ n) (p K k j : Nat) (hj : j < n) : ho n M p K k j < 2 ^ n := pm_lt hM _ j hj _
/-- The polynomial x^m + 1 of a map. -/
theorem pm_circle (n : Nat) (M : Nat → Nat) {m : Nat} (hm : 1 ≤ m) (j : Nat) : pm n M (2 ^ m ^^^ 1) (m + 1) j = pw n M m j ^^^ 2 ^ j := by
  unfold pm
  rw [effN_xor, effN_bit, show (1 : Nat) = 2 ^ 0 from rfl, effN_bit, if_pos (by omega), if_pos (by omega)]
  rfl
end Go.Proofs.YtdpoceijnbbmgaaDoor
