/-
Sets told by their bits, and a board of lights as an array. Plain arithmetic; nothing here speaks of the program.
-/
import Derived.Test.YtibikoajejfdeaaDoorM
import Derived.WalkKit
import Derived.WalkSpells
namespace Go.Proofs.YtibikoajejfdeaaDoor
theorem bt_nat (s i : Nat) : bt (s : Int) i = s.testBit i := by
  rw [Nat.testBit_eq_decide_div_mod_eq]
  simp only [bt]
  rw [decide_eq_decide, ← pow_nat]
  omega
/-- The number whose bits below k are L. -/
def litN (L : Nat → Bool) : Nat → Nat
  | 0 => 0
  | k + 1 => if L k then litN L k ||| 2 ^ k else litN L k
theorem litN_bit (L : Nat → Bool) (k j : Nat) : (litN L k).testBit j = (decide (j < k) && L j) := by
  induction k with
  | zero => simp [litN]
  | succ k ih =>
    simp only [litN]
    by_cases hL : L k = true
    · rw [if_pos hL, Nat.testBit_or, ih, Nat.testBit_two_pow]
      by_cases hjk : j = k
      · subst hjk; simp [hL]
      · have h1 : ¬ k = j := fun e => hjk e.symm
        by_cases h2 : j < k
        · simp [h1, h2, show j < k + 1 by omega]
        · simp [h1, h2, show ¬ j < k + 1 by omega]
    · rw [if_neg hL, ih]
      by_cases hjk : j = k
      · subst hjk; simp [hL]
      · by_cases h2 : j < k
        · simp [h2, show j < k + 1 by omega]
        · simp [h2, show ¬ j < k + 1 by omega]
theorem litN_lt (L : Nat → Bool) (k : Nat) (hk : k ≤ 16) : litN L k < 65536 := by
  have : litN L k < 2 ^ 16 := Nat.lt_pow_two_of_testBit _ fun j hj => by
    rw [litN_bit]
    simp; omega
  exact this
theorem litN_eq (L : Nat → Bool) (s : Nat) (hs : s < 65536) (h : ∀ j, j < 16 → L j = s.testBit j) : litN L 16 = s := by
  apply Nat.eq_of_testBit_eq
  intro j
  rw [litN_bit]
  by_cases hj : j < 16
  · simp [hj, h j hj]
  · have : s.testBit j = false := Nat.testBit_lt_two_pow (Nat.lt_of_lt_of_le hs (show 65536 ≤ 2 ^ j from Nat.pow_le_pow_right (n := 2) (i := 16) (by decide) (by omega)))
    simp [hj, this]
theorem bit_above {s n j : Nat} (hs : s < 2 ^ n) (hj : n ≤ j) : s.testBit j = false :=
  Nat.testBit_lt_two_pow (Nat.lt_of_lt_of_le hs (Nat.pow_le_pow_right (by decide) hj))
/-- The cells of a board: the graph's two, then its sixteen lights. -/
def bd (near own : Value) (L : Nat → Bool) : Array Value := (near :: own :: (List.range 16).map (fun j => Value.bool (L j))).toArray
theorem bd_size (near own : Value) (L : Nat → Bool) : (bd near own L).size = 18 := by simp [bd]
theorem bd_0 (near own : Value) (L : Nat → Bool) : (bd near own L)[0]? = some near := rfl
theorem bd_1 (near own : Value) (L : Nat → Bool) : (bd near own L)[1]? = some own := rfl
theorem bd_get (near own : Value) (L : Nat → Bool) (j : Nat) (hj : j < 16) : (bd near own L)[2 + j]? = some (.bool (L j)) := by
  rw [show 2 + j = (j + 1) + 1 by omega]
  simp [bd, hj]
theorem bd_set (near own : Value) (L : Nat → Bool) (j : Nat) (b : Bool) : (bd near own L).setIfInBounds (2 + j) (.bool b) = bd near own (fun k => if k = j then b else L k) := by
  apply Array.ext_getElem?
  intro k
  rw [Array.getElem?_setIfInBounds]
  by_cases hk : 2 + j = k
  · subst hk
    by_cases hj : j < 16
    · rw [if_pos rfl, if_pos (by rw [bd_size]; omega), bd_get _ _ _ _ hj, if_pos rfl]
    · rw [if_pos rfl, if_neg (by rw [bd_size]; omega), Array.getElem?_eq_none (by rw [bd_size]; omega)]
  · rw [if_neg hk]
    by_cases h18 : k < 18
    · match k, h18 with
      | 0, _ => rfl
      | 1, _ => rfl
      | k + 2, h18 =>
        rw [show k + 2 = 2 + k by omega, bd_get _ _ _ _ (by omega), bd_get _ _ _ _ (by omega), if_neg (by omega)]
    · rw [Array.getElem?_eq_none (by rw [bd_size]; omega), Array.getElem?_eq_none (by rw [bd_size]; omega)]
theorem bd_one (near own : Value) (L : Nat → Bool) (h0 : near.oneCell' = true) (h1 : own.oneCell' = true) : (bd near own L).all (·.oneCell') = true := by
  simp [bd, h0, h1]
  intro k _; rfl
/-- The lights alone. -/
def ltL (L : Nat → Bool) : List Value := (List.range 16).map (fun j => Value.bool (L j))
theorem ltL_get (L : Nat → Bool) (j : Nat) (hj : j < 16) : (ltL L)[j]? = some (.bool (L j)) := by simp [ltL, hj]
end Go.Proofs.YtibikoajejfdeaaDoor
