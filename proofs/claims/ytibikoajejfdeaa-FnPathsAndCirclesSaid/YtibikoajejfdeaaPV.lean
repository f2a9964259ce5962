/-
Nullities of paths and circles by elimination, of grids of one row or column by common divisors: the numbers, one by one. Nothing here speaks of the program.
-/
import Derived.Test.YtibikoajejfdeaaNU
import Derived.Test.YtibikoajejfdeaaCG
import Derived.Test.YtibikoajejfdeaaGG
import Derived.Test.YtibikoajejfdeaaLN
namespace Go.Proofs.Ytibikoajejfdeaa
/-- Is F a graph of n buttons? -/
def goodC (n : Nat) (F : Nat → Nat) : Bool := (List.range n).all fun i => decide (F i < 2 ^ n) && (List.range n).all fun j => !(F i).testBit j || (decide (i ≠ j) && (F j).testBit i)
theorem bt_natp (s i : Nat) : bt (s : Int) i = s.testBit i := by
  rw [Nat.testBit_eq_decide_div_mod_eq]
  simp only [bt]
  rw [decide_eq_decide, ← pow_nat]
  omega
theorem goodC_lt {n : Nat} {F : Nat → Nat} (h : goodC n F = true) : ∀ k, k < n → F k < 2 ^ n := fun k hk => by
  have := List.all_eq_true.1 h k (List.mem_range.2 hk)
  rw [Bool.and_eq_true, decide_eq_true_eq] at this
  exact this.1
theorem goodC_good {n : Nat} {F : Nat → Nat} (h1 : 1 ≤ n) (h16 : n ≤ 16) (h : goodC n F = true) : goodB n (nv F) = true := by
  refine goodB_yes ⟨h1, h16, fun k hk => ?_, fun i hi j hj hb => ?_⟩
  · have := goodC_lt h k hk
    have e := pow_nat n
    simp only [nv]
    omega
  · have := List.all_eq_true.1 h i (List.mem_range.2 hi)
    rw [Bool.and_eq_true] at this
    have h2 := List.all_eq_true.1 this.2 j (List.mem_range.2 hj)
    simp only [nv, bt_natp] at hb ⊢
    rw [hb] at h2
    simpa using h2
/-- What is told of a path. -/
def pnN (n : Nat) (own : Bool) : Nat := if own then n % 3 / 2 else n % 2
def cnN (n : Nat) (own : Bool) : Nat := if own then (if n % 3 = 0 then 2 else 0) else 2 - n % 2
def ringF (n : Nat) : Nat → Nat := lk 0 (n - 1) (pathF (n - 1))
theorem paths_good : ((List.range 16).all fun k => goodC (k + 1) (pathF k)) = true := by kernel_rfl
theorem rings_good : ((List.range 14).all fun k => goodC (k + 3) (ringF (k + 3))) = true := by kernel_rfl
def nuC (n : Nat) (F : Nat → Nat) (own : Bool) (v : Nat) : Bool := (qS (tog F own) n n).1.length == v
theorem paths_nu : ((List.range 16).all fun k => nuC (k + 1) (pathF k) true (pnN (k + 1) true) && nuC (k + 1) (pathF k) false (pnN (k + 1) false)) = true := by kernel_rfl
theorem rings_nu : ((List.range 14).all fun k => nuC (k + 3) (ringF (k + 3)) true (cnN (k + 3) true) && nuC (k + 3) (ringF (k + 3)) false (cnN (k + 3) false)) = true := by kernel_rfl
/-- The nullity of a grid by Fibonacci's polynomials of its rows and columns. -/
def gnF (f1 f2 : Nat) (own : Bool) : Nat := bl (gcf (if own then hs f1 (bl f1) 0 else f1) f2 (if own then hs f1 (bl f1) 0 else f1)) - 1
def gnC : Nat → Nat → Nat → Nat → Bool
  | 0, _, _, _ => true
  | k + 1, n, a, b => (gnF b 2 true == pnN n true && gnF 2 b true == pnN n true && gnF b 2 false == pnN n false && gnF 2 b false == pnN n false) && gnC k (n + 1) b (b * 2 ^^^ a)
theorem gn_F (r c : Nat) (own : Bool) : T.gn r c own = gnF (fi (r + 1)) (fi (c + 1)) own := rfl
theorem gnC_all : ∀ (k n : Nat), gnC k n (fi n) (fi (n + 1)) = true → ∀ m, n ≤ m → m < n + k → ∀ own, T.gn m 1 own = pnN m own ∧ T.gn 1 m own = pnN m own
  | 0, n, _, m, h1, h2, _ => absurd h2 (by omega)
  | k + 1, n, h, m, h1, h2, own => by
    rw [gnC] at h
    simp only [Bool.and_eq_true, beq_iff_eq] at h
    obtain ⟨⟨⟨⟨a1, a2⟩, a3⟩, a4⟩, hr⟩ := h
    by_cases e : m = n
    · subst e
      rw [gn_F, gn_F]
      have e2 : fi (1 + 1) = 2 := rfl
      rw [e2]
      cases own
      · exact ⟨a3, a4⟩
      · exact ⟨a1, a2⟩
    · exact gnC_all k (n + 1) hr m (by omega) (by omega) own
theorem grids_all : gnC 40 1 1 2 = true := by kernel_rfl
theorem grids_line {m : Nat} (h1 : 1 ≤ m) (h2 : m ≤ 40) (own : Bool) : T.gn m 1 own = pnN m own ∧ T.gn 1 m own = pnN m own := gnC_all 40 1 grids_all m h1 (by omega) own
theorem path_facts {n : Nat} (h1 : 1 ≤ n) (h2 : n ≤ 16) : goodC n (pathF (n - 1)) = true ∧ ∀ own, (qS (tog (pathF (n - 1)) own) n n).1.length = pnN n own := by
  obtain ⟨k, rfl⟩ : ∃ k, n = k + 1 := ⟨n - 1, by omega⟩
  have hk := List.mem_range.2 (show k < 16 by omega)
  refine ⟨List.all_eq_true.1 paths_good k hk, fun own => ?_⟩
  have h := List.all_eq_true.1 paths_nu k hk
  simp only [nuC, Bool.and_eq_true, beq_iff_eq] at h
  cases own
  · exact h.2
  · exact h.1
theorem ring_facts {n : Nat} (h1 : 3 ≤ n) (h2 : n ≤ 16) : goodC n (ringF n) = true ∧ ∀ own, (qS (tog (ringF n) own) n n).1.length = cnN n own := by
  obtain ⟨k, rfl⟩ : ∃ k, n = k + 3 := ⟨n - 3, by omega⟩
  have hk := List.mem_range.2 (show k < 14 by omega)
  refine ⟨List.all_eq_true.1 rings_good k hk, fun own => ?_⟩
  have h := List.all_eq_true.1 rings_nu k hk
  simp only [nuC, Bool.and_eq_true, beq_iff_eq] at h
  cases own
  · exact h.2
  · exact h.1
end Go.Proofs.Ytibikoajejfdeaa
