/-
Nullities of grids by divisors: both sides, and the statement of GridNullity, walked.
-/
import Derived.Test.YtibikoajejfdeaaTQ
namespace Go.Proofs.Ytibikoajejfdeaa.T
open Go.RowKit
set_option maxHeartbeats 1000000
theorem hs_lt (p : Nat) : ∀ k o m, o < 2 ^ m → hs p k o < 2 ^ (m + k)
  | 0, _, _, h => h
  | k + 1, o, m, h => by
    rw [hs, show m + (k + 1) = (m + 1) + k by omega]
    refine hs_lt p k _ (m + 1) (Nat.xor_lt_two_pow (Nat.xor_lt_two_pow ?_ ?_) ?_)
    · exact Nat.lt_of_lt_of_le h (Nat.pow_le_pow_right (by decide) (by omega))
    · rw [Nat.pow_succ]; omega
    · split
      · exact Nat.lt_of_lt_of_le (by decide : 1 < 2 ^ 1) (Nat.pow_le_pow_right (by decide) (by omega))
      · exact Nat.two_pow_pos _
theorem hs41 {p : Nat} (hp : p < 2199023255552) : hs p (bl p) 0 < 2199023255552 := by
  have h := hs_lt p (bl p) 0 0 (by decide)
  have hb : bl p ≤ 41 := bl_le.2 hp
  exact Nat.lt_of_lt_of_le h (Nat.pow_le_pow_right (n := 2) (j := 41) (by decide) (by omega))
theorem gcf_ne : ∀ (n p q : Nat), p ≠ 0 → gcf n p q ≠ 0
  | 0, _, _, h => h
  | n + 1, p, q, h => by
    by_cases h0 : q = 0
    · subst h0; rw [gcf_zero]; exact h
    · rw [gcf_step h0]; exact gcf_ne n q _ h0
theorem fi_top : ∀ n, (fi (n + 1)).testBit n = true
  | 0 => rfl
  | n + 1 => by
    have h1 := fi_lt n
    have h2 : (fi n).testBit (n + 1) = false := Nat.testBit_lt_two_pow (Nat.lt_of_lt_of_le h1 (Nat.pow_le_pow_right (by decide) (by omega)))
    have h3 : (fi (n + 1) * 2).testBit (n + 1) = (fi (n + 1)).testBit n := by rw [Nat.testBit_succ]; congr 1; omega
    rw [fi_two, Nat.testBit_xor, h2, h3, fi_top n]; rfl
theorem fi_ne (n : Nat) : fi (n + 1) ≠ 0 := fun h => by
  have := fi_top n
  rw [h, Nat.zero_testBit] at this
  cases this
theorem fi41 {n : Nat} (h : n ≤ 41) : fi n < 2199023255552 := Nat.lt_of_lt_of_le (fi_lt n) (Nat.pow_le_pow_right (n := 2) (j := 41) (by decide) h)
/-- The second polynomial, with x + 1 for x if own is true. -/
def gq (r : Nat) (own : Bool) : Nat := if own then hs (fi (r + 1)) (bl (fi (r + 1))) 0 else fi (r + 1)
theorem gq_lt {r : Nat} (h : r ≤ 40) (own : Bool) : gq r own < 2199023255552 := by
  unfold gq
  split
  · exact hs41 (fi41 (by omega))
  · exact fi41 (by omega)
/-- The nullity of a grid of r rows and c columns. -/
def gn (r c : Nat) (own : Bool) : Nat := bl (gcf (gq r own) (fi (c + 1)) (gq r own)) - 1
theorem gn_eq (r c : Nat) (own : Bool) : ((bl (gcf (gq r own) (fi (c + 1)) (gq r own)) : Nat) : Int) - 1 = (gn r c own : Nat) := by
  have h := gcf_ne (gq r own) (fi (c + 1)) (gq r own) (fi_ne c)
  have h2 : bl (gcf (gq r own) (fi (c + 1)) (gq r own)) ≠ 0 := fun e => h (bl_eq_zero.1 e)
  unfold gn
  omega
theorem isSide_any (l n : Int) (w : World) : Calls Try.prog 22 #[.int .i64 l, .int .i64 n] w fun e w' => e = .returned (.bool (inB n l 40)) ∧ w' = w := by
  by_cases h1 : l ≤ n
  · by_cases h2 : n ≤ 40
    · have h : inB n l 40 = true := by simp only [inB, decide_eq_true_eq]; exact ⟨h1, h2⟩
      rw [h]
      go_enter Try.func22, Try.ntmps22
      go_wp2
      go_ret
      exact ⟨rfl, rfl⟩
    · have h : inB n l 40 = false := by simp only [inB, decide_eq_false_iff_not]; exact fun h => h2 h.2
      rw [h]
      go_enter Try.func22, Try.ntmps22
      go_wp2
      go_ret
      exact ⟨rfl, rfl⟩
  · have h : inB n l 40 = false := by simp only [inB, decide_eq_false_iff_not]; exact fun h => h1 h.1
    rw [h]
    go_enter Try.func22, Try.ntmps22
    go_wp2
    go_ret
    exact ⟨rfl, rfl⟩
theorem in_nat {n : Int} (h : inB n 1 40 = true) : ∃ k : Nat, n = k ∧ 1 ≤ k ∧ k ≤ 40 := by
  simp only [inB, decide_eq_true_eq] at h
  exact ⟨n.toNat, by omega, by omega, by omega⟩
theorem in41 {p : Nat} (h : p < 2199023255552) : inB p 0 2199023255551 = true := by simp only [inB, decide_eq_true_eq]; omega
theorem gnImpl_ok (r c : Nat) (own : Bool) (w : World) (hr : r ≤ 40) (hc : c ≤ 40) (HA : Hid (inB r 1 40 = true)) (HB : Hid (inB c 1 40 = true)) :
    Calls Try.prog 14 #[.int .i64 r, .int .i64 c, .bool own] w fun e w' => e = .returned (.tuple #[.int .i64 (gn r c own : Nat), .bool true]) ∧ Below w.heap.size w w' := by
  obtain ⟨r1, hr1⟩ : ∃ r1, r + 1 = r1 := ⟨_, rfl⟩
  obtain ⟨c1, hc1⟩ : ∃ c1, c + 1 = c1 := ⟨_, rfl⟩
  have e1 : ((r : Int) + 1) = (r1 : Int) := by omega
  have e2 : ((c : Int) + 1) = (c1 : Int) := by omega
  have hq := gq_lt hr own
  have hf := fi41 (n := c + 1) (by omega)
  have hf2 := fi41 (n := r + 1) (by omega)
  have hG : gcf (gq r own) (fi (c + 1)) (gq r own) < 4398046511104 := gcf_lt (by omega) (by omega)
  rw [← gn_eq]
  have hgq : gq r own = if own then hs (fi r1) (bl (fi r1)) 0 else fi r1 := by rw [← hr1]; rfl
  rw [hc1] at hf hG ⊢
  rw [hr1] at hf2
  have hr1' : r1 ≤ 41 := by omega
  have hc1' : c1 ≤ 41 := by omega
  obtain ⟨P, hP⟩ : ∃ P, fi c1 = P := ⟨_, rfl⟩
  obtain ⟨R, hR⟩ : ∃ R, fi r1 = R := ⟨_, rfl⟩
  rw [hR] at hgq
  obtain ⟨Q, hQ⟩ : ∃ Q, gq r own = Q := ⟨_, rfl⟩
  rw [hP] at hf hG ⊢
  rw [hQ] at hq hG ⊢
  rw [hR] at hf2
  have HP := hide hP
  have HR := hide hR
  cases own
  · have HQ : Hid (R = Q) := hide (by rw [← hQ, hgq]; rfl)
    clear hP hR hQ hgq hr1 hc1
    go_enter Try.func14, Try.ntmps14
    go_wp2_with fail
    refine (isSide_any _ _ _).mono ?_
    rintro e w' ⟨rfl, hw⟩
    subst w'
    rw [HA.out]
    go_wp2_with fail
    refine (isSide_any _ _ _).mono ?_
    rintro e w' ⟨rfl, hw⟩
    subst w'
    rw [HB.out]
    go_wp2_with fail
    try simp only [e2]
    refine (fbImpl_ok c1 c _ (by omega) hc1').mono ?_
    rintro e w2 ⟨rfl, hb2⟩
    rw [HP.out]
    go_wp2_with fail
    try simp only [e1]
    refine (fbImpl_ok r1 r _ (by omega) hr1').mono ?_
    rintro e w3 ⟨rfl, hb3⟩
    rw [HR.out]
    have HB3 := hide (hb2.trans (hb3.mono hb2.size))
    clear hb2 hb3
    have HB4 := HB3
    rw [HQ.out]
    go_wp2_with fail
    refine (gcImpl_ok P Q _ (by omega) (by omega) (hide (in41 (by omega))) (hide (in41 (by omega)))).mono ?_
    rintro e w' ⟨rfl, hw⟩
    subst w'
    go_wp2_with fail
    refine (degree_any _ _ (by omega)).mono ?_
    rintro e w' ⟨rfl, hw⟩
    subst w'
    go_wp2
    go_ret2
    exact ⟨rfl, HB4.out⟩
  · have HQ : Hid (hs R (bl R) 0 = Q) := hide (by rw [← hQ, hgq]; rfl)
    clear hP hR hQ hgq hr1 hc1
    go_enter Try.func14, Try.ntmps14
    go_wp2_with fail
    refine (isSide_any _ _ _).mono ?_
    rintro e w' ⟨rfl, hw⟩
    subst w'
    rw [HA.out]
    go_wp2_with fail
    refine (isSide_any _ _ _).mono ?_
    rintro e w' ⟨rfl, hw⟩
    subst w'
    rw [HB.out]
    go_wp2_with fail
    try simp only [e2]
    refine (fbImpl_ok c1 c _ (by omega) hc1').mono ?_
    rintro e w2 ⟨rfl, hb2⟩
    rw [HP.out]
    go_wp2_with fail
    try simp only [e1]
    refine (fbImpl_ok r1 r _ (by omega) hr1').mono ?_
    rintro e w3 ⟨rfl, hb3⟩
    rw [HR.out]
    have HB3 := hide (hb2.trans (hb3.mono hb2.size))
    clear hb2 hb3
    go_wp2_with fail
    refine (shImpl_ok R _ (by omega) (hide (in41 (by omega)))).mono ?_
    rintro e w4 ⟨rfl, hb4⟩
    rw [HQ.out]
    have HB4 := hide (HB3.out.trans (hb4.mono HB3.out.size))
    clear hb4
    go_wp2_with fail
    refine (gcImpl_ok P Q _ (by omega) (by omega) (hide (in41 (by omega))) (hide (in41 (by omega)))).mono ?_
    rintro e w' ⟨rfl, hw⟩
    subst w'
    go_wp2_with fail
    refine (degree_any _ _ (by omega)).mono ?_
    rintro e w' ⟨rfl, hw⟩
    subst w'
    go_wp2
    go_ret2
    exact ⟨rfl, HB4.out⟩
theorem gnImpl_a (r c : Int) (own : Bool) (w : World) (HA : Hid (inB r 1 40 = false)) :
    Calls Try.prog 14 #[.int .i64 r, .int .i64 c, .bool own] w fun e w' => e = .returned (.tuple #[.int .i64 0, .bool false]) ∧ Below w.heap.size w w' := by
  go_enter Try.func14, Try.ntmps14
  go_wp2_with fail
  refine (isSide_any _ _ _).mono ?_
  rintro e w' ⟨rfl, hw⟩
  subst w'
  rw [HA.out]
  go_wp2
  go_ret2
  exact ⟨rfl, Below.refl _ _⟩
theorem gnImpl_b (r c : Int) (own : Bool) (w : World) (HA : Hid (inB r 1 40 = true)) (HB : Hid (inB c 1 40 = false)) :
    Calls Try.prog 14 #[.int .i64 r, .int .i64 c, .bool own] w fun e w' => e = .returned (.tuple #[.int .i64 0, .bool false]) ∧ Below w.heap.size w w' := by
  go_enter Try.func14, Try.ntmps14
  go_wp2_with fail
  refine (isSide_any _ _ _).mono ?_
  rintro e w' ⟨rfl, hw⟩
  subst w'
  rw [HA.out]
  go_wp2_with fail
  refine (isSide_any _ _ _).mono ?_
  rintro e w' ⟨rfl, hw⟩
  subst w'
  rw [HB.out]
  go_wp2
  go_ret2
  exact ⟨rfl, Below.refl _ _⟩
end Go.Proofs.Ytibikoajejfdeaa.T
