/-
Systems of equations over two elements in steps, and what a symmetric table of sets says of its diagonal: plain arithmetic; nothing here speaks of the program.
-/
import Derived.Test.YtibikoajejfdeaaQS
namespace Go.Proofs.Ytibikoajejfdeaa
/-- Is the number of common elements below k odd? -/
def dot : Nat → Nat → Nat → Bool
  | 0, _, _ => false
  | k + 1, x, y => dot k x y ^^ (x.testBit k && y.testBit k)
theorem dot_xor (k a b y : Nat) : dot k (a ^^^ b) y = (dot k a y ^^ dot k b y) := by
  induction k with
  | zero => rfl
  | succ k ih =>
    simp only [dot, ih, Nat.testBit_xor]
    cases dot k a y <;> cases dot k b y <;> cases a.testBit k <;> cases b.testBit k <;> cases y.testBit k <;> rfl
theorem dot_comm (k a b : Nat) : dot k a b = dot k b a := by
  induction k with
  | zero => rfl
  | succ k ih => simp only [dot, ih, Bool.and_comm]
theorem dot_zero (k y : Nat) : dot k 0 y = false := by
  induction k with
  | zero => rfl
  | succ k ih => simp [dot, ih]
theorem dot_pow (k i y : Nat) : dot k (2 ^ i) y = (decide (i < k) && y.testBit i) := by
  induction k with
  | zero => simp [dot]
  | succ k ih =>
    simp only [dot, ih, Nat.testBit_two_pow]
    by_cases h : i = k
    · subst h; simp
    · have e : (i < k + 1) ↔ i < k := by omega
      simp [h, e]
/-- An equation: the set of its buttons above, what it asks for below. -/
def eqn (u : Nat) (c : Bool) : Nat := 2 * u + c.toNat
theorem eqn_shr (u : Nat) (c : Bool) : eqn u c >>> 1 = u := by
  unfold eqn; rw [Nat.shiftRight_eq_div_pow]; cases c <;> simp <;> omega
theorem eqn_low (u : Nat) (c : Bool) : (eqn u c).testBit 0 = c := by
  unfold eqn; rw [Nat.testBit_zero]; cases c <;> simp <;> omega
theorem ext_eqn {a b : Nat} (h : a >>> 1 = b >>> 1) (h0 : a.testBit 0 = b.testBit 0) : a = b := by
  rw [Nat.shiftRight_eq_div_pow, Nat.shiftRight_eq_div_pow] at h
  rw [Nat.testBit_zero, Nat.testBit_zero] at h0
  have : (a % 2 = 1) ↔ (b % 2 = 1) := by
    constructor <;> intro g <;> simp [g] at h0 <;> omega
  omega
theorem eqn_self (a : Nat) : eqn (a >>> 1) (a.testBit 0) = a := ext_eqn (eqn_shr _ _) (eqn_low _ _)
theorem eqn_xor (u v : Nat) (c d : Bool) : eqn u c ^^^ eqn v d = eqn (u ^^^ v) (c ^^ d) := by
  apply ext_eqn
  · rw [Nat.shiftRight_xor_distrib, eqn_shr, eqn_shr, eqn_shr]
  · rw [Nat.testBit_xor, eqn_low, eqn_low, eqn_low]
/-- Does the set x keep off the equation? -/
def off (n a x : Nat) : Bool := dot n (a >>> 1) x ^^ a.testBit 0
theorem off_xor (n a b x : Nat) : off n (a ^^^ b) x = (off n a x ^^ off n b x) := by
  unfold off
  rw [Nat.shiftRight_xor_distrib, dot_xor, Nat.testBit_xor]
  cases dot n (a >>> 1) x <;> cases dot n (b >>> 1) x <;> cases a.testBit 0 <;> cases b.testBit 0 <;> rfl
theorem off_zero (n x : Nat) : off n 0 x = false := by unfold off; rw [Nat.zero_shiftRight, dot_zero]; rfl
theorem off_one (n x : Nat) : off n 1 x = true := by unfold off; rw [show (1 : Nat) >>> 1 = 0 from rfl, dot_zero]; rfl
theorem off_eqn (n u x : Nat) (c : Bool) : off n (eqn u c) x = (dot n u x ^^ c) := by unfold off; rw [eqn_shr, eqn_low]
theorem off_pow {n i x : Nat} (h : i < n) : off n (2 ^ (i + 1)) x = x.testBit i := by
  have e : 2 ^ (i + 1) = eqn (2 ^ i) false := by simp [eqn, Nat.pow_succ]; omega
  rw [e, off_eqn, dot_pow]; simp [h]
theorem stp_xor (x y b : Nat) : stp (x ^^^ y) b = stp x b ^^^ stp y b := by
  apply Nat.eq_of_testBit_eq
  intro j
  rw [Nat.testBit_xor, stp_bit, stp_bit, stp_bit, Nat.testBit_xor, Nat.testBit_xor]
  cases x.testBit j <;> cases y.testBit j <;> cases x.testBit b.log2 <;> cases y.testBit b.log2 <;> cases b.testBit j <;> rfl
theorem stp_or (s b : Nat) : stp s b = s ∨ stp s b = s ^^^ b := by
  unfold stp; split
  · exact .inr rfl
  · exact .inl rfl
theorem stp_none {s b : Nat} (h : s.testBit b.log2 = false) : stp s b = s := by unfold stp; simp [h]
theorem rd_nil (s : Nat) : rd [] s = s := rfl
theorem rd_cons (a : Nat) (A : List Nat) (s : Nat) : rd (a :: A) s = rd A (stp s a) := rfl
theorem rd_end (A : List Nat) (r s : Nat) : rd (A ++ [r]) s = stp (rd A s) r := by simp [rd, List.foldl_append]
theorem rd_xor (A : List Nat) : ∀ x y : Nat, rd A (x ^^^ y) = rd A x ^^^ rd A y := by
  induction A with
  | nil => intro x y; rfl
  | cons a A ih => intro x y; rw [rd_cons, rd_cons, rd_cons, stp_xor, ih]
theorem rd_zero (A : List Nat) : rd A 0 = 0 := by
  have := rd_xor A 0 0
  rw [Nat.xor_self, Nat.xor_self] at this
  exact this
theorem rd_bit {A : List Nat} {i : Nat} (h : ∀ a ∈ A, a.testBit i = false) : ∀ s, (rd A s).testBit i = s.testBit i := by
  induction A with
  | nil => intro s; rfl
  | cons a A ih =>
    intro s
    rw [rd_cons, ih (fun b hb => h b (by simp [hb])), stp_bit, h a (by simp)]
    simp
theorem rd_off {n x : Nat} {A : List Nat} (h : ∀ a ∈ A, off n a x = false) : ∀ s, off n (rd A s) x = off n s x := by
  induction A with
  | nil => intro s; rfl
  | cons a A ih =>
    intro s
    rw [rd_cons, ih (fun b hb => h b (by simp [hb]))]
    rcases stp_or s a with e | e
    · rw [e]
    · rw [e, off_xor, h a (by simp)]; simp
/-- In steps: no equation has no button, and a later one has no greatest button of an earlier one. -/
def Tri (A : List Nat) : Prop := (∀ a ∈ A, 2 ≤ a) ∧ A.Pairwise (fun a b => b.testBit a.log2 = false)
theorem Tri.nil : Tri [] := ⟨by simp, by simp⟩
theorem Tri.tail {a : Nat} {A : List Nat} (h : Tri (a :: A)) : Tri A := ⟨fun b hb => h.1 b (by simp [hb]), (List.pairwise_cons.1 h.2).2⟩
theorem rd_clean {A : List Nat} (h : Tri A) : ∀ s, ∀ a ∈ A, (rd A s).testBit a.log2 = false := by
  induction A with
  | nil => intro s a ha; simp at ha
  | cons a A ih =>
    intro s b hb
    rw [rd_cons]
    rcases List.mem_cons.1 hb with e | e
    · subst e
      rw [rd_bit (fun c hc => (List.pairwise_cons.1 h.2).1 c hc)]
      exact stp_top (by have := h.1 b (by simp); omega)
    · exact ih h.tail _ b e
theorem rd_mem {A : List Nat} (h : Tri A) : ∀ a ∈ A, rd A a = 0 := by
  induction A with
  | nil => intro a ha; simp at ha
  | cons b A ih =>
    intro a ha
    rw [rd_cons]
    rcases List.mem_cons.1 ha with e | e
    · subst e
      have e0 : stp a a = 0 := by
        unfold stp
        rw [bit_top (by have := h.1 a (by simp); omega)]
        simp
      rw [e0, rd_zero]
    · rw [stp_none ((List.pairwise_cons.1 h.2).1 a e)]
      exact ih h.tail a e
theorem Tri.snoc {A : List Nat} (h : Tri A) {r : Nat} (hr : 2 ≤ r) (hc : ∀ a ∈ A, r.testBit a.log2 = false) : Tri (A ++ [r]) := by
  refine ⟨fun a ha => ?_, ?_⟩
  · rcases List.mem_append.1 ha with e | e
    · exact h.1 a e
    · simp at e; omega
  · rw [List.pairwise_append]
    refine ⟨h.2, by simp, fun a ha b hb => ?_⟩
    simp at hb; subst hb
    exact hc a ha
theorem log2_pos_of {b : Nat} (h : 2 ≤ b) : 1 ≤ b.log2 := by
  rcases Nat.eq_zero_or_pos b.log2 with e | e
  · have := Nat.lt_log2_self (n := b); rw [e] at this; simp at this; omega
  · omega
theorem rd_one {A : List Nat} (h : Tri A) : rd A 1 = 1 := by
  induction A with
  | nil => rfl
  | cons a A ih =>
    rw [rd_cons, stp_none, ih h.tail]
    have := log2_pos_of (h.1 a (by simp))
    rw [show (1 : Nat) = 2 ^ 0 from rfl, Nat.testBit_two_pow]
    simp; omega
theorem rd_lt {A : List Nat} {n : Nat} (h : ∀ a ∈ A, a < 2 ^ n) : ∀ s, s < 2 ^ n → rd A s < 2 ^ n := by
  induction A with
  | nil => intro s hs; exact hs
  | cons a A ih => intro s hs; rw [rd_cons]; exact ih (fun b hb => h b (by simp [hb])) _ (stp_lt hs (h a (by simp)))
/-- One more equation, unless it says nothing new. -/
def putA (A : List Nat) (s : Nat) : List Nat := if rd A s < 2 then A else A ++ [rd A s]
theorem putA_tri {A : List Nat} (h : Tri A) (s : Nat) : Tri (putA A s) := by
  unfold putA; split
  · exact h
  · exact h.snoc (by omega) (rd_clean h s)
theorem putA_lt {A : List Nat} {n : Nat} (h : ∀ a ∈ A, a < 2 ^ n) {s : Nat} (hs : s < 2 ^ n) : ∀ a ∈ putA A s, a < 2 ^ n := by
  unfold putA; split
  · exact h
  · intro a ha
    rcases List.mem_append.1 ha with e | e
    · exact h a e
    · simp at e; subst e; exact rd_lt h s hs
theorem putA_sub (A : List Nat) (s : Nat) : ∀ a ∈ A, a ∈ putA A s := by
  intro a ha; unfold putA; split
  · exact ha
  · simp [ha]
def Sol (n : Nat) (A : List Nat) (x : Nat) : Prop := ∀ a ∈ A, off n a x = false
theorem Sol.put {n x : Nat} {A : List Nat} (h : Sol n A x) {s : Nat} (hs : off n s x = false) : Sol n (putA A s) x := by
  unfold putA; split
  · exact h
  · intro a ha
    rcases List.mem_append.1 ha with e | e
    · exact h a e
    · simp at e; subst e; rw [rd_off h]; exact hs
theorem Sol.of_put {n x : Nat} {A : List Nat} {s : Nat} (h : Sol n (putA A s) x) (h1 : rd A s ≠ 1) : Sol n A x ∧ off n s x = false := by
  have hA : Sol n A x := fun a ha => h a (putA_sub A s a ha)
  refine ⟨hA, ?_⟩
  rw [← rd_off hA]
  unfold putA at h
  split at h
  · have : rd A s = 0 := by omega
    rw [this]; exact off_zero n x
  · exact h _ (by simp)
/-- The buttons from the greatest one down, each left out if it can be: j of them. -/
def finA (n : Nat) (A : List Nat) : Nat → List Nat
  | 0 => A
  | j + 1 => putA (finA n A j) (2 ^ (n - j))
theorem finA_tri {n : Nat} {A : List Nat} (h : Tri A) : ∀ j, Tri (finA n A j)
  | 0 => h
  | j + 1 => putA_tri (finA_tri h j) _
theorem finA_lt {n : Nat} {A : List Nat} (h : ∀ a ∈ A, a < 2 ^ (n + 1)) : ∀ j, ∀ a ∈ finA n A j, a < 2 ^ (n + 1)
  | 0 => h
  | j + 1 => putA_lt (finA_lt h j) (Nat.pow_lt_pow_right (by decide) (by omega))
theorem finA_sub {n : Nat} {A : List Nat} {j : Nat} : ∀ {k : Nat}, j ≤ k → ∀ a ∈ finA n A j, a ∈ finA n A k
  | 0, h, a, ha => by have : j = 0 := by omega
                      subst this; exact ha
  | k + 1, h, a, ha => by
    by_cases e : j = k + 1
    · subst e; exact ha
    · exact putA_sub _ _ a (finA_sub (k := k) (by omega) a ha)
theorem stp_small {s b : Nat} (hs : s < 2) (hb : 2 ≤ b) : stp s b = s := by
  apply stp_none
  have h1 := log2_pos_of hb
  exact Nat.testBit_lt_two_pow (Nat.lt_of_lt_of_le hs (Nat.pow_le_pow_right (n := 2) (i := 1) (by decide) h1))
theorem small_put {A : List Nat} {z s : Nat} (h : rd A z < 2) : rd (putA A s) z < 2 := by
  unfold putA; split
  · exact h
  · rw [rd_end, stp_small h (by omega)]; exact h
theorem finA_small {n : Nat} {A : List Nat} {j : Nat} : ∀ k, j < k → rd (finA n A k) (2 ^ (n - j)) < 2
  | 0, h => by omega
  | k + 1, h => by
    by_cases e : j = k
    · subst e
      show rd (putA (finA n A j) (2 ^ (n - j))) (2 ^ (n - j)) < 2
      unfold putA; split
      · assumption
      · rename_i hge
        rw [rd_end]
        have e0 : stp (rd (finA n A j) (2 ^ (n - j))) (rd (finA n A j) (2 ^ (n - j))) = 0 := by
          unfold stp
          rw [bit_top (by omega)]
          simp
        rw [e0]; omega
    · exact small_put (finA_small k (by omega))
/-- The set that a full system tells: the buttons that can't be left out. -/
def setA (B : List Nat) : Nat → Nat
  | 0 => 0
  | i + 1 => if rd B (2 ^ (i + 1)) = 1 then setA B i ||| 2 ^ i else setA B i
theorem setA_lt (B : List Nat) : ∀ i, setA B i < 2 ^ i
  | 0 => by simp [setA]
  | i + 1 => by
    have h := setA_lt B i
    have h2 : 2 ^ i < 2 ^ (i + 1) := Nat.pow_lt_pow_right (by decide) (by omega)
    unfold setA; split
    · exact Nat.or_lt_two_pow (by omega) h2
    · omega
theorem setA_bit (B : List Nat) (j : Nat) : ∀ i, (setA B i).testBit j = (decide (j < i) && decide (rd B (2 ^ (j + 1)) = 1))
  | 0 => by simp [setA]
  | i + 1 => by
    unfold setA
    have ih := setA_bit B j i
    by_cases e : j = i
    · subst e
      split
      · rename_i h; simp [h]
      · rename_i h; simp [h, ih]
    · have e2 : (j < i + 1) ↔ j < i := by omega
      split
      · rw [Nat.testBit_or, ih, Nat.testBit_two_pow]; simp [e2, show ¬ i = j by omega]
      · rw [ih]; simp [e2]
theorem full_off {n : Nat} {B : List Nat} (hB : Tri B) (hs : ∀ i, i < n → rd B (2 ^ (i + 1)) < 2) : ∀ k, k ≤ n → ∀ s, s < 2 ^ (k + 1) → rd B s = (off n s (setA B n)).toNat
  | 0, _, s, h => by
    have : s = 0 ∨ s = 1 := by simp at h; omega
    rcases this with e | e <;> subst e
    · rw [rd_zero, off_zero]; rfl
    · rw [rd_one hB, off_one]; rfl
  | k + 1, hk, s, h => by
    have hp : rd B (2 ^ (k + 1)) = (off n (2 ^ (k + 1)) (setA B n)).toNat := by
      rw [off_pow (by omega), setA_bit]
      have := hs k (by omega)
      by_cases e : rd B (2 ^ (k + 1)) = 1
      · simp [e, show k < n by omega]
      · have : rd B (2 ^ (k + 1)) = 0 := by omega
        simp [this]
    cases hb : s.testBit (k + 1) with
    | false =>
      refine full_off hB hs k (by omega) s ?_
      apply Nat.lt_pow_two_of_testBit
      intro j hj
      by_cases e : j = k + 1
      · subst e; exact hb
      · exact Nat.testBit_lt_two_pow (Nat.lt_of_lt_of_le h (Nat.pow_le_pow_right (by decide) (by omega)))
    | true =>
      have hl : s ^^^ 2 ^ (k + 1) < 2 ^ (k + 1) := by
        apply Nat.lt_pow_two_of_testBit
        intro j hj
        rw [Nat.testBit_xor, Nat.testBit_two_pow]
        by_cases e : j = k + 1
        · subst e; simp [hb]
        · rw [Nat.testBit_lt_two_pow (Nat.lt_of_lt_of_le h (Nat.pow_le_pow_right (by decide) (by omega)))]
          simp; omega
      have ih := full_off hB hs k (by omega) _ hl
      have e : s = (s ^^^ 2 ^ (k + 1)) ^^^ 2 ^ (k + 1) := (xx s _).symm
      generalize s ^^^ 2 ^ (k + 1) = u at e ih
      subst e
      rw [rd_xor, ih, hp, off_xor]
      cases off n u (setA B n) <;> cases off n (2 ^ (k + 1)) (setA B n) <;> rfl
theorem full_sol {n : Nat} {B : List Nat} (hB : Tri B) (hs : ∀ i, i < n → rd B (2 ^ (i + 1)) < 2) (hl : ∀ a ∈ B, a < 2 ^ (n + 1)) : Sol n B (setA B n) := by
  intro a ha
  have h := full_off hB hs n (Nat.le_refl _) a (hl a ha)
  rw [rd_mem hB a ha] at h
  cases ho : off n a (setA B n) with
  | false => rfl
  | true => rw [ho] at h; cases h
theorem fin_small {n : Nat} {A : List Nat} : ∀ i, i < n → rd (finA n A n) (2 ^ (i + 1)) < 2 := fun i hi => by
  have := finA_small (n := n) (A := A) (j := n - 1 - i) n (by omega)
  rwa [show n - (n - 1 - i) = i + 1 by omega] at this
/-- What the full system tells is the least solution. -/
theorem fin_least {n : Nat} {A : List Nat} (hA : Tri A) (hl : ∀ a ∈ A, a < 2 ^ (n + 1)) :
    Sol n A (setA (finA n A n) n) ∧ ∀ y, y < 2 ^ n → Sol n A y → setA (finA n A n) n ≤ y := by
  have hx := full_sol (finA_tri hA n) (fin_small (n := n) (A := A)) (finA_lt hl n)
  have hxl := setA_lt (finA n A n) n
  generalize hX : setA (finA n A n) n = x at hx hxl ⊢
  refine ⟨fun a ha => hx a (finA_sub (j := 0) (Nat.zero_le n) a ha), fun y hy hsy => ?_⟩
  by_cases hne : x = y
  · omega
  have hq : x ^^^ y ≠ 0 := fun e => hne (by have := xx x y; rw [e, Nat.zero_xor] at this; exact this.symm)
  generalize ht : (x ^^^ y).log2 = t
  have htop : (x ^^^ y).testBit t = true := by rw [← ht]; exact bit_top hq
  have hhi : ∀ j, t < j → x.testBit j = y.testBit j := fun j hj => by
    have := bit_hi (s := x ^^^ y) (i := j) (by omega)
    rw [Nat.testBit_xor] at this
    cases h1 : x.testBit j <;> cases h2 : y.testBit j <;> simp [h1, h2] at this <;> rfl
  have htn : t < n := by
    rcases Nat.lt_or_ge t n with h | h
    · exact h
    · rw [Nat.testBit_lt_two_pow (Nat.lt_of_lt_of_le (Nat.xor_lt_two_pow hxl hy) (Nat.pow_le_pow_right (by decide) h))] at htop
      cases htop
  have hS : ∀ j, j ≤ n - 1 - t → Sol n (finA n A j) y := by
    intro j
    induction j with
    | zero => intro _; exact hsy
    | succ j ih =>
      intro hj
      have hSj := ih (by omega)
      show Sol n (putA (finA n A j) (2 ^ (n - j))) y
      by_cases hr : rd (finA n A j) (2 ^ (n - j)) < 2
      · unfold putA; rw [if_pos hr]; exact hSj
      · apply hSj.put
        have e : n - j = (n - j - 1) + 1 := by omega
        have hmem : rd (finA n A j) (2 ^ (n - j)) ∈ finA n A n := by
          apply finA_sub (j := j + 1) (by omega)
          show _ ∈ putA (finA n A j) (2 ^ (n - j))
          unfold putA; rw [if_neg hr]; simp
        have h1 := hx _ hmem
        rw [rd_off (fun a ha => hx a (finA_sub (by omega) a ha)), e, off_pow (by omega)] at h1
        rw [e, off_pow (by omega), ← hhi _ (by omega)]
        exact h1
  have hSj := hS _ (Nat.le_refl _)
  have hXj : Sol n (finA n A (n - 1 - t)) x := fun a ha => hx a (finA_sub (by omega) a ha)
  have e : n - (n - 1 - t) = t + 1 := by omega
  have h1 := rd_off hSj (2 ^ (t + 1))
  have h2 := rd_off hXj (2 ^ (t + 1))
  rw [off_pow htn] at h1 h2
  rw [Nat.testBit_xor] at htop
  have hbits : x.testBit t = false ∧ y.testBit t = true := by
    by_cases hr : rd (finA n A (n - 1 - t)) (2 ^ (t + 1)) < 2
    · exfalso
      have : x.testBit t = y.testBit t := by
        rw [← h1, ← h2]
        have : rd (finA n A (n - 1 - t)) (2 ^ (t + 1)) = 0 ∨ rd (finA n A (n - 1 - t)) (2 ^ (t + 1)) = 1 := by omega
        rcases this with g | g <;> rw [g]
        · rw [off_zero, off_zero]
        · rw [off_one, off_one]
      rw [this] at htop
      simp at htop
    · have hmem : rd (finA n A (n - 1 - t)) (2 ^ (t + 1)) ∈ finA n A n := by
        apply finA_sub (j := n - 1 - t + 1) (by omega)
        show _ ∈ putA (finA n A (n - 1 - t)) (2 ^ (n - (n - 1 - t)))
        rw [e]
        unfold putA; rw [if_neg hr]; simp
      have h3 := hx _ hmem
      rw [h2] at h3
      rw [h3] at htop
      exact ⟨h3, by simpa using htop⟩
  exact Nat.le_of_lt (lt_of_bit t hbits.1 hbits.2 hhi)
end Go.Proofs.Ytibikoajejfdeaa
