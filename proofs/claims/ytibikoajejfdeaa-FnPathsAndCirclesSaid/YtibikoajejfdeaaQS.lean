import Derived.Test.YtibikoajejfdeaaSB
import Derived.Test.YtibikoajejfdeaaEff
namespace Go.Proofs.Ytibikoajejfdeaa
open Go.RowKit
/-- The basis of the first k effects. -/
def iS (T : Nat → Nat) : Nat → List Nat
  | 0 => []
  | k + 1 => add (iS T k) (T k)
theorem iS_bas (T : Nat → Nat) : ∀ k, Bas (iS T k)
  | 0 => Bas.nil
  | k + 1 => add_bas (iS_bas T k) _
theorem iS_lt {T : Nat → Nat} {n : Nat} (hT : ∀ i, i < n → T i < 2 ^ n) : ∀ k, k ≤ n → ∀ b ∈ iS T k, b < 2 ^ n
  | 0, _ => by simp [iS]
  | k + 1, h => add_lt (iS_lt hT k (by omega)) (hT k (by omega))
theorem pow40 {n : Nat} (h : n ≤ 40) : (2 : Nat) ^ n ≤ 1099511627776 := Nat.pow_le_pow_right (n := 2) (j := 40) (by decide) h
theorem iS_fit {T : Nat → Nat} {n : Nat} (hn : n ≤ 16) (hT : ∀ i, i < n → T i < 2 ^ n) {k : Nat} (hk : k ≤ n) : M40 (iS T k) ∧ (iS T k).length ≤ 16 := by
  have h := iS_lt hT k hk
  refine ⟨fun b hb => Nat.lt_of_lt_of_le (h b hb) (pow40 (by omega)), ?_⟩
  have := bas_length (iS_bas T k) h
  omega
theorem pow16n {n : Nat} (h : n ≤ 16) : (2 : Nat) ^ n ≤ 65536 := Nat.pow_le_pow_right (n := 2) (j := 16) (by decide) h
/-- A button with its effect above. -/
def sv (T : Nat → Nat) (n j : Nat) : Nat := T j <<< n ||| 2 ^ j
def qS (T : Nat → Nat) (n : Nat) : Nat → List Nat × List Nat
  | 0 => ([], [])
  | k + 1 => qstep n (qS T n k) (sv T n k)
def pS (T : Nat → Nat) (n : Nat) : Nat → List Nat
  | 0 => []
  | k + 1 => add (pS T n k) (sv T n k)
theorem sv_shr {T : Nat → Nat} {n k : Nat} (hk : k < n) : sv T n k >>> n = T k := by
  rw [sv, Nat.shiftRight_or_distrib, Nat.shiftLeft_shiftRight, shr_eq_zero.2 (Nat.pow_lt_pow_right (by decide) hk), Nat.or_zero]
theorem sv_lt {T : Nat → Nat} {n k : Nat} (hk : k < n) (hT : T k < 2 ^ n) : sv T n k < 2 ^ (n + n) := by
  apply Nat.or_lt_two_pow
  · rw [Nat.shiftLeft_eq, Nat.pow_add]
    exact Nat.mul_lt_mul_of_pos_right hT (Nat.two_pow_pos n)
  · exact Nat.pow_lt_pow_right (by decide) (by omega)
theorem inv_at (T : Nat → Nat) (n : Nat) : ∀ k, k ≤ n → Inv n (pS T n k) (iS T k) (qS T n k).1 (qS T n k).2
  | 0, _ => Inv.start n
  | k + 1, h => by
    have := (inv_at T n k (by omega)).step (sv T n k)
    rw [sv_shr (by omega)] at this
    exact this
theorem qS_lt {T : Nat → Nat} {n : Nat} (hT : ∀ i, i < n → T i < 2 ^ n) : ∀ k, k ≤ n → (∀ b ∈ (qS T n k).1, b < 2 ^ (n + n)) ∧ (∀ b ∈ (qS T n k).2, b < 2 ^ (n + n))
  | 0, _ => by simp [qS]
  | k + 1, h => by
    obtain ⟨h1, h2⟩ := qS_lt hT k (by omega)
    have hs := sv_lt (T := T) (n := n) (k := k) (by omega) (hT k (by omega))
    simp only [qS, qstep]
    split
    · exact ⟨add_lt h1 (lin_lt h2 hs), h2⟩
    · exact ⟨h1, add_lt h2 (lin_lt h2 hs)⟩
theorem pS_lt {T : Nat → Nat} {n : Nat} (hT : ∀ i, i < n → T i < 2 ^ n) : ∀ k, k ≤ n → ∀ b ∈ pS T n k, b < 2 ^ (n + n)
  | 0, _ => by simp [pS]
  | k + 1, h => add_lt (pS_lt hT k (by omega)) (sv_lt (by omega) (hT k (by omega)))
theorem fit_of {L : List Nat} {n : Nat} (hn : n ≤ 16) (hB : Bas L) (h : ∀ b ∈ L, b < 2 ^ (n + n)) : M40 L ∧ L.length ≤ 64 := by
  refine ⟨fun b hb => Nat.lt_of_lt_of_le (h b hb) (pow40 (by omega)), ?_⟩
  have := bas_length hB h
  omega
theorem or_shl (x n j : Nat) (hx : x < 65536) (hn : n ≤ 16) (hj : j < 16) : bits .or .i64 (RowKit.wrap64 ((x : Int) * 2 ^ n)) (RowKit.wrap64 (2 ^ j)) = ((x <<< n ||| 2 ^ j : Nat) : Int) := by
  have h1 := pow16n hn
  have h2 : x * 2 ^ n ≤ 65536 * 65536 := Nat.mul_le_mul (by omega) h1
  have h3 := pow_lt16 hj
  have e : RowKit.wrap64 ((x : Int) * 2 ^ n) = ((x * 2 ^ n : Nat) : Int) := by
    rw [Int.natCast_mul, pow_nat, IntWalk.wrap64_in _ (by rw [← pow_nat, ← Int.natCast_mul]; generalize x * 2 ^ n = z at h2; omega)]
  rw [e, wrap_pow hj, ← pow_nat, i64_or_nat _ _ (by omega) (by omega), Nat.shiftLeft_eq]
theorem or_shl' (x n j : Nat) (hx : x < 65536) (hn : n ≤ 16) (hj : j < 16) : bits .or .i64 (IntKind.i64.wrap ((x : Int) * 2 ^ n)) (IntKind.i64.wrap (2 ^ j)) = ((x <<< n ||| 2 ^ j : Nat) : Int) := by
  have h1 := pow16n hn
  have h2 : x * 2 ^ n ≤ 65536 * 65536 := Nat.mul_le_mul (by omega) h1
  have h3 := pow_lt16 hj
  have e : IntKind.i64.wrap ((x : Int) * 2 ^ n) = ((x * 2 ^ n : Nat) : Int) := by
    rw [Int.natCast_mul, pow_nat, IntWalk.i64_in _ (by rw [← pow_nat, ← Int.natCast_mul]; generalize x * 2 ^ n = z at h2; omega)]
  have e2 : IntKind.i64.wrap (2 ^ j) = ((2 ^ j : Nat) : Int) := by
    rw [← pow_nat]; generalize 2 ^ j = z at h3; exact IntWalk.i64_in _ (by omega)
  rw [e, e2, i64_or_nat _ _ (by omega) (by omega), Nat.shiftLeft_eq]
theorem shr_nat (x n : Nat) : (x : Int) / 2 ^ n = ((x >>> n : Nat) : Int) := by
  rw [Nat.shiftRight_eq_div_pow, Int.natCast_ediv, pow_nat]

/-- Does a set of presses solve s, and which one? -/
def solB (T : Nat → Nat) (n s : Nat) : Bool := decide (lin (pS T n n) (s <<< n) >>> n = 0)
def solV (T : Nat → Nat) (n s : Nat) : Nat := if lin (pS T n n) (s <<< n) >>> n = 0 then lin (pS T n n) (s <<< n) else 0
theorem shl_lt {s n : Nat} (h : s < 2 ^ n) : s <<< n < 2 ^ (n + n) := by
  rw [Nat.shiftLeft_eq, Nat.pow_add]
  exact Nat.mul_lt_mul_of_pos_right h (Nat.two_pow_pos n)
theorem shl_wrap (x n : Nat) (hx : x < 65536) (hn : n ≤ 16) : RowKit.wrap64 ((x : Int) * 2 ^ n) = ((x <<< n : Nat) : Int) := by
  have h1 := pow16n hn
  have h2 : x * 2 ^ n ≤ 65536 * 65536 := Nat.mul_le_mul (by omega) h1
  rw [Nat.shiftLeft_eq, Int.natCast_mul, pow_nat, IntWalk.wrap64_in _ (by rw [← pow_nat, ← Int.natCast_mul]; generalize x * 2 ^ n = z at h2; omega)]
theorem shl_bare (x n : Nat) : ((x : Int) * 2 ^ n) = ((x <<< n : Nat) : Int) := by rw [Nat.shiftLeft_eq, Int.natCast_mul, pow_nat]
theorem solB_iff (T : Nat → Nat) (n s : Nat) : solB T n s = decide (lin (iS T n) s = 0) := by
  have h := (inv_at T n n (by omega)).tops (s <<< n)
  rw [solB, h.2, Nat.shiftLeft_shiftRight]
end Go.Proofs.Ytibikoajejfdeaa
