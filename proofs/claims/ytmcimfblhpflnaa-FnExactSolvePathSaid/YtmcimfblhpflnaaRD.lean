import Derived.Test.YtmcimfblhpflnaaRC
namespace Go.Proofs.Ytmcimfblhpflnaa
open Go.RowKit
set_option maxHeartbeats 400000
/-- Rows and columns of a grid, at least l of each. -/
def sidesB (r c l : Int) : Bool := decide (l ≤ r ∧ r ≤ 16 ∧ l ≤ c ∧ c ≤ 16 ∧ r * c ≤ 16)
theorem isGrid_any (r c : Int) (w : World) : Calls Try.prog 47 #[.int .i64 r, .int .i64 c] w fun e w' => e = .returned (.bool (sidesB r c 1)) ∧ w' = w := by
  cases h1 : inB r 1 16
  · go_enter Try.func47, Try.ntmps47
    go_wp2_with (go_at_call 30; refine (isCount_any _ _).mono ?_; rintro e w' ⟨rfl, rfl⟩)
    go_ret
    have : sidesB r c 1 = false := by
      simp only [inB, decide_eq_false_iff_not] at h1
      simp only [sidesB, decide_eq_false_iff_not]
      exact fun h => h1 ⟨h.1, h.2.1⟩
    rw [this]; exact ⟨rfl, rfl⟩
  · cases h2 : inB c 1 16
    · go_enter Try.func47, Try.ntmps47
      go_wp2_with (go_at_call 30; refine (isCount_any _ _).mono ?_; rintro e w' ⟨rfl, rfl⟩)
      go_ret
      have : sidesB r c 1 = false := by
        simp only [inB, decide_eq_false_iff_not] at h2
        simp only [sidesB, decide_eq_false_iff_not]
        exact fun h => h2 ⟨h.2.2.1, h.2.2.2.1⟩
      rw [this]; exact ⟨rfl, rfl⟩
    · simp only [inB, decide_eq_true_eq] at h1 h2
      have hp : (1 : Int) ≤ r * c := by have := Int.mul_le_mul h1.1 h2.1 (by omega) (by omega); omega
      have hq : r * c ≤ 256 := by have := Int.mul_le_mul h1.2 h2.2 (by omega) (by omega); omega
      have H1 : inB r 1 16 = true := by simp [inB, h1]
      have H2 : inB c 1 16 = true := by simp [inB, h2]
      go_enter Try.func47, Try.ntmps47
      go_wp2_with (go_at_call 30; refine (isCount_any _ _).mono ?_; rintro e w' ⟨rfl, rfl⟩)
      go_ret
      refine ⟨?_, rfl⟩
      have : sidesB r c 1 = inB (r * c) 1 16 := by
        simp only [sidesB, inB, decide_eq_decide]
        omega
      rw [this]
      rfl
/-- Sides of a grid. -/
def Sides (R C : Nat) : Prop := 1 ≤ R ∧ R ≤ 16 ∧ 1 ≤ C ∧ C ≤ 16 ∧ R * C ≤ 16
theorem sides_nat {r c : Int} (h : sidesB r c 1 = true) : ∃ R C : Nat, r = R ∧ c = C ∧ Sides R C := by
  simp only [sidesB, decide_eq_true_eq] at h
  refine ⟨r.toNat, c.toNat, by omega, by omega, by omega, by omega, by omega, by omega, ?_⟩
  have h1 : ((r.toNat * c.toNat : Nat) : Int) = r * c := by rw [Int.natCast_mul, Int.toNat_of_nonneg (by omega), Int.toNat_of_nonneg (by omega)]
  omega
theorem Sides.yes {R C : Nat} (h : Sides R C) : sidesB R C 1 = true := by
  obtain ⟨h1, h2, h3, h4, h5⟩ := h
  simp only [sidesB, decide_eq_true_eq]
  have h6 : ((R * C : Nat) : Int) = (R : Int) * C := Int.natCast_mul _ _
  omega
theorem isOfGrid_no (r c l : Int) (own : Bool) (w : World) (h : sidesB r c 1 = false) : Calls Try.prog 43 #[.agg #[.int .i64 r, .int .i64 c, .bool own, .int .i64 l]] w fun e w' => e = .returned (.bool false) ∧ Below w.heap.size w w' := by
  go_enter Try.func43, Try.ntmps43
  go_wp2_with (first | (go_at_call 47; refine (isGrid_any _ _ _).mono ?_; rintro e w' ⟨rfl, rfl⟩))
  go_ret
  exact ⟨rfl, by go_grown⟩
theorem isOfGrid_ok (R C p : Nat) (l : Int) (own : Bool) (w : World) (hs : Sides R C) (hp : R * C = p) :
    Calls Try.prog 43 #[.agg #[.int .i64 R, .int .i64 C, .bool own, .int .i64 l]] w fun e w' => e = .returned (.bool (inB l 0 (2 ^ p - 1))) ∧ Below w.heap.size w w' := by
  have hy := hs.yes
  obtain ⟨h1, h2, h3, h4, h5⟩ := hs
  have hp16 : p ≤ 16 := by omega
  have hmul : (R : Int) * (C : Int) = (p : Int) := by rw [← hp]; exact (Int.natCast_mul R C).symm
  clear hp h5
  go_enter Try.func43, Try.ntmps43
  go_wp2_with (first | (go_at_call 47; refine (isGrid_any _ _ _).mono ?_; rintro e w' ⟨rfl, rfl⟩) | (go_at_call 48; refine (isSetOf_any p _ _ hp16).mono ?_; rintro e w' ⟨rfl, rfl⟩))
  go_ret
  exact ⟨rfl, by go_grown⟩
/-- A list that a call hands back is read at k. -/
theorem OL.read {w : World} {B n d : Nat} {A : Option Addr} {L : List Nat} (h : OL w B (.slice A n d) L) (hn : L.length = n) {k : Nat} (hk : k < n) :
    ∃ b, A = some ⟨b, 0, none⟩ ∧ B ≤ b ∧ b < w.heap.size ∧ n ≤ d ∧ d ≤ maxLen ∧ w.cell? ⟨b, k, none⟩ = some (lv L k) := by
  subst hn
  obtain ⟨h0, h | ⟨g, cap, cur, h1, h2, h3, h4, h5, h6, h7⟩⟩ := h
  · omega
  · injection h1 with a b e
    subst a e
    have hs := own_src (h := (by rw [← vl_row]; exact ⟨h0, .inr ⟨g, d, cur, rfl, h2, h3, h4, h5, h6, h7⟩⟩ : w.ownsRow B 3 1 (.slice (some ⟨g, 0, none⟩) L.length d) L.length (rowL L.length (lv L))))
    obtain ⟨b', off, e1, h8, h9⟩ := hs k hk
    injection e1 with e1; injection e1 with e1 e2
    subst e1 e2
    exact ⟨_, rfl, h2, h8, h4, h5, by simpa using h9⟩
end Go.Proofs.Ytmcimfblhpflnaa
