import Derived.Test.YtcpbbpgiicakcaaWJ
import Derived.Deep.RegionLawGrows
import Derived.Deep.RegionHeld3
namespace Go.Proofs.Ytcpbbpgiicakcaa
open Go.RowKit
set_option maxHeartbeats 2000000
/-- One equation is put to the system. -/
theorem put_any (Bs : Nat) (A1 A2 : Option Addr) (n c1 c2 : Nat) (A : List Nat) (s rw wt : Nat) (w : World) (hT : Tri A) (hA : ∀ a ∈ A, a < 131072) (hs : s < 131072) (hlen : n ≤ 64)
    (hsys : Sys w Bs A1 A2 n c1 c2 A) (hr : s >>> 1 = rw) (ht : s % 2 = wt) :
    Calls Try.prog 85 #[.pointer (some ⟨Bs, 0, none⟩), .int .i64 rw, .int .i64 wt] w fun e w' => e = .returned (.bool (decide (rd A s ≠ 1))) ∧ (∃ A1' A2' n' c1' c2', Sys w' Bs A1' A2' n' c1' c2' (putA A s)) ∧ Below Bs w w' := by
  have hA2 : ∀ a ∈ A, 2 ≤ a ∧ a < 131072 := fun a ha => ⟨hT.1 a ha, hA a ha⟩
  by_cases hl : rd A s < 2
  · refine (put_read Bs 0 A1 A2 n c1 c2 A s rw wt w hA2 hs hlen hsys.box (hsys.rows.src (by rw [rowsA_len]; exact hsys.len)) (hsys.want.src (by rw [wantA_len]; exact hsys.len)) hsys.len hr ht hl).mono ?_
    rintro e w' ⟨rfl, rfl⟩
    refine ⟨?_, ⟨A1, A2, n, c1, c2, ?_⟩, Below.refl _ _⟩
    · congr 2
      rw [decide_eq_decide]; omega
    · unfold putA; rw [if_pos hl]; exact hsys
  · refine (put_new Bs A1 A2 n c1 c2 A s rw wt w hA2 hs hlen hsys hr ht hl).mono ?_
    rintro e w' ⟨rfl, ⟨A1', A2', c1', c2', h⟩, hb⟩
    refine ⟨?_, ⟨A1', A2', n + 1, c1', c2', ?_⟩, hb⟩
    · congr 2
      rw [eq_comm, decide_eq_true_iff]; omega
    · unfold putA; rw [if_neg hl]; exact h
theorem putA_len (A : List Nat) (s : Nat) : (putA A s).length ≤ A.length + 1 := by
  unfold putA; split
  · omega
  · simp
theorem aS_len_le (T : Nat → Nat) (d : Nat) : ∀ k, (aS T d k).length ≤ k
  | 0 => by simp [aS]
  | k + 1 => Nat.le_trans (putA_len _ _) (by have := aS_len_le T d k; omega)
theorem finA_len_le (n : Nat) (A : List Nat) : ∀ j, (finA n A j).length ≤ A.length + j
  | 0 => Nat.le_refl _
  | j + 1 => Nat.le_trans (putA_len _ _) (by have := finA_len_le n A j; omega)
theorem fin_ne {n : Nat} {A : List Nat} (hn : 0 < n) : 0 < (finA n A n).length := by
  rcases Nat.eq_zero_or_pos (finA n A n).length with h | h
  · have e := List.eq_nil_of_length_eq_zero h
    have h2 := fin_small (n := n) (A := A) 0 hn
    rw [e] at h2
    simp [rd] at h2
  · exact h
theorem put_at (Bs : Nat) (A1 A2 : Option Addr) (n c1 c2 : Nat) (A : List Nat) (s : Nat) (x y : Int) (w : World) (hT : Tri A) (hA : ∀ a ∈ A, a < 131072) (hs : s < 131072) (hlen : n ≤ 64)
    (hsys : Sys w Bs A1 A2 n c1 c2 A) (hx : x = ((s / 2 : Nat) : Int)) (hy : y = ((s % 2 : Nat) : Int)) :
    Calls Try.prog 85 #[.pointer (some ⟨Bs, 0, none⟩), .int .i64 x, .int .i64 y] w fun e w' => e = .returned (.bool (decide (rd A s ≠ 1))) ∧ (∃ A1' A2' n' c1' c2', Sys w' Bs A1' A2' n' c1' c2' (putA A s)) ∧ Below Bs w w' := by
  subst hx hy
  exact put_any Bs A1 A2 n c1 c2 A s _ _ w hT hA hs hlen hsys (shr_div s) rfl
theorem dbl_lt {p : Nat} (h : p < 65536) : 2 * p < 131072 ∧ 2 * p + 1 < 131072 := by omega
theorem dbl_half (p : Nat) : (p : Int) = ((2 * p / 2 : Nat) : Int) ∧ (p : Int) = (((2 * p + 1) / 2 : Nat) : Int) := by omega
theorem dbl_rest (p : Nat) : (0 : Int) = ((2 * p % 2 : Nat) : Int) ∧ (1 : Int) = (((2 * p + 1) % 2 : Nat) : Int) := by omega
theorem put_small (Bs : Nat) (A1 A2 : Option Addr) (n c1 c2 : Nat) (A : List Nat) (s : Nat) (x y : Int) (w : World) (hT : Tri A) (hA : ∀ a ∈ A, a < 131072) (hs : s < 131072) (hlen : n ≤ 64)
    (hbx : Blk w 81 Bs #[.slice A1 n c1, .slice A2 n c2]) (h1 : Src w A1 n (lv (rowsA A))) (h2 : Src w A2 n (lv (wantA A))) (hn : A.length = n) (hx : x = ((s / 2 : Nat) : Int)) (hy : y = ((s % 2 : Nat) : Int)) (hlow : rd A s < 2) :
    Calls Try.prog 85 #[.pointer (some ⟨Bs, 0, none⟩), .int .i64 x, .int .i64 y] w fun e w' => e = .returned (.bool (decide (rd A s = 0))) ∧ w' = w := by
  subst hx hy
  exact put_read Bs 0 A1 A2 n c1 c2 A s _ _ w (fun a ha => ⟨hT.1 a ha, hA a ha⟩) hs hlen hbx h1 h2 hn (shr_div s) rfl hlow
theorem two17 {n : Nat} (h : n ≤ 16) : (2 : Nat) ^ (n + 1) ≤ 131072 := Nat.pow_le_pow_right (n := 2) (j := 17) (by decide) (by omega)
end Go.Proofs.Ytcpbbpgiicakcaa
