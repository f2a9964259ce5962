import Derived.Test.YtibikoajejfdeaaTP
namespace Go.Proofs.Ytibikoajejfdeaa.T
open Go.RowKit
set_option maxHeartbeats 1000000
theorem _root_.Go.Proofs.Ytibikoajejfdeaa.OL.read {w : World} {B n d : Nat} {A : Option Addr} {L : List Nat} (h : OL w B (.slice A n d) L) (hn : L.length = n) {k : Nat} (hk : k < n) :
    ∃ b, A = some ⟨b, 0, none⟩ ∧ B ≤ b ∧ b < w.heap.size ∧ n ≤ d ∧ d ≤ maxLen ∧ w.cell? ⟨b, k, none⟩ = some (lv L k) := by
  subst hn
  obtain ⟨h0, h | ⟨g, cap, cur, h1, h2, h3, h4, h5, h6, h7⟩⟩ := h
  · omega
  · injection h1 with a b e
    subst a e
    have hs := own_src (h := (by rw [← vl_row]; exact ⟨h0, .inr ⟨g, d, cur, rfl, h2, h3, h4, h5, h6, h7⟩⟩ : w.ownsRow B 3 1 (.slice (some ⟨g, 0, none⟩) L.length d) L.length (rowL L.length (lv L))))
    obtain ⟨b', off, e1, h8, h9⟩ := hs k hk
    injection e1 with e1; injection e1 with e1 e2
    subst e1 e2
    exact ⟨_, rfl, h2, h8, h4, h5, by simpa using h9⟩
theorem xor_assign (f b : Nat) (hf : f < 1152921504606846976) (hb : b < 4611686018427387904) : bits .xor .i64 ((f : Int) * 2) (b : Int) = ((f * 2 ^^^ b : Nat) : Int) := by
  have e : (f : Int) * 2 = ((f * 2 : Nat) : Int) := by omega
  rw [e]; exact i64_xor_nat _ _ (by omega) (by omega)
/-- The one before. -/
def bf (F : Nat → Nat) : Nat → Nat
  | 0 => 1
  | k + 1 => F k
theorem fbImpl_neg (n : Int) (w : World) (hn : n < 0) :
    Calls Try.prog 23 #[.int .i64 n] w fun e w' => e = .returned (.tuple #[.int .i64 0, .bool false]) ∧ w' = w := by
  go_enter Try.func23, Try.ntmps23
  go_wp2
  go_ret2
  exact ⟨rfl, rfl⟩
theorem fbImpl_big (n : Int) (w : World) (hn : 41 < n) :
    Calls Try.prog 23 #[.int .i64 n] w fun e w' => e = .returned (.tuple #[.int .i64 0, .bool false]) ∧ w' = w := by
  go_enter Try.func23, Try.ntmps23
  go_wp2
  go_ret2
  exact ⟨rfl, rfl⟩
theorem fbImpl_zero  (w : World) :
    Calls Try.prog 23 #[.int .i64 0] w fun e w' => e = .returned (.tuple #[.int .i64 0, .bool true]) ∧ w' = w := by
  go_enter Try.func23, Try.ntmps23
  go_wp2
  go_ret2
  exact ⟨rfl, rfl⟩
theorem next_fi (K : Nat) (w : World) (hK : K ≤ 40) : Next fi K w.heap.size (w.alloc (.cells #[.func (.func 33) #[] #[]] 40)) := by
  intro k wr hk hb
  have hc : wr.cell? ⟨w.heap.size, 0, none⟩ = some (.func (.func 33) #[] #[]) := (hb.cell (p := ⟨w.heap.size, 0, none⟩) (by simp)).trans (by simp [go_sem])
  have h1 : fi (k + 1) < 2199023255552 := Nat.lt_of_lt_of_le (fi_lt (k + 1)) (Nat.pow_le_pow_right (n := 2) (j := 41) (by decide) (by omega))
  have h2 : fi k < 2199023255552 := Nat.lt_of_lt_of_le (fi_lt k) (Nat.pow_le_pow_right (n := 2) (j := 41) (by decide) (by omega))
  rw [fi_two]
  exact next_id _ _ _ _ _ hc (by omega) (by omega)
theorem fbImpl_ok (n K : Nat) (w : World) (hK : (n : Int) - 1 = K) (hn : n ≤ 41) :
    Calls Try.prog 23 #[.int .i64 n] w fun e w' => e = .returned (.tuple #[.int .i64 (fi n : Nat), .bool true]) ∧ Below w.heap.size w w' := by
  have e0 : ((n : Int) == 0) = false := by simp; omega
  have e1 : K + 1 = n := by omega
  have hn0 : ¬ ((n : Int) < 0) := by omega
  have hn41 : ¬ ((41 : Int) < n) := by omega
  obtain ⟨G, hG⟩ : ∃ G, fi n = G := ⟨_, rfl⟩
  rw [hG]
  have HG : Hid (fi (K + 1) = G) := hide (by rw [e1]; exact hG)
  clear hG
  go_enter Try.func23, Try.ntmps23
  go_wp2_with (go_at_call 32; refine (fibonacci_any n K 33 #[] fi _ hK (by omega) rfl rfl (next_fi K _ (by omega))).mono ?_; rintro e w2 ⟨A, d, m, rfl, hm, ho, hb⟩; obtain ⟨b, hA, hBb, hbl, hmd, hdm, hcell⟩ := ho.read hm (k := K) (by rw [fl_length] at hm; omega); subst hA; rw [fl_length] at hm; rw [fl_get (Nat.le_refl K), HG.out] at hcell; subst hm; have HB := hide hb; clear ho hdm hb)
  go_ret2
  exact ⟨rfl, HB.out⟩
end Go.Proofs.Ytibikoajejfdeaa.T
