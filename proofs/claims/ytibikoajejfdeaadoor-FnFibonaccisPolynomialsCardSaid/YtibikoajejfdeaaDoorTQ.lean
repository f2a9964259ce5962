import Derived.Test.YtibikoajejfdeaaDoorTP
namespace Go.Proofs.YtibikoajejfdeaaDoor
open Go.RowKit
set_option maxHeartbeats 1000000
theorem OL.read {w : World} {B n d : Nat} {A : Option Addr} {L : List Nat} (h : OL w B (.slice A n d) L) (hn : L.length = n) {k : Nat} (hk : k < n) :
    ∃ b, A = some ⟨b, 0, none⟩ ∧ B ≤ b ∧ b < w.heap.size ∧ n ≤ d ∧ d ≤ maxLen ∧ w.cell? ⟨b, k, none⟩ = some (lv L k) := by
  subst hn
  obtain ⟨h0, h | ⟨g, cap, cur, h1, h2, h3, h4, h5, h6, h7⟩⟩ := h
  · omega
  · injection h1 with a b e
    subst a e
    have hs := own_src (h := (by rw [← vl_row]; exact ⟨h0, .inr ⟨g, d, cur, rfl, h2, h3, h4, h5, h6, h7⟩⟩ : w.ownsRow B 3 1 (.slice (some ⟨g, 0, none⟩) L.length d) L.length (rowL L.length (lv L))))
    obtain ⟨b', off, e1, h8, h9⟩ := hs k hk
    injection e1 with e1; injection e1 with e1 e2
    subst e1 e2
    exact ⟨_, rfl, h2, h8, h4, h5, by simpa using h9⟩
theorem xor_assign (f b : Nat) (hf : f < 1152921504606846976) (hb : b < 4611686018427387904) : bits .xor .i64 ((f : Int) * 2) (b : Int) = ((f * 2 ^^^ b : Nat) : Int) := by
  have e : (f : Int) * 2 = ((f * 2 : Nat) : Int) := by omega
  rw [e]; exact i64_xor_nat _ _ (by omega) (by omega)
/-- The one before. -/
def bf (F : Nat → Nat) : Nat → Nat
  | 0 => 1
  | k + 1 => F k
theorem poFibonacci_any (n : Nat) (w : World) (hn : n ≤ 41) :
    Calls Tryd.prog 20 #[.int .i64 n] w fun e w' => e = .returned (.int .i64 (fi n : Nat)) ∧ w' = w := by
  have hB : Hid (∀ k, k ≤ 41 → fi k < 2199023255552) := hide fun k hk => Nat.lt_of_lt_of_le (fi_lt k) (Nat.pow_le_pow_right (n := 2) (j := 41) (by decide) hk)
  go_enter Tryd.func20, Tryd.ntmps20
  go_wp2
  go_loop [0, 3, 4] (fun m b o => ∃ (k j B O : Nat), k + j = n ∧ m = .int .i64 j ∧ b = .int .i64 B ∧ o = .int .i64 O ∧ Hid (B = bf fi k) ∧ Hid (O = fi k)) (fun m _ _ => (intOf m).toNat)
  case atStart => exact ⟨0, n, 1, 0, by omega, rfl, rfl, rfl, hide rfl, hide rfl⟩
  case round =>
    obtain ⟨k, j, B, O, hkj, rfl, rfl, rfl, H1, H2⟩ := hrel
    by_cases h0 : j = 0
    · subst h0
      have he : O = fi n := by rw [H2.out]; congr 1
      have HE := hide he
      clear he H1 H2
      go_wp2
      go_ret
      exact ⟨by rw [HE.out]; rfl, rfl⟩
    · have hj : 0 < j := by omega
      have hB2 : B < 4398046511104 := by
        rw [H1.out]
        cases k with
        | zero => show 1 < _; omega
        | succ k => have := hB.out k (by omega); show fi k < _; omega
      have hO2 : O < 4398046511104 := by rw [H2.out]; have := hB.out k (by omega); omega
      have HN : Hid (O * 2 ^^^ B = fi (k + 1)) := hide (by
        rw [H1.out, H2.out]
        cases k with
        | zero => rfl
        | succ k => rfl)
      have HO := hide (show O = bf fi (k + 1) from H2.out)
      have e1 := xor_assign O B (by omega) (by omega)
      clear H1 H2
      go_wp2
      go_round
      case rel => exact ⟨k + 1, j - 1, O, O * 2 ^^^ B, by omega, by go_num, rfl, by go_num, HO, HN⟩
      case measure => simp [intOf] <;> omega
theorem fbSpec_no (n : Int) (w : World) (HA : Hid (inB n 0 41 = false)) :
    Calls Tryd.prog 7 #[.int .i64 n] w fun e w' => e = .returned (.tuple #[.int .i64 0, .bool false]) ∧ w' = w := by
  go_enter Tryd.func7, Tryd.ntmps7
  go_wp2_with (first | (go_at_call 19; refine (l1In_any _ _ _ _).mono ?_; rintro e w' ⟨rfl, rfl⟩; rw [HA.out]))
  go_ret2
  exact ⟨rfl, rfl⟩
theorem fbSpec_ok (n : Nat) (w : World) (hn : n ≤ 41) (HA : Hid (inB n 0 41 = true)) :
    Calls Tryd.prog 7 #[.int .i64 n] w fun e w' => e = .returned (.tuple #[.int .i64 (fi n : Nat), .bool true]) ∧ w' = w := by
  go_enter Tryd.func7, Tryd.ntmps7
  go_wp2_with (first | (go_at_call 19; refine (l1In_any _ _ _ _).mono ?_; rintro e w' ⟨rfl, rfl⟩; rw [HA.out]) | (go_at_call 20; refine (poFibonacci_any _ _ hn).mono ?_; rintro e w' ⟨rfl, rfl⟩))
  go_ret2
  exact ⟨rfl, rfl⟩
theorem fbImpl_neg (n : Int) (w : World) (hn : n < 0) :
    Calls Tryd.prog 6 #[.int .i64 n] w fun e w' => e = .returned (.tuple #[.int .i64 0, .bool false]) ∧ w' = w := by
  go_enter Tryd.func6, Tryd.ntmps6
  go_wp2
  go_ret2
  exact ⟨rfl, rfl⟩
theorem fbImpl_big (n : Int) (w : World) (hn : 41 < n) :
    Calls Tryd.prog 6 #[.int .i64 n] w fun e w' => e = .returned (.tuple #[.int .i64 0, .bool false]) ∧ w' = w := by
  go_enter Tryd.func6, Tryd.ntmps6
  go_wp2
  go_ret2
  exact ⟨rfl, rfl⟩
theorem fbImpl_zero  (w : World) :
    Calls Tryd.prog 6 #[.int .i64 0] w fun e w' => e = .returned (.tuple #[.int .i64 0, .bool true]) ∧ w' = w := by
  go_enter Tryd.func6, Tryd.ntmps6
  go_wp2
  go_ret2
  exact ⟨rfl, rfl⟩
theorem next_fi (K : Nat) (w : World) (hK : K ≤ 40) : Next fi K w.heap.size (w.alloc (.cells #[.func (.func 18) #[] #[]] 35)) := by
  intro k wr hk hb
  have hc : wr.cell? ⟨w.heap.size, 0, none⟩ = some (.func (.func 18) #[] #[]) := (hb.cell (p := ⟨w.heap.size, 0, none⟩) (by simp)).trans (by simp [go_sem])
  have h1 : fi (k + 1) < 2199023255552 := Nat.lt_of_lt_of_le (fi_lt (k + 1)) (Nat.pow_le_pow_right (n := 2) (j := 41) (by decide) (by omega))
  have h2 : fi k < 2199023255552 := Nat.lt_of_lt_of_le (fi_lt k) (Nat.pow_le_pow_right (n := 2) (j := 41) (by decide) (by omega))
  rw [fi_two]
  exact next_id _ _ _ _ _ hc (by omega) (by omega)
theorem fbImpl_ok (n K : Nat) (w : World) (hK : (n : Int) - 1 = K) (hn : n ≤ 41) :
    Calls Tryd.prog 6 #[.int .i64 n] w fun e w' => e = .returned (.tuple #[.int .i64 (fi n : Nat), .bool true]) ∧ Below w.heap.size w w' := by
  have e0 : ((n : Int) == 0) = false := by simp; omega
  have e1 : K + 1 = n := by omega
  have hn0 : ¬ ((n : Int) < 0) := by omega
  have hn41 : ¬ ((41 : Int) < n) := by omega
  obtain ⟨G, hG⟩ : ∃ G, fi n = G := ⟨_, rfl⟩
  rw [hG]
  have HG : Hid (fi (K + 1) = G) := hide (by rw [e1]; exact hG)
  clear hG
  go_enter Tryd.func6, Tryd.ntmps6
  go_wp2_with (go_at_call 17; refine (fibonacci_any n K 18 #[] fi _ hK (by omega) rfl rfl (next_fi K _ (by omega))).mono ?_; rintro e w2 ⟨A, d, m, rfl, hm, ho, hb⟩; obtain ⟨b, hA, hBb, hbl, hmd, hdm, hcell⟩ := ho.read hm (k := K) (by rw [fl_length] at hm; omega); subst hA; rw [fl_length] at hm; rw [fl_get (Nat.le_refl K), HG.out] at hcell; subst hm; have HB := hide hb; clear ho hdm hb)
  go_ret2
  exact ⟨rfl, HB.out⟩
end Go.Proofs.YtibikoajejfdeaaDoor
