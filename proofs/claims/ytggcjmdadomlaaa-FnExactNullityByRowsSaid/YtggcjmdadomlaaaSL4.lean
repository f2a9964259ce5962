import Derived.Test.YtggcjmdadomlaaaSL3
namespace Go.Proofs.Ytggcjmdadomlaaa
open Go.RowKit
set_option maxHeartbeats 2000000
theorem nrSpec_a (r c : Int) (own : Bool) (w : World) (H : Hid (inB c 1 8 = false)) :
    Calls Try.prog 38 #[.int .i64 r, .int .i64 c, .bool own] w fun e w' => e = .returned (.tuple #[.int .i64 0, .bool false]) ∧ w = w' := by
  go_enter Try.func38, Try.ntmps38
  go_wp2_with (go_at_call 70; refine (swp (csWide_no _ _ _ H.out)).mono ?_; rintro e w' ⟨rfl, rfl⟩)
  go_ret2
  exact ⟨rfl, rfl⟩
theorem nrImpl_a (r c : Int) (own : Bool) (w : World) (H : Hid (inB c 1 8 = false)) :
    Calls Try.prog 39 #[.int .i64 r, .int .i64 c, .bool own] w fun e w' => e = .returned (.tuple #[.int .i64 0, .bool false]) ∧ Below w.heap.size w w' := by
  go_enter Try.func39, Try.ntmps39
  go_wp2_with (go_at_call 41; refine (nbImpl_a c own r _ H).mono ?_; rintro e w' ⟨rfl, hb⟩)
  go_ret2
  exact ⟨rfl, hb⟩
theorem nrSpec_b (r : Int) (C : Nat) (own : Bool) (w : World) (h1 : 1 ≤ C) (h2 : C ≤ 8) (HZ : Hid (inB 0 0 (2 ^ C - 1) = true)) (HK : Hid (inB r 1 200 = false)) :
    Calls Try.prog 38 #[.int .i64 r, .int .i64 C, .bool own] w fun e w' => e = .returned (.tuple #[.int .i64 0, .bool false]) ∧ w = w' := by
  go_enter Try.func38, Try.ntmps38
  go_wp2_with (first | (go_at_call 70; refine (swp (csWide_ok C 0 _ h1 h2)).mono ?_; rintro e w' ⟨rfl, rfl⟩; rw [HZ.out]) | (go_at_call 71; refine (swp (l1In_any _ _ _ _)).mono ?_; rintro e w' ⟨rfl, rfl⟩; rw [HK.out]))
  go_ret2
  exact ⟨rfl, rfl⟩
theorem nrImpl_b (r : Int) (C : Nat) (own : Bool) (w : World) (HW : Hid (inB C 1 8 = true)) (HK : Hid (inB r 0 200 = false)) :
    Calls Try.prog 39 #[.int .i64 r, .int .i64 C, .bool own] w fun e w' => e = .returned (.tuple #[.int .i64 0, .bool false]) ∧ Below w.heap.size w w' := by
  go_enter Try.func39, Try.ntmps39
  go_wp2_with (go_at_call 41; refine (nbImpl_b C own r _ HW HK).mono ?_; rintro e w' ⟨rfl, hb⟩)
  go_ret2
  exact ⟨rfl, hb⟩
set_option maxRecDepth 100000 in
theorem nrImpl_c (C : Nat) (own : Bool) (w : World) (h1 : 1 ≤ C) (h2 : C ≤ 8) (HW : Hid (inB C 1 8 = true)) (HK : Hid (inB (0 : Nat) 0 200 = true)) :
    Calls Try.prog 39 #[.int .i64 0, .int .i64 C, .bool own] w fun e w' => e = .returned (.tuple #[.int .i64 0, .bool false]) ∧ Below w.heap.size w w' := by
  have hi0 : ∀ w, Calls Try.prog 41 #[.int .i64 C, .bool own, .int .i64 0] w (ListOk w (nulL C own 0)) := fun w => nbImpl_d C 0 own w h1 h2 (by omega) HW HK
  have HI := Lib.hid hi0
  clear hi0 HK
  go_enter Try.func39, Try.ntmps39
  go_wp2_with (go_at_call 41; refine (HI.out _).mono ?_; rintro e w2 ⟨A, m, d, rfl, hm, ho, hb⟩; clear hm ho)
  go_ret2
  exact ⟨rfl, hb⟩
theorem nrSpec_d (C M : Nat) (own : Bool) (w : World) (h1 : 1 ≤ C) (h2 : C ≤ 8) (h3 : M ≤ 200) (HZ : Hid (inB 0 0 (2 ^ C - 1) = true)) (HK : Hid (inB M 1 200 = true)) :
    Calls Try.prog 38 #[.int .i64 M, .int .i64 C, .bool own] w fun e w' => e = .returned (.tuple #[.int .i64 (nulN C own M : Nat), .bool true]) ∧ w = w' := by
  go_enter Try.func38, Try.ntmps38
  go_wp2_with (first | (go_at_call 70; refine (swp (csWide_ok C 0 _ h1 h2)).mono ?_; rintro e w' ⟨rfl, rfl⟩; rw [HZ.out]) | (go_at_call 71; refine (swp (l1In_any _ _ _ _)).mono ?_; rintro e w' ⟨rfl, rfl⟩; rw [HK.out]) | (go_at_call 77; refine (csNullity_any M C own _ h1 h2 (by omega)).mono ?_; rintro e w' ⟨rfl, rfl⟩))
  go_ret2
  exact ⟨rfl, rfl⟩
theorem nrImpl_d (C M : Nat) (own : Bool) (w : World) (h1 : 1 ≤ C) (h2 : C ≤ 8) (h0 : 1 ≤ M) (h3 : M ≤ 200) (HW : Hid (inB C 1 8 = true)) (HK : Hid (inB M 0 200 = true)) :
    Calls Try.prog 39 #[.int .i64 M, .int .i64 C, .bool own] w fun e w' => e = .returned (.tuple #[.int .i64 (nulN C own M : Nat), .bool true]) ∧ Below w.heap.size w w' := by
  have e0 := nat_neq0 (show M ≠ 0 by omega)
  obtain ⟨K, hK⟩ : ∃ K, M = K + 1 := ⟨M - 1, by omega⟩
  have hK1 : (M : Int) - 1 = (K : Int) := by omega
  have hK2 : K < M := by omega
  have hKi : (K : Int) < (M : Int) := by omega
  have hget := Lib.hid (show lv (nulL C own M) K = .int .i64 (nulN C own M : Nat) by subst hK; simp [lv, nulL])
  clear hK
  go_enter Try.func39, Try.ntmps39
  go_wp2_with (go_at_call 41; refine (nbImpl_d C M own _ h1 h2 h3 HW HK).mono ?_; rintro e w2 ⟨A, m, d, rfl, hm, ho, hb⟩; rw [nulL_len] at hm; subst hm; obtain ⟨b, hA, hBb, hbl, hmd, hdm, hcell⟩ := ho.read (nulL_len C own M) (k := K) hK2; subst hA; rw [hget.out] at hcell; have HB := Lib.hid hb; clear ho hdm hb)
  go_ret2
  exact ⟨rfl, HB.out⟩
theorem lawNullity (r c : Int) (own : Bool) (w : World) :
    Calls Try.prog 12 #[.int .i64 r, .int .i64 c, .bool own] w fun e w' => e = .returned (.bool true) ∧ Below w.heap.size w w' := by
  cases hc : inB c 1 8
  · have H := Lib.hid hc
    clear hc
    go_enter Try.func12, Try.ntmps12
    go_wp2_with (first | (go_at_call 38; refine (nrSpec_a r c own _ H).mono ?_; rintro e w' ⟨rfl, rfl⟩) | (go_at_call 39; refine (nrImpl_a r c own _ H).mono ?_; rintro e w' ⟨rfl, hb⟩))
    go_ret
    exact ⟨rfl, hb⟩
  · obtain ⟨C, rfl, h1, h2⟩ := wide_nat hc
    have HW := Lib.hid hc
    have HZ := Lib.hid (zero_in C)
    clear hc
    cases hk : inB r 1 200
    · have HK1 := Lib.hid hk
      cases hk0 : inB r 0 200
      · have HK := Lib.hid hk0
        clear hk hk0
        go_enter Try.func12, Try.ntmps12
        go_wp2_with (first | (go_at_call 38; refine (nrSpec_b r C own _ h1 h2 HZ HK1).mono ?_; rintro e w' ⟨rfl, rfl⟩) | (go_at_call 39; refine (nrImpl_b r C own _ HW HK).mono ?_; rintro e w' ⟨rfl, hb⟩))
        go_ret
        exact ⟨rfl, hb⟩
      · have hr : r = 0 := by
          simp only [inB, decide_eq_true_eq, decide_eq_false_iff_not] at hk hk0
          omega
        subst hr
        have HK : Hid (inB (0 : Nat) 0 200 = true) := Lib.hid hk0
        clear hk hk0
        go_enter Try.func12, Try.ntmps12
        go_wp2_with (first | (go_at_call 38; refine (nrSpec_b 0 C own _ h1 h2 HZ HK1).mono ?_; rintro e w' ⟨rfl, rfl⟩) | (go_at_call 39; refine (nrImpl_c C own _ h1 h2 HW HK).mono ?_; rintro e w' ⟨rfl, hb⟩))
        go_ret
        exact ⟨rfl, hb⟩
    · have hr : 1 ≤ r ∧ r ≤ 200 := by simpa [inB] using hk
      obtain ⟨M, rfl⟩ : ∃ M : Nat, r = M := ⟨r.toNat, by omega⟩
      have h3 : 1 ≤ M ∧ M ≤ 200 := by omega
      have HK1 := Lib.hid hk
      have HK := Lib.hid (show inB (M : Int) 0 200 = true by simp only [inB, decide_eq_true_eq]; omega)
      clear hk hr
      go_enter Try.func12, Try.ntmps12
      go_wp2_with (first | (go_at_call 38; refine (nrSpec_d C M own _ h1 h2 h3.2 HZ HK1).mono ?_; rintro e w' ⟨rfl, rfl⟩) | (go_at_call 39; refine (nrImpl_d C M own _ h1 h2 h3.1 h3.2 HW HK).mono ?_; rintro e w' ⟨rfl, hb⟩))
      go_ret
      exact ⟨rfl, hb⟩
end Go.Proofs.Ytggcjmdadomlaaa
