import Derived.Test.YtggcjmdadomlaaaRJ
namespace Go.Proofs.Ytggcjmdadomlaaa
open Go.RowKit
set_option maxHeartbeats 1000000
theorem rpImpl_a (c : Int) (own : Bool) (f : Int) (w : World) (H : Hid (inB c 1 8 = false)) :
    Calls Try.prog 35 #[.int .i64 c, .bool own, .int .i64 f] w fun e w' => e = .returned (.tuple #[.int .i64 0, .bool false]) ∧ w = w' := by
  go_enter Try.func35, Try.ntmps35
  go_wp2_with (first | (go_at_call 73; refine (isRow_no _ _ _ H.out).mono ?_; rintro e w' ⟨rfl, rfl⟩))
  go_ret2
  exact ⟨rfl, rfl⟩
theorem rpImpl_b (C : Nat) (own : Bool) (f : Int) (w : World) (h1 : 1 ≤ C) (h2 : C ≤ 8) (HF : Hid (inB f 0 (2 ^ C - 1) = false)) :
    Calls Try.prog 35 #[.int .i64 C, .bool own, .int .i64 f] w fun e w' => e = .returned (.tuple #[.int .i64 0, .bool false]) ∧ w = w' := by
  go_enter Try.func35, Try.ntmps35
  go_wp2_with (first | (go_at_call 73; refine (isRow_ok C _ _ h1 h2).mono ?_; rintro e w' ⟨rfl, rfl⟩; rw [HF.out]))
  go_ret2
  exact ⟨rfl, rfl⟩
theorem rpImpl_c (C : Nat) (own : Bool) (w : World) (h1 : 1 ≤ C) (h2 : C ≤ 8) (HF : Hid (inB 0 0 (2 ^ C - 1) = true)) :
    Calls Try.prog 35 #[.int .i64 C, .bool own, .int .i64 0] w fun e w' => e = .returned (.tuple #[.int .i64 0, .bool false]) ∧ w = w' := by
  go_enter Try.func35, Try.ntmps35
  go_wp2_with (first | (go_at_call 73; refine (isRow_ok C _ _ h1 h2).mono ?_; rintro e w' ⟨rfl, rfl⟩; rw [HF.out]))
  go_ret2
  exact ⟨rfl, rfl⟩
theorem rpImpl_d (C F : Nat) (own : Bool) (w : World) (h1 : 1 ≤ C) (h2 : C ≤ 8) (h6 : 6 < C) (HF : Hid (inB F 0 (2 ^ C - 1) = true)) (e0 : ((F : Int) == 0) = false) :
    Calls Try.prog 35 #[.int .i64 C, .bool own, .int .i64 F] w fun e w' => e = .returned (.tuple #[.int .i64 0, .bool false]) ∧ w = w' := by
  go_enter Try.func35, Try.ntmps35
  go_wp2_with (first | (go_at_call 73; refine (isRow_ok C _ _ h1 h2).mono ?_; rintro e w' ⟨rfl, rfl⟩; rw [HF.out]))
  go_ret2
  exact ⟨rfl, rfl⟩
theorem rpSpec_a (c : Int) (own : Bool) (f : Int) (w : World) (H : Hid (inB c 1 8 = false)) :
    Calls Try.prog 34 #[.int .i64 c, .bool own, .int .i64 f] w fun e w' => e = .returned (.tuple #[.int .i64 0, .bool false]) ∧ w = w' := by
  go_enter Try.func34, Try.ntmps34
  go_wp2_with (first | (go_at_call 70; refine (csWide_no _ _ _ H.out).mono ?_; rintro e w' ⟨rfl, rfl⟩))
  go_ret2
  exact ⟨rfl, rfl⟩
theorem rpSpec_b (C : Nat) (own : Bool) (f : Int) (w : World) (h1 : 1 ≤ C) (h2 : C ≤ 8) (HF : Hid (inB f 0 (2 ^ C - 1) = false)) :
    Calls Try.prog 34 #[.int .i64 C, .bool own, .int .i64 f] w fun e w' => e = .returned (.tuple #[.int .i64 0, .bool false]) ∧ w = w' := by
  go_enter Try.func34, Try.ntmps34
  go_wp2_with (first | (go_at_call 70; refine (csWide_ok C _ _ h1 h2).mono ?_; rintro e w' ⟨rfl, rfl⟩; rw [HF.out]))
  go_ret2
  exact ⟨rfl, rfl⟩
theorem rpSpec_c (C : Nat) (own : Bool) (w : World) (h1 : 1 ≤ C) (h2 : C ≤ 8) (HF : Hid (inB 0 0 (2 ^ C - 1) = true)) :
    Calls Try.prog 34 #[.int .i64 C, .bool own, .int .i64 0] w fun e w' => e = .returned (.tuple #[.int .i64 0, .bool false]) ∧ w = w' := by
  go_enter Try.func34, Try.ntmps34
  go_wp2_with (first | (go_at_call 70; refine (csWide_ok C _ _ h1 h2).mono ?_; rintro e w' ⟨rfl, rfl⟩; rw [HF.out]))
  go_ret2
  exact ⟨rfl, rfl⟩
theorem rpSpec_d (C F : Nat) (own : Bool) (w : World) (h1 : 1 ≤ C) (h2 : C ≤ 8) (h6 : 6 < C) (HF : Hid (inB F 0 (2 ^ C - 1) = true)) (e0 : ((F : Int) == 0) = false) :
    Calls Try.prog 34 #[.int .i64 C, .bool own, .int .i64 F] w fun e w' => e = .returned (.tuple #[.int .i64 0, .bool false]) ∧ w = w' := by
  go_enter Try.func34, Try.ntmps34
  go_wp2_with (first | (go_at_call 70; refine (csWide_ok C _ _ h1 h2).mono ?_; rintro e w' ⟨rfl, rfl⟩; rw [HF.out]))
  go_ret2
  exact ⟨rfl, rfl⟩
theorem lawPeriod (c : Int) (own : Bool) (f : Int) (w : World) :
    Calls Try.prog 10 #[.int .i64 c, .bool own, .int .i64 f] w fun e w' => e = .returned (.bool true) ∧ Below w.heap.size w w' := by
  cases hc : inB c 1 8
  · have H := Lib.hid hc
    clear hc
    go_enter Try.func10, Try.ntmps10
    go_wp2_with (first | (go_at_call 34; refine (rpSpec_a _ _ _ _ H).mono ?_; rintro e w' ⟨rfl, rfl⟩) | (go_at_call 35; refine (rpImpl_a _ _ _ _ H).mono ?_; rintro e w' ⟨rfl, rfl⟩))
    go_ret
    exact ⟨rfl, Below.refl _ _⟩
  · obtain ⟨C, rfl, h1, h2⟩ := wide_nat hc
    clear hc
    cases hf : inB f 0 (2 ^ C - 1)
    · have HF := Lib.hid hf
      clear hf
      go_enter Try.func10, Try.ntmps10
      go_wp2_with (first | (go_at_call 34; refine (rpSpec_b _ _ _ _ h1 h2 HF).mono ?_; rintro e w' ⟨rfl, rfl⟩) | (go_at_call 35; refine (rpImpl_b _ _ _ _ h1 h2 HF).mono ?_; rintro e w' ⟨rfl, rfl⟩))
      go_ret
      exact ⟨rfl, Below.refl _ _⟩
    · obtain ⟨F, rfl, hF⟩ := row_nat hf
      have HF := Lib.hid hf
      clear hf
      by_cases h0 : F = 0
      · subst h0
        go_enter Try.func10, Try.ntmps10
        go_wp2_with (first | (go_at_call 34; refine (rpSpec_c _ _ _ h1 h2 HF).mono ?_; rintro e w' ⟨rfl, rfl⟩) | (go_at_call 35; refine (rpImpl_c _ _ _ h1 h2 HF).mono ?_; rintro e w' ⟨rfl, rfl⟩))
        go_ret
        exact ⟨rfl, Below.refl _ _⟩
      · by_cases h6 : 6 < C
        · have e0 := nat_neq0 h0
          go_enter Try.func10, Try.ntmps10
          go_wp2_with (first | (go_at_call 34; refine (rpSpec_d _ _ _ _ h1 h2 h6 HF e0).mono ?_; rintro e w' ⟨rfl, rfl⟩) | (go_at_call 35; refine (rpImpl_d _ _ _ _ h1 h2 h6 HF e0).mono ?_; rintro e w' ⟨rfl, rfl⟩))
          go_ret
          exact ⟨rfl, Below.refl _ _⟩
        · obtain ⟨K, hK⟩ := per_ex (own := own) hF
          have HP := Lib.hid hK
          clear hK
          have h6' : C ≤ 6 := by omega
          clear h6
          go_enter Try.func10, Try.ntmps10
          go_wp2_with (first | (go_at_call 34; refine (rpSpec_ok C F K own _ h1 h6' HF hF h0 HP).mono ?_; rintro e w' ⟨rfl, rfl⟩) | (go_at_call 35; refine (rpImpl_ok C F K own _ h1 h6' HF hF h0 HP).mono ?_; rintro e w' ⟨rfl, hb⟩))
          go_ret
          exact ⟨rfl, hb⟩
end Go.Proofs.Ytggcjmdadomlaaa
