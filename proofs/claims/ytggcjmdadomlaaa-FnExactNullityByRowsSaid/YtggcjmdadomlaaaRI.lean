import Derived.Test.YtggcjmdadomlaaaRH
namespace Go.Proofs.Ytggcjmdadomlaaa
open Go.RowKit
set_option maxHeartbeats 1000000
theorem left_zero (R c f : Nat) (own : Bool) (w : World) (hc : c ≤ 16) (hR : R ≤ 65536) (hf : f < 2 ^ c) :
    Calls Try.prog 62 #[.agg #[.int .i64 R, .int .i64 c, .bool own, .int .i64 0], .int .i64 f] w fun e w' => e = .returned (.int .i64 (prw c own 0 f R : Nat)) ∧ Below w.heap.size w w' :=
  left_any R c 0 f own w hc (by omega) hR hf
theorem pattern_zero (R c f : Nat) (own : Bool) (w : World) (hc : c ≤ 16) (hR : R ≤ 65536) (hf : f < 2 ^ c) :
    Calls Try.prog 76 #[.agg #[.int .i64 R, .int .i64 c, .bool own, .int .i64 0], .int .i64 f] w (GrownL w.heap.size w (rows c own 0 f R)) :=
  pattern_any R c 0 f own w hc (by omega) hR hf
theorem rbImpl_a (c : Int) (own : Bool) (f k : Int) (w : World) (H : Hid (inB c 1 8 = false)) :
    Calls Try.prog 33 #[.int .i64 c, .bool own, .int .i64 f, .int .i64 k] w fun e w' => e = .returned (.tuple #[.int .i64 0, .bool false]) ∧ w = w' := by
  go_enter Try.func33, Try.ntmps33
  go_wp2_with (first | (go_at_call 73; refine (isRow_no _ _ _ H.out).mono ?_; rintro e w' ⟨rfl, rfl⟩))
  go_ret2
  exact ⟨rfl, rfl⟩
theorem rbSpec_a (c : Int) (own : Bool) (f k : Int) (w : World) (H : Hid (inB c 1 8 = false)) :
    Calls Try.prog 32 #[.int .i64 c, .bool own, .int .i64 f, .int .i64 k] w fun e w' => e = .returned (.tuple #[.int .i64 0, .bool false]) ∧ w = w' := by
  go_enter Try.func32, Try.ntmps32
  go_wp2_with (first | (go_at_call 70; refine (csWide_no _ _ _ H.out).mono ?_; rintro e w' ⟨rfl, rfl⟩))
  go_ret2
  exact ⟨rfl, rfl⟩
theorem rbImpl_b (C : Nat) (own : Bool) (f k : Int) (w : World) (h1 : 1 ≤ C) (h2 : C ≤ 8) (HF : Hid (inB f 0 (2 ^ C - 1) = false)) :
    Calls Try.prog 33 #[.int .i64 C, .bool own, .int .i64 f, .int .i64 k] w fun e w' => e = .returned (.tuple #[.int .i64 0, .bool false]) ∧ w = w' := by
  go_enter Try.func33, Try.ntmps33
  go_wp2_with (first | (go_at_call 73; refine (isRow_ok C _ _ h1 h2).mono ?_; rintro e w' ⟨rfl, rfl⟩; rw [HF.out]))
  go_ret2
  exact ⟨rfl, rfl⟩
theorem rbSpec_b (C : Nat) (own : Bool) (f k : Int) (w : World) (h1 : 1 ≤ C) (h2 : C ≤ 8) (HF : Hid (inB f 0 (2 ^ C - 1) = false)) :
    Calls Try.prog 32 #[.int .i64 C, .bool own, .int .i64 f, .int .i64 k] w fun e w' => e = .returned (.tuple #[.int .i64 0, .bool false]) ∧ w = w' := by
  go_enter Try.func32, Try.ntmps32
  go_wp2_with (first | (go_at_call 70; refine (csWide_ok C _ _ h1 h2).mono ?_; rintro e w' ⟨rfl, rfl⟩; rw [HF.out]))
  go_ret2
  exact ⟨rfl, rfl⟩
theorem rbImpl_c (C F : Nat) (own : Bool) (k : Int) (w : World) (h1 : 1 ≤ C) (h2 : C ≤ 8) (HF : Hid (inB F 0 (2 ^ C - 1) = true)) (HK : Hid (inB k 0 200 = false)) :
    Calls Try.prog 33 #[.int .i64 C, .bool own, .int .i64 F, .int .i64 k] w fun e w' => e = .returned (.tuple #[.int .i64 0, .bool false]) ∧ w = w' := by
  go_enter Try.func33, Try.ntmps33
  go_wp2_with (first | (go_at_call 73; refine (isRow_ok C _ _ h1 h2).mono ?_; rintro e w' ⟨rfl, rfl⟩; rw [HF.out]) | (go_at_call 74; refine (isRowNumber_any _ _).mono ?_; rintro e w' ⟨rfl, rfl⟩; rw [HK.out]))
  go_ret2
  exact ⟨rfl, rfl⟩
theorem rbSpec_c (C F : Nat) (own : Bool) (k : Int) (w : World) (h1 : 1 ≤ C) (h2 : C ≤ 8) (HF : Hid (inB F 0 (2 ^ C - 1) = true)) (HK : Hid (inB k 0 200 = false)) :
    Calls Try.prog 32 #[.int .i64 C, .bool own, .int .i64 F, .int .i64 k] w fun e w' => e = .returned (.tuple #[.int .i64 0, .bool false]) ∧ w = w' := by
  go_enter Try.func32, Try.ntmps32
  go_wp2_with (first | (go_at_call 70; refine (csWide_ok C _ _ h1 h2).mono ?_; rintro e w' ⟨rfl, rfl⟩; rw [HF.out]) | (go_at_call 71; refine (l1In_any _ _ _ _).mono ?_; rintro e w' ⟨rfl, rfl⟩; rw [HK.out]))
  go_ret2
  exact ⟨rfl, rfl⟩
theorem rbImpl_d (C F K : Nat) (own : Bool) (w : World) (h1 : 1 ≤ C) (h2 : C ≤ 8) (HF : Hid (inB F 0 (2 ^ C - 1) = true)) (HK : Hid (inB K 0 200 = true)) (h3 : K ≤ 200) (h4 : F < 2 ^ C) :
    Calls Try.prog 33 #[.int .i64 C, .bool own, .int .i64 F, .int .i64 K] w fun e w' => e = .returned (.tuple #[.int .i64 (prw C own 0 F K : Nat), .bool true]) ∧ Below w.heap.size w w' := by
  go_enter Try.func33, Try.ntmps33
  go_wp2_with (first | (go_at_call 73; refine (isRow_ok C _ _ h1 h2).mono ?_; rintro e w' ⟨rfl, rfl⟩; rw [HF.out]) | (go_at_call 74; refine (isRowNumber_any _ _).mono ?_; rintro e w' ⟨rfl, rfl⟩; rw [HK.out]) | (go_at_call 62; refine (left_zero K C F own _ (by omega) (by omega) h4).mono ?_; rintro e w' ⟨rfl, hb⟩))
  go_ret2
  exact ⟨rfl, hb⟩
theorem rbSpec_d (C F K : Nat) (own : Bool) (w : World) (h1 : 1 ≤ C) (h2 : C ≤ 8) (HF : Hid (inB F 0 (2 ^ C - 1) = true)) (HK : Hid (inB K 0 200 = true)) (h3 : K ≤ 200) (h4 : F < 2 ^ C) :
    Calls Try.prog 32 #[.int .i64 C, .bool own, .int .i64 F, .int .i64 K] w fun e w' => e = .returned (.tuple #[.int .i64 (prw C own 0 F K : Nat), .bool true]) ∧ w = w' := by
  go_enter Try.func32, Try.ntmps32
  go_wp2_with (first | (go_at_call 70; refine (csWide_ok C _ _ h1 h2).mono ?_; rintro e w' ⟨rfl, rfl⟩; rw [HF.out]) | (go_at_call 71; refine (l1In_any _ _ _ _).mono ?_; rintro e w' ⟨rfl, rfl⟩; rw [HK.out]) | (go_at_call 72; refine (csBehind_any C F K own _ (by omega) h4 (by omega)).mono ?_; rintro e w' ⟨rfl, rfl⟩))
  go_ret2
  exact ⟨rfl, rfl⟩
theorem lawBehind (c : Int) (own : Bool) (f k : Int) (w : World) :
    Calls Try.prog 9 #[.int .i64 c, .bool own, .int .i64 f, .int .i64 k] w fun e w' => e = .returned (.bool true) ∧ Below w.heap.size w w' := by
  cases hc : inB c 1 8
  · have H := Lib.hid hc
    clear hc
    go_enter Try.func9, Try.ntmps9
    go_wp2_with (first | (go_at_call 32; refine (rbSpec_a _ _ _ _ _ H).mono ?_; rintro e w' ⟨rfl, rfl⟩) | (go_at_call 33; refine (rbImpl_a _ _ _ _ _ H).mono ?_; rintro e w' ⟨rfl, rfl⟩))
    go_ret
    exact ⟨rfl, Below.refl _ _⟩
  · obtain ⟨C, rfl, h1, h2⟩ := wide_nat hc
    clear hc
    cases hf : inB f 0 (2 ^ C - 1)
    · have HF := Lib.hid hf
      clear hf
      go_enter Try.func9, Try.ntmps9
      go_wp2_with (first | (go_at_call 32; refine (rbSpec_b _ _ _ _ _ h1 h2 HF).mono ?_; rintro e w' ⟨rfl, rfl⟩) | (go_at_call 33; refine (rbImpl_b _ _ _ _ _ h1 h2 HF).mono ?_; rintro e w' ⟨rfl, rfl⟩))
      go_ret
      exact ⟨rfl, Below.refl _ _⟩
    · obtain ⟨F, rfl, hF⟩ := row_nat hf
      have HF := Lib.hid hf
      clear hf
      cases hk : inB k 0 200
      · have HK := Lib.hid hk
        clear hk
        go_enter Try.func9, Try.ntmps9
        go_wp2_with (first | (go_at_call 32; refine (rbSpec_c _ _ _ _ _ h1 h2 HF HK).mono ?_; rintro e w' ⟨rfl, rfl⟩) | (go_at_call 33; refine (rbImpl_c _ _ _ _ _ h1 h2 HF HK).mono ?_; rintro e w' ⟨rfl, rfl⟩))
        go_ret
        exact ⟨rfl, Below.refl _ _⟩
      · obtain ⟨K, rfl, hK⟩ := num_nat hk
        have HK := Lib.hid hk
        clear hk
        have hK' : K ≤ 200 := by omega
        clear hK
        go_enter Try.func9, Try.ntmps9
        go_wp2_with (first | (go_at_call 32; refine (rbSpec_d _ _ _ _ _ h1 h2 HF HK hK' hF).mono ?_; rintro e w' ⟨rfl, rfl⟩) | (go_at_call 33; refine (rbImpl_d _ _ _ _ _ h1 h2 HF HK hK' hF).mono ?_; rintro e w' ⟨rfl, hb⟩))
        go_ret
        exact ⟨rfl, hb⟩
end Go.Proofs.Ytggcjmdadomlaaa
