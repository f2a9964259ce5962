import Derived.Test.YtggcjmdadomlaaaRN
namespace Go.Proofs.Ytggcjmdadomlaaa
open Go.RowKit
set_option maxHeartbeats 2000000
theorem fls_head {c : Nat} {own : Bool} {l R n : Nat} (h : 0 < (fls c own l R n).length) : (fls c own l R n).getD 0 0 < n := by
  rw [List.getD_eq_getElem?_getD, List.getElem?_eq_getElem h]
  exact fls_lt (List.getElem_mem h)
theorem scSpec_a (r c l : Int) (own : Bool) (w : World) (H : Hid (sidesB r c 1 = false)) :
    Calls Try.prog 28 #[.int .i64 r, .int .i64 c, .bool own, .int .i64 l] w fun e w' => e = .returned (.tuple #[.int .i64 0, .bool false]) ∧ Below w.heap.size w w' := by
  go_enter Try.func28, Try.ntmps28
  go_wp2_with (first | (go_at_call 58; refine (csTask_no r c l 0 _ H.out).mono ?_; rintro e w' ⟨rfl, rfl⟩))
  go_ret2
  exact ⟨rfl, Below.refl _ _⟩
theorem scSpec_b (R C p : Nat) (l : Int) (own : Bool) (w : World) (hs : Sides R C) (HP : Hid (R * C = p)) (HT : Hid ((inB l 0 (2 ^ p - 1) && inB 0 0 (2 ^ C - 1)) = false)) :
    Calls Try.prog 28 #[.int .i64 R, .int .i64 C, .bool own, .int .i64 l] w fun e w' => e = .returned (.tuple #[.int .i64 0, .bool false]) ∧ Below w.heap.size w w' := by
  go_enter Try.func28, Try.ntmps28
  go_wp2_with (first | (go_at_call 58; refine (csTask_ok R C p l 0 _ hs HP.out).mono ?_; rintro e w' ⟨rfl, rfl⟩; rw [HT.out]))
  go_ret2
  exact ⟨rfl, Below.refl _ _⟩
theorem scSpec_c (R C p L : Nat) (own : Bool) (w : World) (hs : Sides R C) (HP : Hid (R * C = p)) (HT : Hid ((inB L 0 (2 ^ p - 1) && inB 0 0 (2 ^ C - 1)) = true)) (h8 : 8 < C) :
    Calls Try.prog 28 #[.int .i64 R, .int .i64 C, .bool own, .int .i64 L] w fun e w' => e = .returned (.tuple #[.int .i64 0, .bool false]) ∧ Below w.heap.size w w' := by
  go_enter Try.func28, Try.ntmps28
  go_wp2_with (first | (go_at_call 58; refine (csTask_ok R C p L 0 _ hs HP.out).mono ?_; rintro e w' ⟨rfl, rfl⟩; rw [HT.out]))
  go_ret2
  exact ⟨rfl, Below.refl _ _⟩
theorem scSpec_d (R C p L : Nat) (own : Bool) (w : World) (hs : Sides R C) (HP : Hid (R * C = p)) (HT : Hid ((inB L 0 (2 ^ p - 1) && inB 0 0 (2 ^ C - 1)) = true)) (h8 : C ≤ 8) (hl : L < 9223372036854775808) (H0 : Hid ((fls C own L R (2 ^ C)).length = 0)) :
    Calls Try.prog 28 #[.int .i64 R, .int .i64 C, .bool own, .int .i64 L] w fun e w' => e = .returned (.tuple #[.int .i64 0, .bool false]) ∧ Below w.heap.size w w' := by
  go_enter Try.func28, Try.ntmps28
  go_wp2_with (first | (go_at_call 58; refine (csTask_ok R C p L 0 _ hs HP.out).mono ?_; rintro e w' ⟨rfl, rfl⟩; rw [HT.out]) | (go_at_call 67; refine (csFirst_any R C L own _ hs hl).mono ?_; rintro e w2 ⟨A, d, m, rfl, hm, ho, hb⟩; rw [H0.out] at hm; subst hm; have HB := Lib.hid hb; clear ho hb))
  go_ret2
  exact ⟨rfl, HB.out⟩
theorem scSpec_e (R C p L f0 : Nat) (own : Bool) (w : World) (hs : Sides R C) (HP : Hid (R * C = p)) (HT : Hid ((inB L 0 (2 ^ p - 1) && inB 0 0 (2 ^ C - 1)) = true)) (h8 : C ≤ 8) (hl : L < 9223372036854775808) (H0 : Hid (0 < (fls C own L R (2 ^ C)).length ∧ (fls C own L R (2 ^ C)).getD 0 0 = f0)) (hf : f0 < 2 ^ C) :
    Calls Try.prog 28 #[.int .i64 R, .int .i64 C, .bool own, .int .i64 L] w fun e w' => e = .returned (.tuple #[.int .i64 (prs C own L f0 R : Nat), .bool true]) ∧ Below w.heap.size w w' := by
  have HF := Lib.hid hf
  clear hf
  go_enter Try.func28, Try.ntmps28
  go_wp2_with (first | (go_at_call 58; refine (csTask_ok R C p L 0 _ hs HP.out).mono ?_; rintro e w' ⟨rfl, rfl⟩; rw [HT.out]) | (go_at_call 67; refine (csFirst_any R C L own _ hs hl).mono ?_; rintro e w2 ⟨A, d, m, rfl, hm, ho, hb⟩; have hm0 : 0 < m := (by rw [← hm]; exact H0.out.1); obtain ⟨b, hA, hBb, hbl, hmd, hdm, hcell⟩ := ho.read hm (k := 0) hm0; subst hA; rw [lv, H0.out.2] at hcell; have hm1 : ((m : Int) == 0) = false := nat_neq0 (by omega); have hmi : (0 : Int) < (m : Int) := (by omega); have HB := Lib.hid hb; clear ho hb hm hdm) | (go_at_call 59; refine (csChase_below R C L f0 own _ hs hl HF.out).mono ?_; rintro e w3 ⟨rfl, hb3⟩; have HB3 := Lib.hid (HB.out.trans (hb3.mono HB.out.size)); clear hb3))
  go_ret2
  exact ⟨rfl, HB3.out⟩
theorem scImpl_a (r c l : Int) (own : Bool) (w : World) (H : Hid (sidesB r c 1 = false)) :
    Calls Try.prog 29 #[.int .i64 r, .int .i64 c, .bool own, .int .i64 l] w fun e w' => e = .returned (.tuple #[.int .i64 0, .bool false]) ∧ Below w.heap.size w w' := by
  go_enter Try.func29, Try.ntmps29
  go_wp2_with (first | (go_at_call 27; refine (frImpl_a r c l own _ H).mono ?_; rintro e w' ⟨rfl, hb⟩))
  go_ret2
  exact ⟨rfl, hb⟩
theorem scImpl_b (R C p : Nat) (l : Int) (own : Bool) (w : World) (hs : Sides R C) (HP : Hid (R * C = p)) (HT : Hid (inB l 0 (2 ^ p - 1) = false)) :
    Calls Try.prog 29 #[.int .i64 R, .int .i64 C, .bool own, .int .i64 l] w fun e w' => e = .returned (.tuple #[.int .i64 0, .bool false]) ∧ Below w.heap.size w w' := by
  go_enter Try.func29, Try.ntmps29
  go_wp2_with (first | (go_at_call 27; refine (frImpl_b R C p l own _ hs HP HT).mono ?_; rintro e w' ⟨rfl, hb⟩))
  go_ret2
  exact ⟨rfl, hb⟩
theorem scImpl_c (R C p L : Nat) (own : Bool) (w : World) (hs : Sides R C) (HP : Hid (R * C = p)) (HT : Hid (inB L 0 (2 ^ p - 1) = true)) (h8 : 8 < C) :
    Calls Try.prog 29 #[.int .i64 R, .int .i64 C, .bool own, .int .i64 L] w fun e w' => e = .returned (.tuple #[.int .i64 0, .bool false]) ∧ Below w.heap.size w w' := by
  go_enter Try.func29, Try.ntmps29
  go_wp2_with (first | (go_at_call 27; refine (frImpl_c R C p L own _ hs HP HT h8).mono ?_; rintro e w' ⟨rfl, hb⟩))
  go_ret2
  exact ⟨rfl, hb⟩
theorem scImpl_d (R C p L : Nat) (own : Bool) (w : World) (hs : Sides R C) (HP : Hid (R * C = p)) (HT : Hid (inB L 0 (2 ^ p - 1) = true)) (h8 : C ≤ 8) (hl : L < 9223372036854775808) (H0 : Hid ((fls C own L R (2 ^ C)).length = 0)) :
    Calls Try.prog 29 #[.int .i64 R, .int .i64 C, .bool own, .int .i64 L] w fun e w' => e = .returned (.tuple #[.int .i64 0, .bool false]) ∧ Below w.heap.size w w' := by
  go_enter Try.func29, Try.ntmps29
  go_wp2_with (first | (go_at_call 27; refine (frImpl_d R C p L own _ hs HP HT h8 hl).mono ?_; rintro e w2 ⟨A, m, d, rfl, hm, ho, hb⟩; rw [H0.out] at hm; subst hm; have HB := Lib.hid hb; clear ho hb))
  go_ret2
  exact ⟨rfl, HB.out⟩
theorem scImpl_e (R C p L f0 : Nat) (own : Bool) (w : World) (hs : Sides R C) (HP : Hid (R * C = p)) (HT : Hid (inB L 0 (2 ^ p - 1) = true)) (HG : Hid (inB f0 0 (2 ^ C - 1) = true)) (h8 : C ≤ 8) (hl : L < 9223372036854775808) (H0 : Hid (0 < (fls C own L R (2 ^ C)).length ∧ (fls C own L R (2 ^ C)).getD 0 0 = f0)) (hf : f0 < 2 ^ C) :
    Calls Try.prog 29 #[.int .i64 R, .int .i64 C, .bool own, .int .i64 L] w fun e w' => e = .returned (.tuple #[.int .i64 (prs C own L f0 R : Nat), .bool true]) ∧ Below w.heap.size w w' := by
  have HF := Lib.hid hf
  clear hf
  go_enter Try.func29, Try.ntmps29
  go_wp2_with (first | (go_at_call 27; refine (frImpl_d R C p L own _ hs HP HT h8 hl).mono ?_; rintro e w2 ⟨A, m, d, rfl, hm, ho, hb⟩; have hm0 : 0 < m := (by rw [← hm]; exact H0.out.1); obtain ⟨b, hA, hBb, hbl, hmd, hdm, hcell⟩ := ho.read hm (k := 0) hm0; subst hA; rw [lv, H0.out.2] at hcell; have hm1 : ((m : Int) == 0) = false := nat_neq0 (by omega); have hmi : (0 : Int) < (m : Int) := (by omega); have HB := Lib.hid hb; clear ho hb hm hdm) | (go_at_call 18; refine (pressImpl_ok R C p L f0 own _ hs HP.out hl HF.out HT.out HG.out).mono ?_; rintro e w3 ⟨rfl, hb3⟩; have HB3 := Lib.hid (HB.out.trans (hb3.mono HB.out.size)); clear hb3))
  go_ret2
  exact ⟨rfl, HB3.out⟩
theorem lawSolveBy (r c : Int) (own : Bool) (l : Int) (w : World) :
    Calls Try.prog 7 #[.int .i64 r, .int .i64 c, .bool own, .int .i64 l] w fun e w' => e = .returned (.bool true) ∧ Below w.heap.size w w' := by
  cases hs : sidesB r c 1
  · have H := Lib.hid hs
    clear hs
    go_enter Try.func7, Try.ntmps7
    go_wp2_with (first | (go_at_call 28; refine (scSpec_a r c l own _ H).mono ?_; rintro e w2 ⟨rfl, hb2⟩) | (go_at_call 29; refine (scImpl_a r c l own _ H).mono ?_; rintro e w3 ⟨rfl, hb3⟩))
    go_ret
    exact ⟨rfl, hb2.trans (hb3.mono hb2.size)⟩
  · obtain ⟨R, C, rfl, rfl, hS⟩ := sides_nat hs
    obtain ⟨p, hp⟩ : ∃ p : Nat, R * C = p := ⟨_, rfl⟩
    clear hs
    cases ht : inB l 0 (2 ^ p - 1)
    · have HP := Lib.hid hp
      have H1 := Lib.hid ht
      have H2 := Lib.hid (show (inB l 0 (2 ^ p - 1) && inB 0 0 (2 ^ C - 1)) = false by rw [ht]; rfl)
      clear hp ht
      go_enter Try.func7, Try.ntmps7
      go_wp2_with (first | (go_at_call 28; refine (scSpec_b R C p l own _ hS HP H2).mono ?_; rintro e w2 ⟨rfl, hb2⟩) | (go_at_call 29; refine (scImpl_b R C p l own _ hS HP H1).mono ?_; rintro e w3 ⟨rfl, hb3⟩))
      go_ret
      exact ⟨rfl, hb2.trans (hb3.mono hb2.size)⟩
    · have ht2 : (inB l 0 (2 ^ p - 1) && inB 0 0 (2 ^ C - 1)) = true := by rw [ht, zero_in]; rfl
      obtain ⟨L, F, rfl, _, hL, hl, _⟩ := task_nat hp hS.2.2.2.2 ht2
      have HP := Lib.hid hp
      have H1 := Lib.hid ht
      have H2 := Lib.hid ht2
      clear hp ht ht2
      by_cases h8 : 8 < C
      · go_enter Try.func7, Try.ntmps7
        go_wp2_with (first | (go_at_call 28; refine (scSpec_c R C p L own _ hS HP H2 h8).mono ?_; rintro e w2 ⟨rfl, hb2⟩) | (go_at_call 29; refine (scImpl_c R C p L own _ hS HP H1 h8).mono ?_; rintro e w3 ⟨rfl, hb3⟩))
        go_ret
        exact ⟨rfl, hb2.trans (hb3.mono hb2.size)⟩
      · have h8' : C ≤ 8 := by omega
        clear h8
        by_cases h0 : (fls C own L R (2 ^ C)).length = 0
        · have H0 := Lib.hid h0
          clear h0
          go_enter Try.func7, Try.ntmps7
          go_wp2_with (first | (go_at_call 28; refine (scSpec_d R C p L own _ hS HP H2 h8' hl H0).mono ?_; rintro e w2 ⟨rfl, hb2⟩) | (go_at_call 29; refine (scImpl_d R C p L own _ hS HP H1 h8' hl H0).mono ?_; rintro e w3 ⟨rfl, hb3⟩))
          go_ret
          exact ⟨rfl, hb2.trans (hb3.mono hb2.size)⟩
        · have hpos : 0 < (fls C own L R (2 ^ C)).length := by omega
          have hf := fls_head hpos
          obtain ⟨f0, hf0⟩ : ∃ f0, (fls C own L R (2 ^ C)).getD 0 0 = f0 := ⟨_, rfl⟩
          rw [hf0] at hf
          have HG := Lib.hid (show inB (f0 : Int) 0 (2 ^ C - 1) = true by simp only [inB, decide_eq_true_eq]; rw [← pow_nat]; omega)
          have H0 := Lib.hid (show 0 < (fls C own L R (2 ^ C)).length ∧ (fls C own L R (2 ^ C)).getD 0 0 = f0 from ⟨hpos, hf0⟩)
          have HF := Lib.hid hf
          clear h0 hpos hf hf0
          go_enter Try.func7, Try.ntmps7
          go_wp2_with (first | (go_at_call 28; refine (scSpec_e R C p L f0 own _ hS HP H2 h8' hl H0 HF.out).mono ?_; rintro e w2 ⟨rfl, hb2⟩) | (go_at_call 29; refine (scImpl_e R C p L f0 own _ hS HP H1 HG h8' hl H0 HF.out).mono ?_; rintro e w3 ⟨rfl, hb3⟩))
          go_ret
          exact ⟨rfl, hb2.trans (hb3.mono hb2.size)⟩
end Go.Proofs.Ytggcjmdadomlaaa
