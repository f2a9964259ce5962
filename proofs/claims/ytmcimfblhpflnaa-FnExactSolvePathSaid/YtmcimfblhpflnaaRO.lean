import Derived.Test.YtmcimfblhpflnaaRN
namespace Go.Proofs.Ytmcimfblhpflnaa
open Go.RowKit
set_option maxHeartbeats 2000000
theorem fls_head {c : Nat} {own : Bool} {l R n : Nat} (h : 0 < (fls c own l R n).length) : (fls c own l R n).getD 0 0 < n := by
  rw [List.getD_eq_getElem?_getD, List.getElem?_eq_getElem h]
  exact fls_lt (List.getElem_mem h)
theorem scImpl_a (r c l : Int) (own : Bool) (w : World) (H : Hid (sidesB r c 1 = false)) :
    Calls Try.prog 39 #[.int .i64 r, .int .i64 c, .bool own, .int .i64 l] w fun e w' => e = .returned (.tuple #[.int .i64 0, .bool false]) ∧ Below w.heap.size w w' := by
  go_enter Try.func39, Try.ntmps39
  go_wp2_with (first | (go_at_call 41; refine (frImpl_a r c l own _ H).mono ?_; rintro e w' ⟨rfl, hb⟩))
  go_ret2
  exact ⟨rfl, hb⟩
theorem scImpl_b (R C p : Nat) (l : Int) (own : Bool) (w : World) (hs : Sides R C) (HP : Hid (R * C = p)) (HT : Hid (inB l 0 (2 ^ p - 1) = false)) :
    Calls Try.prog 39 #[.int .i64 R, .int .i64 C, .bool own, .int .i64 l] w fun e w' => e = .returned (.tuple #[.int .i64 0, .bool false]) ∧ Below w.heap.size w w' := by
  go_enter Try.func39, Try.ntmps39
  go_wp2_with (first | (go_at_call 41; refine (frImpl_b R C p l own _ hs HP HT).mono ?_; rintro e w' ⟨rfl, hb⟩))
  go_ret2
  exact ⟨rfl, hb⟩
theorem scImpl_c (R C p L : Nat) (own : Bool) (w : World) (hs : Sides R C) (HP : Hid (R * C = p)) (HT : Hid (inB L 0 (2 ^ p - 1) = true)) (h8 : 8 < C) :
    Calls Try.prog 39 #[.int .i64 R, .int .i64 C, .bool own, .int .i64 L] w fun e w' => e = .returned (.tuple #[.int .i64 0, .bool false]) ∧ Below w.heap.size w w' := by
  go_enter Try.func39, Try.ntmps39
  go_wp2_with (first | (go_at_call 41; refine (frImpl_c R C p L own _ hs HP HT h8).mono ?_; rintro e w' ⟨rfl, hb⟩))
  go_ret2
  exact ⟨rfl, hb⟩
theorem scImpl_d (R C p L : Nat) (own : Bool) (w : World) (hs : Sides R C) (HP : Hid (R * C = p)) (HT : Hid (inB L 0 (2 ^ p - 1) = true)) (h8 : C ≤ 8) (hl : L < 9223372036854775808) (H0 : Hid ((fls C own L R (2 ^ C)).length = 0)) :
    Calls Try.prog 39 #[.int .i64 R, .int .i64 C, .bool own, .int .i64 L] w fun e w' => e = .returned (.tuple #[.int .i64 0, .bool false]) ∧ Below w.heap.size w w' := by
  go_enter Try.func39, Try.ntmps39
  go_wp2_with (first | (go_at_call 41; refine (frImpl_d R C p L own _ hs HP HT h8 hl).mono ?_; rintro e w2 ⟨A, m, d, rfl, hm, ho, hb⟩; rw [H0.out] at hm; subst hm; have HB := Lib.hid hb; clear ho hb))
  go_ret2
  exact ⟨rfl, HB.out⟩
theorem scImpl_e (R C p L f0 : Nat) (own : Bool) (w : World) (hs : Sides R C) (HP : Hid (R * C = p)) (HT : Hid (inB L 0 (2 ^ p - 1) = true)) (HG : Hid (inB f0 0 (2 ^ C - 1) = true)) (h8 : C ≤ 8) (hl : L < 9223372036854775808) (H0 : Hid (0 < (fls C own L R (2 ^ C)).length ∧ (fls C own L R (2 ^ C)).getD 0 0 = f0)) (hf : f0 < 2 ^ C) :
    Calls Try.prog 39 #[.int .i64 R, .int .i64 C, .bool own, .int .i64 L] w fun e w' => e = .returned (.tuple #[.int .i64 (prs C own L f0 R : Nat), .bool true]) ∧ Below w.heap.size w w' := by
  have HF := Lib.hid hf
  clear hf
  go_enter Try.func39, Try.ntmps39
  go_wp2_with (first | (go_at_call 41; refine (frImpl_d R C p L own _ hs HP HT h8 hl).mono ?_; rintro e w2 ⟨A, m, d, rfl, hm, ho, hb⟩; have hm0 : 0 < m := (by rw [← hm]; exact H0.out.1); obtain ⟨b, hA, hBb, hbl, hmd, hdm, hcell⟩ := ho.read hm (k := 0) hm0; subst hA; rw [lv, H0.out.2] at hcell; have hm1 : ((m : Int) == 0) = false := nat_neq0 (by omega); have hmi : (0 : Int) < (m : Int) := (by omega); have HB := Lib.hid hb; clear ho hb hm hdm) | (go_at_call 42; refine (pressImpl_ok R C p L f0 own _ hs HP.out hl HF.out HT.out HG.out).mono ?_; rintro e w3 ⟨rfl, hb3⟩; have HB3 := Lib.hid (HB.out.trans (hb3.mono HB.out.size)); clear hb3))
  go_ret2
  exact ⟨rfl, HB3.out⟩
end Go.Proofs.Ytmcimfblhpflnaa
