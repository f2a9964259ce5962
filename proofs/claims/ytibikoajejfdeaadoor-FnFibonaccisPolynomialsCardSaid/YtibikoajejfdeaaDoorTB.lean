import Derived.Test.YtibikoajejfdeaaDoorTA
namespace Go.Proofs.YtibikoajejfdeaaDoor
open Go.RowKit
set_option maxHeartbeats 1000000
theorem pow42 {n : Nat} (h : n ≤ 42) : 2 ^ n ≤ 4398046511104 := by
  have h1 : 2 ^ n ≤ 2 ^ 42 := Nat.pow_le_pow_right (by decide) h
  exact h1
theorem bl42 {x : Nat} (h : x < 4398046511104) : bl x ≤ 42 := bl_le.2 h
theorem wrap_sh (q k : Nat) (h : q * 2 ^ k < 4398046511104) : RowKit.wrap64 ((q : Int) * 2 ^ k) = ((q * 2 ^ k : Nat) : Int) := by
  rw [← pow_nat, ← Int.natCast_mul]
  exact IntWalk.wrap64_in _ (by omega)
theorem wrap_p (k : Nat) (h : k < 42) : RowKit.wrap64 (2 ^ k) = ((2 ^ k : Nat) : Int) := by
  have h1 := pow42 (show k ≤ 42 by omega)
  rw [← pow_nat]
  generalize 2 ^ k = x at h1
  exact IntWalk.wrap64_in _ (by omega)
theorem p2_42 {k : Nat} (h : k < 42) : 2 ^ k < 4398046511104 := by
  have h1 : 2 ^ k < 2 ^ 42 := Nat.pow_lt_pow_right (by decide) h
  exact h1
theorem or42 {a b : Nat} (ha : a < 4398046511104) (hb : b < 4398046511104) : a ||| b < 4398046511104 := by
  have : a ||| b < 2 ^ 42 := Nat.or_lt_two_pow (by omega) (by omega)
  omega
theorem xor42 {a b : Nat} (ha : a < 4398046511104) (hb : b < 4398046511104) : a ^^^ b < 4398046511104 := by
  have : a ^^^ b < 2 ^ 42 := Nat.xor_lt_two_pow (by omega) (by omega)
  omega
theorem or_p (O k : Nat) (hO : O < 4398046511104) (hk : 2 ^ k < 4398046511104) : bits .or .i64 (O : Int) (RowKit.wrap64 (2 ^ k)) = ((O ||| 2 ^ k : Nat) : Int) := by
  rw [← pow_nat]
  generalize 2 ^ k = x at hk
  rw [IntWalk.wrap64_in _ (by omega)]; exact i64_or_nat _ _ (by omega) (by omega)
theorem xor_p (a b : Nat) (ha : a < 4398046511104) (hb : b < 4398046511104) : bits .xor .i64 (a : Int) (b : Int) = ((a ^^^ b : Nat) : Int) := i64_xor_nat _ _ (by omega) (by omega)
theorem xor_sh (a q k : Nat) (ha : a < 4398046511104) (h : q * 2 ^ k < 4398046511104) : bits .xor .i64 (a : Int) (RowKit.wrap64 ((q : Int) * 2 ^ k)) = ((a ^^^ q * 2 ^ k : Nat) : Int) := by
  rw [wrap_sh q k h]; exact xor_p a _ ha h
theorem poDivide_any (p q : Nat) (w : World) (hp : p < 4398046511104) (hq : q < 4398046511104) (h0 : q ≠ 0) :
    Calls Tryd.prog 43 #[.int .i64 p, .int .i64 q] w fun e w' => e = .returned (.tuple #[.int .i64 (qu p q : Nat), .int .i64 (rm p q : Nat)]) ∧ w' = w := by
  obtain ⟨b, hb⟩ : ∃ b, bl p = b := ⟨_, rfl⟩
  obtain ⟨d, hd⟩ : ∃ d, bl q = d + 1 := ⟨bl q - 1, by have : bl q ≠ 0 := fun e => h0 (bl_eq_zero.1 e); omega⟩
  have hb42 := bl42 hp
  have hd42 := bl42 hq
  rw [hb] at hb42
  rw [hd] at hd42
  have hd' : ((bl q : Int) - 1) = (d : Int) := by rw [hd]; omega
  have hb' : ((bl p : Int) - 1) = (b : Int) - 1 := by rw [hb]
  have HD := hide hd'
  have HBp := hide hb'
  have HQ := hide (show q < 2 ^ (d + 1) by rw [← hd]; exact lt_bl q)
  have HT := hide (show q.testBit d = true from bl_bit hd)
  have HE := hide (show dvk q d (b - d) 0 p = (qu p q, rm p q) by show _ = dv p q; unfold dv; rw [hb, hd]; rfl)
  have HP := hide (show p < 2 ^ (b - d + d) from Nat.lt_of_lt_of_le (lt_bl p) (Nat.pow_le_pow_right (by decide) (by omega)))
  clear hb hd hd' hb'
  go_enter Tryd.func43, Tryd.ntmps43
  go_wp2_with (go_at_call 31; refine (poDegree_any _ _ (by omega)).mono ?_; rintro e w3 ⟨rfl, rfl⟩; first | rw [HD.out] | rw [HBp.out])
  go_loop [0, 6, 7] (fun x o k => ∃ (z : Int) (P O : Nat), k = .int .i64 z ∧ x = .int .i64 P ∧ o = .int .i64 O ∧ -43 ≤ z ∧ z + d < 42 ∧ O < 4398046511104 ∧ Hid (P < 2 ^ ((z + 1).toNat + d) ∧ dvk q d (z + 1).toNat O P = (qu p q, rm p q))) (fun _ _ k => (intOf k + 1).toNat)
  case atStart => exact ⟨_, p, 0, rfl, rfl, rfl, by omega, by omega, by omega, hide (by rw [show ((b : Int) - 1 - d + 1).toNat = b - d by omega]; exact ⟨HP.out, HE.out⟩)⟩
  case round =>
    obtain ⟨z, P, O, rfl, rfl, rfl, hz1, hz2, hO, HI⟩ := hrel
    by_cases hz : 0 ≤ z
    · obtain ⟨k, rfl⟩ : ∃ k : Nat, z = k := ⟨z.toNat, by omega⟩
      have hi := HI.out
      rw [show ((k : Int) + 1).toNat = k + 1 by omega] at hi
      have hP : P < 2 ^ (k + d + 1) := by rw [show k + d + 1 = k + 1 + d by omega]; exact hi.1
      have hP42 : P < 4398046511104 := Nat.lt_of_lt_of_le hP (pow42 (by omega))
      cases hb : P.testBit (k + d)
      · have HN : Hid (P < 2 ^ (k + d) ∧ dvk q d k O P = (qu p q, rm p q)) := hide ⟨lt_of_no_bit hP hb, by rw [← dvk_no hb]; exact hi.2⟩
        have HB := hide hb
        clear hi hP hb HI
        go_wp2_with (first | (go_at_call 31; refine (poDegree_any _ _ (by omega)).mono ?_; rintro e w3 ⟨rfl, rfl⟩; rw [HD.out]) | (go_at_call 46; refine (grIn_any _ _ (by omega) (by omega) _).mono ?_; rintro e w3 ⟨rfl, rfl⟩; rw [show ((k : Int) + d).toNat = k + d by omega, HB.out]))
        go_round
        case rel => exact ⟨(k : Int) - 1, P, O, by go_num, rfl, rfl, by omega, by omega, hO, hide (by rw [show ((k : Int) - 1 + 1).toNat = k by omega]; exact HN.out)⟩
        case measure => simp [intOf] <;> omega
      · have hsh := sh_lt' (k := k) HQ.out
        have hsh42 : q * 2 ^ k < 4398046511104 := Nat.lt_of_lt_of_le hsh (pow42 (by omega))
        have HN : Hid (P ^^^ q * 2 ^ k < 2 ^ (k + d) ∧ dvk q d k (O ||| 2 ^ k) (P ^^^ q * 2 ^ k) = (qu p q, rm p q)) := hide ⟨step_lt HQ.out HT.out hP hb, by rw [← dvk_yes hb]; exact hi.2⟩
        have HB := hide hb
        have hk2 := p2_42 (show k < 42 by omega)
        have e3 := xor_sh P q k hP42 hsh42
        have e4 := or_p O k hO hk2
        have hO2 := or42 hO hk2
        clear hi hP hb HI hsh
        go_wp2_with (first | (go_at_call 31; refine (poDegree_any _ _ (by omega)).mono ?_; rintro e w3 ⟨rfl, rfl⟩; rw [HD.out]) | (go_at_call 46; refine (grIn_any _ _ (by omega) (by omega) _).mono ?_; rintro e w3 ⟨rfl, rfl⟩; rw [show ((k : Int) + d).toNat = k + d by omega, HB.out]))
        go_round
        case rel => exact ⟨(k : Int) - 1, P ^^^ q * 2 ^ k, O ||| 2 ^ k, by go_num, rfl, rfl, by omega, by omega, hO2, hide (by rw [show ((k : Int) - 1 + 1).toNat = k by omega]; exact HN.out)⟩
        case measure => simp [intOf] <;> omega
    · have hi := HI.out.2
      rw [show (z + 1).toNat = 0 by omega, dvk_zero] at hi
      injection hi with h1 h2
      have H1 := hide h1
      have H2 := hide h2
      clear HI h1 h2
      go_wp2
      go_ret2
      refine ⟨?_, rfl⟩
      rw [← H1.out, ← H2.out]
      rfl
end Go.Proofs.YtibikoajejfdeaaDoor
