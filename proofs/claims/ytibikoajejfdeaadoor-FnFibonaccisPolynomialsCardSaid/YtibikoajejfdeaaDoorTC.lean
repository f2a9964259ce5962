import Derived.Test.YtibikoajejfdeaaDoorTB
namespace Go.Proofs.YtibikoajejfdeaaDoor
open Go.RowKit
set_option maxHeartbeats 1000000
theorem divided_any (p q : Nat) (w : World) (hp : p < 4398046511104) (hq : q < 4398046511104) (h0 : q ≠ 0) :
    Calls Tryd.prog 33 #[.int .i64 p, .int .i64 q] w fun e w' => e = .returned (.tuple #[.int .i64 (qu p q : Nat), .int .i64 (rm p q : Nat)]) ∧ w' = w := by
  obtain ⟨d, hd⟩ : ∃ d, bl q = d + 1 := ⟨bl q - 1, by have : bl q ≠ 0 := fun e => h0 (bl_eq_zero.1 e); omega⟩
  have hb42 := bl42 hp
  have hd42 := bl42 hq
  rw [hd] at hd42
  have hd' : ((bl q : Int) - 1) = (d : Int) := by rw [hd]; omega
  have HD := hide hd'
  have HQ := hide (show q < 2 ^ (d + 1) by rw [← hd]; exact lt_bl q)
  have HT := hide (show q.testBit d = true from bl_bit hd)
  have HE := hide (show dvk q d (bl p - d) 0 p = (qu p q, rm p q) by show _ = dv p q; unfold dv; rw [hd]; rfl)
  clear hd hd'
  go_enter Tryd.func33, Tryd.ntmps33
  go_wp2_with (go_at_call 23; refine (degree_any _ _ (by omega)).mono ?_; rintro e w3 ⟨rfl, rfl⟩; first | rw [HD.out] | skip)
  go_loop [0, 6, 7] (fun x o k => ∃ (P O : Nat), k = .int .i64 ((bl P : Int) - 1 - d) ∧ x = .int .i64 P ∧ o = .int .i64 O ∧ P < 4398046511104 ∧ O < 4398046511104 ∧ Hid (dvk q d (bl P - d) O P = (qu p q, rm p q))) (fun _ _ k => (intOf k + 1).toNat)
  case atStart => exact ⟨p, 0, rfl, rfl, rfl, hp, by omega, HE⟩
  case round =>
    obtain ⟨P, O, rfl, rfl, rfl, hP42, hO, HI⟩ := hrel
    have hbP := bl42 hP42
    by_cases hz : d < bl P
    · obtain ⟨k, hk⟩ : ∃ k : Nat, bl P = k + d + 1 := ⟨bl P - d - 1, by omega⟩
      have hP : P < 2 ^ (k + d + 1) := by rw [← hk]; exact lt_bl P
      have hb : P.testBit (k + d) = true := bl_bit hk
      have hi := HI.out
      rw [hk, show k + d + 1 - d = k + 1 by omega, dvk_yes hb] at hi
      have hz' : ((bl P : Int) - 1 - d) = (k : Int) := by rw [hk]; omega
      rw [hz']
      have hsh := sh_lt' (k := k) HQ.out
      have hsh42 : q * 2 ^ k < 4398046511104 := Nat.lt_of_lt_of_le hsh (pow42 (by omega))
      have hst := step_lt HQ.out HT.out hP hb
      obtain ⟨P2, hP2⟩ : ∃ P2, P ^^^ q * 2 ^ k = P2 := ⟨_, rfl⟩
      rw [hP2] at hst hi
      have hbl := bl_le.2 hst
      have HN : Hid (dvk q d (bl P2 - d) (O ||| 2 ^ k) P2 = (qu p q, rm p q)) := hide (by rw [← hi]; exact (dvk_skip (Nat.lt_of_lt_of_le (lt_bl P2) (Nat.pow_le_pow_right (by decide) (by omega))) (by omega)).symm)
      have hk2 := p2_42 (show k < 42 by omega)
      have e3 := xor_sh P q k hP42 hsh42
      have e4 := or_p O k hO hk2
      have hO2 := or42 hO hk2
      have hP242 : P2 < 4398046511104 := by rw [← hP2]; exact xor42 hP42 hsh42
      rw [hP2] at e3
      have hk41 : k < 42 := by omega
      clear hi hP hb HI hsh hst hP2 hk hz' hsh42 hk2
      go_wp2_with (go_at_call 23; refine (degree_any _ _ (by omega)).mono ?_; rintro e w3 ⟨rfl, rfl⟩; first | rw [HD.out] | skip)
      go_round
      case rel => exact ⟨P2, O ||| 2 ^ k, rfl, rfl, rfl, hP242, hO2, HN⟩
      case measure => simp [intOf] <;> omega
    · have hi := HI.out
      rw [show bl P - d = 0 by omega, dvk_zero] at hi
      injection hi with h1 h2
      have H1 := hide h1
      have H2 := hide h2
      have hneg : ((bl P : Int) - 1 - d) < 0 := by omega
      clear HI h1 h2
      go_wp2
      go_ret2
      refine ⟨?_, rfl⟩
      rw [← H1.out, ← H2.out]
      rfl
theorem remainder_any (p q : Nat) (w : World) (hp : p < 4398046511104) (hq : q < 4398046511104) (h0 : q ≠ 0) :
    Calls Tryd.prog 22 #[.int .i64 p, .int .i64 q] w fun e w' => e = .returned (.int .i64 (rm p q : Nat)) ∧ w' = w := by
  go_enter Tryd.func22, Tryd.ntmps22
  go_wp2_with (go_at_call 33; refine (divided_any _ _ _ hp hq h0).mono ?_; rintro e w3 ⟨rfl, rfl⟩)
  go_ret
  exact ⟨rfl, rfl⟩
theorem poRest_any (p q : Nat) (w : World) (hp : p < 4398046511104) (hq : q < 4398046511104) (h0 : q ≠ 0) :
    Calls Tryd.prog 32 #[.int .i64 p, .int .i64 q] w fun e w' => e = .returned (.int .i64 (rm p q : Nat)) ∧ w' = w := by
  go_enter Tryd.func32, Tryd.ntmps32
  go_wp2_with (go_at_call 43; refine (poDivide_any _ _ _ hp hq h0).mono ?_; rintro e w3 ⟨rfl, rfl⟩)
  go_ret
  exact ⟨rfl, rfl⟩
end Go.Proofs.YtibikoajejfdeaaDoor
