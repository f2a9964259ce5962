import Derived.Test.YtmkdikoogbedkaaTG
namespace Go.Proofs.Ytmkdikoogbedkaa
open Go.RowKit
set_option maxHeartbeats 1000000
theorem drSpec_no (p : Int) (w : World) (HA : Hid (inB p 0 2199023255551 = false)) :
    Calls Try.prog 26 #[.int .i64 p] w fun e w' => e = .returned (.tuple #[.int .i64 0, .bool false]) ∧ w' = w := by
  go_enter Try.func26, Try.ntmps26
  go_wp2_with (first | (go_at_call 55; refine (poGood_any _ _).mono ?_; rintro e w' ⟨rfl, rfl⟩; first | rw [HA.out]))
  go_ret2
  exact ⟨rfl, rfl⟩
theorem drImpl_no (p : Int) (w : World) (HA : Hid (inB p 0 2199023255551 = false)) :
    Calls Try.prog 27 #[.int .i64 p] w fun e w' => e = .returned (.tuple #[.int .i64 0, .bool false]) ∧ w' = w := by
  go_enter Try.func27, Try.ntmps27
  go_wp2_with (first | (go_at_call 57; refine (isPoly_any _ _).mono ?_; rintro e w' ⟨rfl, rfl⟩; first | rw [HA.out]))
  go_ret2
  exact ⟨rfl, rfl⟩
theorem drImpl_ok (p : Nat) (w : World) (hp : p < 2199023255552) (HA : Hid (inB p 0 2199023255551 = true)) :
    Calls Try.prog 27 #[.int .i64 p] w fun e w' => e = .returned (.tuple #[.int .i64 (drv p 20 : Nat), .bool true]) ∧ w' = w := by
  have hb := bl_le (p := p) (n := 41) |>.2 (by omega)
  have e1 : bits .and .i64 ((p : Int) / 2) 6148914691236517205 = ((drv p 20 : Nat) : Int) := by
    have e2 : (p : Int) / 2 = ((p / 2 : Nat) : Int) := by omega
    rw [e2, ← drv_end (n := 20) (by omega) (by omega)]
    exact i64_and_nat (p / 2) m1 (by omega) (by decide)
  generalize drv p 20 = G at e1 ⊢
  go_enter Try.func27, Try.ntmps27
  go_wp2_with (go_at_call 57; refine (isPoly_any _ _).mono ?_; rintro e w' ⟨rfl, rfl⟩; rw [HA.out])
  go_ret2
  exact ⟨rfl, rfl⟩
theorem drv_stop {p n m : Nat} (h : bl p ≤ 2 * n + 1) (hm : n ≤ m) (h64 : bl p ≤ 64) : drv p n = drv p m := by
  rw [← drv_end h h64, ← drv_end (n := m) (by omega) h64]
theorem drSpec_ok (p : Nat) (w : World) (hp : p < 2199023255552) (HA : Hid (inB p 0 2199023255551 = true)) :
    Calls Try.prog 26 #[.int .i64 p] w fun e w' => e = .returned (.tuple #[.int .i64 (drv p 20 : Nat), .bool true]) ∧ w' = w := by
  have hb := bl_le (p := p) (n := 41) |>.2 (by omega)
  obtain ⟨b, hbe⟩ : ∃ b, bl p = b := ⟨_, rfl⟩
  have HEnd := hide (fun (n : Nat) (h : b ≤ 2 * n + 1) (hm : n ≤ 20) => drv_stop (p := p) (n := n) (m := 20) (by omega) hm (by omega))
  obtain ⟨G, hG⟩ : ∃ G, drv p 20 = G := ⟨_, rfl⟩
  rw [hG] at HEnd
  rw [hG]
  clear hG
  rw [hbe] at hb
  have HB := hide hbe
  clear hbe
  go_enter Try.func26, Try.ntmps26
  go_wp2_with (first | (go_at_call 55; refine (poGood_any _ _).mono ?_; rintro e w' ⟨rfl, rfl⟩; rw [HA.out]) | (go_at_call 56; refine (poDegree_any _ _ (by omega)).mono ?_; rintro e w3 ⟨rfl, rfl⟩; rw [HB.out]))
  go_loop [4, 5] (fun o k => ∃ (n : Nat), n ≤ 20 ∧ o = .int .i64 (drv p n : Nat) ∧ k = .int .i64 (2 * (n : Int) + 1)) (fun _ k => (43 - intOf k).toNat)
  case atStart => exact ⟨0, by omega, rfl, rfl⟩
  case round =>
    obtain ⟨n, hn, rfl, rfl⟩ := hrel
    have hO : drv p n < 1099511627776 := Nat.lt_of_lt_of_le (drv_lt p n) (Nat.pow_le_pow_right (n := 2) (j := 40) (by decide) (by omega))
    by_cases h0 : b ≤ 2 * n + 1
    · have he := HEnd.out n h0 hn
      rw [he]
      clear he hO HEnd
      go_wp2_with (go_at_call 56; refine (poDegree_any _ _ (by omega)).mono ?_; rintro e w3 ⟨rfl, rfl⟩; rw [HB.out])
      go_ret2
      exact ⟨rfl, rfl⟩
    · have hk : 2 ^ (2 * n) < 4398046511104 := p2_42 (by omega)
      have hti : (2 * (n : Int) + 1).toNat = 2 * n + 1 := by omega
      have hti2 : (2 * (n : Int)).toNat = 2 * n := by omega
      have hti3 : (2 * (n : Int) + 1 - 1).toNat = 2 * n := by omega
      have hn19 : n < 20 := by omega
      cases hb2 : p.testBit (2 * n + 1)
      · have e1 := drv_no hb2
        have HT := hide hb2
        have E1 := hide e1
        clear e1 hb2 HEnd
        go_wp2_with (first | (go_at_call 56; refine (poDegree_any _ _ (by omega)).mono ?_; rintro e w3 ⟨rfl, rfl⟩; rw [HB.out]) | (go_at_call 65; refine (grIn_any p _ (by omega) (by omega) _).mono ?_; rintro e w3 ⟨rfl, rfl⟩; rw [hti, HT.out]))
        go_round
        case rel => exact ⟨n + 1, by omega, by rw [E1.out], by go_num⟩
        case measure => simp [intOf] <;> omega
      · have e1 := drv_yes hb2
        have e4 := or_p (drv p n) (2 * n) (by omega) hk
        rw [← e1] at e4
        have HT := hide hb2
        have E1 := hide e1
        clear e1 hb2 HEnd
        go_wp2_with (first | (go_at_call 56; refine (poDegree_any _ _ (by omega)).mono ?_; rintro e w3 ⟨rfl, rfl⟩; rw [HB.out]) | (go_at_call 65; refine (grIn_any p _ (by omega) (by omega) _).mono ?_; rintro e w3 ⟨rfl, rfl⟩; rw [hti, HT.out]))
        go_round
        case rel => exact ⟨n + 1, by omega, by go_num, by go_num⟩
        case measure => simp [intOf] <;> omega
theorem lawDerivative_no (p : Int) (w : World) (HA : Hid (inB p 0 2199023255551 = false)) :
    Calls Try.prog 8 #[.int .i64 p] w fun e w' => e = .returned (.bool true) ∧ Below w.heap.size w w' := by
  go_enter Try.func8, Try.ntmps8
  go_wp2_with (first | (go_at_call 26; refine (drSpec_no _ _ HA).mono ?_; rintro e w' ⟨rfl, rfl⟩) | (go_at_call 27; refine (drImpl_no _ _ HA).mono ?_; rintro e w' ⟨rfl, rfl⟩))
  go_ret
  exact ⟨rfl, Below.refl _ _⟩
theorem lawDerivative_ok (p : Nat) (w : World) (hp : p < 2199023255552) (HA : Hid (inB p 0 2199023255551 = true)) :
    Calls Try.prog 8 #[.int .i64 p] w fun e w' => e = .returned (.bool true) ∧ Below w.heap.size w w' := by
  go_enter Try.func8, Try.ntmps8
  go_wp2_with (first | (go_at_call 26; refine (drSpec_ok _ _ hp HA).mono ?_; rintro e w' ⟨rfl, rfl⟩) | (go_at_call 27; refine (drImpl_ok _ _ hp HA).mono ?_; rintro e w' ⟨rfl, rfl⟩))
  go_ret
  exact ⟨rfl, Below.refl _ _⟩
theorem lawDerivative (p : Int) (w : World) : Calls Try.prog 8 #[.int .i64 p] w fun e w' => e = .returned (.bool true) ∧ Below w.heap.size w w' := by
  cases h : inB p 0 2199023255551
  · exact lawDerivative_no p w (hide h)
  · obtain ⟨P, rfl, hP⟩ := poly_nat h
    exact lawDerivative_ok P w hP (hide h)
end Go.Proofs.Ytmkdikoogbedkaa
