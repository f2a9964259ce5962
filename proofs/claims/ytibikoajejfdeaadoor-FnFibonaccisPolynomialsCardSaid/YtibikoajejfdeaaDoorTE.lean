import Derived.Test.YtibikoajejfdeaaDoorTC
namespace Go.Proofs.YtibikoajejfdeaaDoor
open Go.RowKit
set_option maxHeartbeats 1000000
theorem gcf_lt {n p q : Nat} (hp : p < 4398046511104) (hq : q < 4398046511104) : gcf n p q < 4398046511104 := by
  induction n generalizing p q with
  | zero => exact hp
  | succ n ih =>
    rw [gcf]
    split
    · exact hp
    · rename_i h; exact ih hq (Nat.lt_trans (rm_lt_self h) hq)
theorem gcImpl_a (p q : Int) (w : World) (HA : Hid (inB p 0 2199023255551 = false)) :
    Calls Tryd.prog 8 #[.int .i64 p, .int .i64 q] w fun e w' => e = .returned (.tuple #[.int .i64 0, .bool false]) ∧ w' = w := by
  go_enter Tryd.func8, Tryd.ntmps8
  go_wp2_with (first | (go_at_call 21; refine (isPoly_any _ _).mono ?_; rintro e w' ⟨rfl, rfl⟩; first | rw [HA.out]))
  go_ret2
  exact ⟨rfl, rfl⟩
theorem gcImpl_b (p q : Int) (w : World) (HA : Hid (inB p 0 2199023255551 = true)) (HB : Hid (inB q 0 2199023255551 = false)) :
    Calls Tryd.prog 8 #[.int .i64 p, .int .i64 q] w fun e w' => e = .returned (.tuple #[.int .i64 0, .bool false]) ∧ w' = w := by
  go_enter Tryd.func8, Tryd.ntmps8
  go_wp2_with (first | (go_at_call 21; refine (isPoly_any _ _).mono ?_; rintro e w' ⟨rfl, rfl⟩; first | rw [HA.out] | rw [HB.out]))
  go_ret2
  exact ⟨rfl, rfl⟩
theorem gcImpl_ok (p q : Nat) (w : World) (hp : p < 2199023255552) (hq : q < 2199023255552) (HA : Hid (inB p 0 2199023255551 = true)) (HB : Hid (inB q 0 2199023255551 = true)) :
    Calls Tryd.prog 8 #[.int .i64 p, .int .i64 q] w fun e w' => e = .returned (.tuple #[.int .i64 (gcf q p q : Nat), .bool true]) ∧ w' = w := by
  obtain ⟨G, hG⟩ : ∃ G, gcf q p q = G := ⟨_, rfl⟩
  have HG := hide hG
  rw [hG]
  clear hG
  go_enter Tryd.func8, Tryd.ntmps8
  go_wp2_with (go_at_call 21; refine (isPoly_any _ _).mono ?_; rintro e w' ⟨rfl, rfl⟩; first | rw [HA.out] | rw [HB.out])
  go_loop [0, 1] (fun x y => ∃ (P Q : Nat), x = .int .i64 P ∧ y = .int .i64 Q ∧ P < 4398046511104 ∧ Q < 4398046511104 ∧ Hid (∃ n, Q ≤ n ∧ gcf n P Q = G)) (fun _ y => (intOf y).toNat)
  case atStart => exact ⟨p, q, rfl, rfl, by omega, by omega, hide ⟨q, Nat.le_refl _, HG.out⟩⟩
  case round =>
    obtain ⟨P, Q, rfl, rfl, hP, hQ, HI⟩ := hrel
    by_cases h0 : Q = 0
    · subst h0
      have he : P = G := by obtain ⟨n, _, e⟩ := HI.out; rw [gcf_zero] at e; exact e
      subst he
      go_wp2
      go_ret2
      exact ⟨rfl, rfl⟩
    · have hne : ((Q : Int) == 0) = false := by simp; omega
      have hne' : ((Q : Int) != 0) = true := by simp; omega
      have hlt := rm_lt_self (p := P) h0
      have HN : Hid (∃ n, rm P Q ≤ n ∧ gcf n Q (rm P Q) = G) := hide (by
        obtain ⟨n, hn, e⟩ := HI.out
        obtain ⟨m, rfl⟩ : ∃ m, n = m + 1 := ⟨n - 1, by omega⟩
        rw [gcf_step h0] at e
        exact ⟨m, by omega, e⟩)
      obtain ⟨R, hR⟩ : ∃ R, rm P Q = R := ⟨_, rfl⟩
      rw [hR] at HN hlt
      have HR := hide hR
      clear hR HI
      go_wp2_with (go_at_call 22; refine (remainder_any _ _ _ hP hQ h0).mono ?_; rintro e w3 ⟨rfl, rfl⟩; rw [HR.out])
      go_round
      case rel => exact ⟨Q, R, rfl, rfl, hQ, by omega, HN⟩
      case measure => simp [intOf] <;> omega
end Go.Proofs.YtibikoajejfdeaaDoor
