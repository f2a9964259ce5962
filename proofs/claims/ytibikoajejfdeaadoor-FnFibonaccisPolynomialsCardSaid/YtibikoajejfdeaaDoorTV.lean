import Derived.Test.YtibikoajejfdeaaDoorTU
namespace Go.Proofs.YtibikoajejfdeaaDoor
open Go.RowKit
set_option maxHeartbeats 1000000
theorem tmImpl_a (p q : Int) (w : World) (HA : Hid (inB p 0 2199023255551 = false)) :
    Calls Tryd.prog 11 #[.int .i64 p, .int .i64 q] w fun e w' => e = .returned (.tuple #[.int .i64 0, .bool false]) ∧ Below w.heap.size w w' := by
  go_enter Tryd.func11, Tryd.ntmps11
  go_wp2_with (first | (go_at_call 21; refine (isPoly_any _ _).mono ?_; rintro e w' ⟨rfl, hw⟩; subst w'; first | rw [HA.out]))
  go_ret2
  exact ⟨rfl, Below.refl _ _⟩
theorem tmImpl_b (p q : Int) (w : World) (HA : Hid (inB p 0 2199023255551 = true)) (HB : Hid (inB q 0 2199023255551 = false)) :
    Calls Tryd.prog 11 #[.int .i64 p, .int .i64 q] w fun e w' => e = .returned (.tuple #[.int .i64 0, .bool false]) ∧ Below w.heap.size w w' := by
  go_enter Tryd.func11, Tryd.ntmps11
  go_wp2_with (first | (go_at_call 21; refine (isPoly_any _ _).mono ?_; rintro e w' ⟨rfl, hw⟩; subst w'; first | rw [HA.out] | rw [HB.out]))
  go_ret2
  exact ⟨rfl, Below.refl _ _⟩
theorem tmImpl_c (p q a b : Nat) (w : World) (hp : p < 2199023255552) (hq : q < 2199023255552) (HA : Hid (inB p 0 2199023255551 = true)) (HB : Hid (inB q 0 2199023255551 = true)) (HP : Hid (bl p = a)) (HQ : Hid (bl q = b)) (h : 42 < a + b) :
    Calls Tryd.prog 11 #[.int .i64 p, .int .i64 q] w fun e w' => e = .returned (.tuple #[.int .i64 0, .bool false]) ∧ Below w.heap.size w w' := by
  have ha41 : a ≤ 41 := by rw [← HP.out]; exact bl_le.2 hp
  have hb41 : b ≤ 41 := by rw [← HQ.out]; exact bl_le.2 hq
  go_enter Tryd.func11, Tryd.ntmps11
  go_wp2_with (first | (go_at_call 21; refine (isPoly_any _ _).mono ?_; rintro e w' ⟨rfl, hw⟩; subst w'; first | rw [HA.out] | rw [HB.out]) | (go_at_call 23; refine (degree_any _ _ (by omega)).mono ?_; rintro e w' ⟨rfl, hw⟩; subst w'; first | rw [HP.out] | rw [HQ.out]))
  go_ret2
  exact ⟨rfl, Below.refl _ _⟩
theorem tmImpl_ok (p q a b : Nat) (w : World) (hp : p < 2199023255552) (hq : q < 2199023255552) (HA : Hid (inB p 0 2199023255551 = true)) (HB : Hid (inB q 0 2199023255551 = true)) (HP : Hid (bl p = a)) (HQ : Hid (bl q = b)) (h : a + b ≤ 42) (hT : Tab w) :
    Calls Tryd.prog 11 #[.int .i64 p, .int .i64 q] w fun e w' => e = .returned (.tuple #[.int .i64 (cm b p q : Nat), .bool true]) ∧ Below w.heap.size w w' := by
  have ha41 : a ≤ 41 := by rw [← HP.out]; exact bl_le.2 hp
  have hb41 : b ≤ 41 := by rw [← HQ.out]; exact bl_le.2 hq
  have HPa := hide (show p < 2 ^ a by rw [← HP.out]; exact lt_bl p)
  have HQb := hide (show q < 2 ^ b by rw [← HQ.out]; exact lt_bl q)
  obtain ⟨G, hG⟩ : ∃ G, cm b p q = G := ⟨_, rfl⟩
  rw [hG]
  have HG := hide hG
  clear hG
  have HS : Hid (∀ i, i < b → p * 2 ^ i < 4611686018427387904) := hide fun i hi => by
    have h1 : p * 2 ^ i < 2 ^ a * 2 ^ i := Nat.mul_lt_mul_of_pos_right HPa.out (Nat.two_pow_pos i)
    rw [← Nat.pow_add] at h1
    exact Nat.lt_of_lt_of_le h1 (Nat.pow_le_pow_right (n := 2) (j := 62) (by decide) (by omega))
  go_enter Tryd.func11, Tryd.ntmps11
  go_wp2_with (first | (go_at_call 21; refine (isPoly_any _ _).mono ?_; rintro e w' ⟨rfl, hw⟩; subst w'; first | rw [HA.out] | rw [HB.out]) | (go_at_call 23; refine (degree_any _ _ (by omega)).mono ?_; rintro e w' ⟨rfl, hw⟩; subst w'; first | rw [HP.out] | rw [HQ.out]) | (go_at_call 24; refine (product_any p q b _ HQb.out (by omega) HS.out hT).mono ?_; rintro e w' ⟨rfl, hb⟩; rw [HG.out]))
  go_ret2
  exact ⟨rfl, hb⟩
end Go.Proofs.YtibikoajejfdeaaDoor
