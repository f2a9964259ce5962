import Derived.Test.YtmkdikoogbedkaaDoorTU
namespace Go.Proofs.YtmkdikoogbedkaaDoor
open Go.RowKit
set_option maxHeartbeats 1000000
theorem tmSpec_a (p q : Int) (w : World) (HA : Hid (inB p 0 2199023255551 = false)) :
    Calls Tryd.prog 6 #[.int .i64 p, .int .i64 q] w fun e w' => e = .returned (.tuple #[.int .i64 0, .bool false]) ∧ Below w.heap.size w w' := by
  go_enter Tryd.func6, Tryd.ntmps6
  go_wp2_with (first | (go_at_call 20; refine (poGood_any _ _).mono ?_; rintro e w' ⟨rfl, hw⟩; subst w'; first | rw [HA.out]))
  go_ret2
  exact ⟨rfl, Below.refl _ _⟩
theorem tmSpec_b (p q : Int) (w : World) (HA : Hid (inB p 0 2199023255551 = true)) (HB : Hid (inB q 0 2199023255551 = false)) :
    Calls Tryd.prog 6 #[.int .i64 p, .int .i64 q] w fun e w' => e = .returned (.tuple #[.int .i64 0, .bool false]) ∧ Below w.heap.size w w' := by
  go_enter Tryd.func6, Tryd.ntmps6
  go_wp2_with (first | (go_at_call 20; refine (poGood_any _ _).mono ?_; rintro e w' ⟨rfl, hw⟩; subst w'; first | rw [HA.out] | rw [HB.out]))
  go_ret2
  exact ⟨rfl, Below.refl _ _⟩
theorem tmImpl_a (p q : Int) (w : World) (HA : Hid (inB p 0 2199023255551 = false)) :
    Calls Tryd.prog 7 #[.int .i64 p, .int .i64 q] w fun e w' => e = .returned (.tuple #[.int .i64 0, .bool false]) ∧ Below w.heap.size w w' := by
  go_enter Tryd.func7, Tryd.ntmps7
  go_wp2_with (first | (go_at_call 23; refine (isPoly_any _ _).mono ?_; rintro e w' ⟨rfl, hw⟩; subst w'; first | rw [HA.out]))
  go_ret2
  exact ⟨rfl, Below.refl _ _⟩
theorem tmImpl_b (p q : Int) (w : World) (HA : Hid (inB p 0 2199023255551 = true)) (HB : Hid (inB q 0 2199023255551 = false)) :
    Calls Tryd.prog 7 #[.int .i64 p, .int .i64 q] w fun e w' => e = .returned (.tuple #[.int .i64 0, .bool false]) ∧ Below w.heap.size w w' := by
  go_enter Tryd.func7, Tryd.ntmps7
  go_wp2_with (first | (go_at_call 23; refine (isPoly_any _ _).mono ?_; rintro e w' ⟨rfl, hw⟩; subst w'; first | rw [HA.out] | rw [HB.out]))
  go_ret2
  exact ⟨rfl, Below.refl _ _⟩
theorem tmSpec_c (p q a b : Nat) (w : World) (hp : p < 2199023255552) (hq : q < 2199023255552) (HA : Hid (inB p 0 2199023255551 = true)) (HB : Hid (inB q 0 2199023255551 = true)) (HP : Hid (bl p = a)) (HQ : Hid (bl q = b)) (h : 42 < a + b) :
    Calls Tryd.prog 6 #[.int .i64 p, .int .i64 q] w fun e w' => e = .returned (.tuple #[.int .i64 0, .bool false]) ∧ Below w.heap.size w w' := by
  have ha41 : a ≤ 41 := by rw [← HP.out]; exact bl_le.2 hp
  have hb41 : b ≤ 41 := by rw [← HQ.out]; exact bl_le.2 hq
  go_enter Tryd.func6, Tryd.ntmps6
  go_wp2_with (first | (go_at_call 20; refine (poGood_any _ _).mono ?_; rintro e w' ⟨rfl, hw⟩; subst w'; first | rw [HA.out] | rw [HB.out]) | (go_at_call 21; refine (poDegree_any _ _ (by omega)).mono ?_; rintro e w' ⟨rfl, hw⟩; subst w'; first | rw [HP.out] | rw [HQ.out]))
  go_ret2
  exact ⟨rfl, Below.refl _ _⟩
theorem tmImpl_c (p q a b : Nat) (w : World) (hp : p < 2199023255552) (hq : q < 2199023255552) (HA : Hid (inB p 0 2199023255551 = true)) (HB : Hid (inB q 0 2199023255551 = true)) (HP : Hid (bl p = a)) (HQ : Hid (bl q = b)) (h : 42 < a + b) :
    Calls Tryd.prog 7 #[.int .i64 p, .int .i64 q] w fun e w' => e = .returned (.tuple #[.int .i64 0, .bool false]) ∧ Below w.heap.size w w' := by
  have ha41 : a ≤ 41 := by rw [← HP.out]; exact bl_le.2 hp
  have hb41 : b ≤ 41 := by rw [← HQ.out]; exact bl_le.2 hq
  go_enter Tryd.func7, Tryd.ntmps7
  go_wp2_with (first | (go_at_call 23; refine (isPoly_any _ _).mono ?_; rintro e w' ⟨rfl, hw⟩; subst w'; first | rw [HA.out] | rw [HB.out]) | (go_at_call 24; refine (degree_any _ _ (by omega)).mono ?_; rintro e w' ⟨rfl, hw⟩; subst w'; first | rw [HP.out] | rw [HQ.out]))
  go_ret2
  exact ⟨rfl, Below.refl _ _⟩
theorem tmSpec_ok (p q a b : Nat) (w : World) (hp : p < 2199023255552) (hq : q < 2199023255552) (HA : Hid (inB p 0 2199023255551 = true)) (HB : Hid (inB q 0 2199023255551 = true)) (HP : Hid (bl p = a)) (HQ : Hid (bl q = b)) (h : a + b ≤ 42) :
    Calls Tryd.prog 6 #[.int .i64 p, .int .i64 q] w fun e w' => e = .returned (.tuple #[.int .i64 (cm b p q : Nat), .bool true]) ∧ Below w.heap.size w w' := by
  have ha41 : a ≤ 41 := by rw [← HP.out]; exact bl_le.2 hp
  have hb41 : b ≤ 41 := by rw [← HQ.out]; exact bl_le.2 hq
  have HPa := hide (show p < 2 ^ a by rw [← HP.out]; exact lt_bl p)
  have HQb := hide (show q < 2 ^ b by rw [← HQ.out]; exact lt_bl q)
  obtain ⟨G, hG⟩ : ∃ G, cm b p q = G := ⟨_, rfl⟩
  rw [hG]
  have HG := hide hG
  clear hG
  go_enter Tryd.func6, Tryd.ntmps6
  go_wp2_with (first | (go_at_call 20; refine (poGood_any _ _).mono ?_; rintro e w' ⟨rfl, hw⟩; subst w'; first | rw [HA.out] | rw [HB.out]) | (go_at_call 21; refine (poDegree_any _ _ (by omega)).mono ?_; rintro e w' ⟨rfl, hw⟩; subst w'; first | rw [HP.out] | rw [HQ.out]) | (go_at_call 22; refine (poTimes_any p q b a _ HPa.out HQb.out (by omega)).mono ?_; rintro e w' ⟨rfl, hw⟩; subst w'; rw [HG.out]))
  go_ret2
  exact ⟨rfl, Below.refl _ _⟩
theorem tmImpl_ok (p q a b : Nat) (w : World) (hp : p < 2199023255552) (hq : q < 2199023255552) (HA : Hid (inB p 0 2199023255551 = true)) (HB : Hid (inB q 0 2199023255551 = true)) (HP : Hid (bl p = a)) (HQ : Hid (bl q = b)) (h : a + b ≤ 42) (hT : Tab w) :
    Calls Tryd.prog 7 #[.int .i64 p, .int .i64 q] w fun e w' => e = .returned (.tuple #[.int .i64 (cm b p q : Nat), .bool true]) ∧ Below w.heap.size w w' := by
  have ha41 : a ≤ 41 := by rw [← HP.out]; exact bl_le.2 hp
  have hb41 : b ≤ 41 := by rw [← HQ.out]; exact bl_le.2 hq
  have HPa := hide (show p < 2 ^ a by rw [← HP.out]; exact lt_bl p)
  have HQb := hide (show q < 2 ^ b by rw [← HQ.out]; exact lt_bl q)
  obtain ⟨G, hG⟩ : ∃ G, cm b p q = G := ⟨_, rfl⟩
  rw [hG]
  have HG := hide hG
  clear hG
  have HS : Hid (∀ i, i < b → p * 2 ^ i < 4611686018427387904) := hide fun i hi => by
    have h1 : p * 2 ^ i < 2 ^ a * 2 ^ i := Nat.mul_lt_mul_of_pos_right HPa.out (Nat.two_pow_pos i)
    rw [← Nat.pow_add] at h1
    exact Nat.lt_of_lt_of_le h1 (Nat.pow_le_pow_right (n := 2) (j := 62) (by decide) (by omega))
  go_enter Tryd.func7, Tryd.ntmps7
  go_wp2_with (first | (go_at_call 23; refine (isPoly_any _ _).mono ?_; rintro e w' ⟨rfl, hw⟩; subst w'; first | rw [HA.out] | rw [HB.out]) | (go_at_call 24; refine (degree_any _ _ (by omega)).mono ?_; rintro e w' ⟨rfl, hw⟩; subst w'; first | rw [HP.out] | rw [HQ.out]) | (go_at_call 25; refine (product_any p q b _ HQb.out (by omega) HS.out hT).mono ?_; rintro e w' ⟨rfl, hb⟩; rw [HG.out]))
  go_ret2
  exact ⟨rfl, hb⟩
theorem lawTimes_eq (p q : Int) (r : Int) (o : Bool) (w : World) (HSp : Hid (∀ w, Tab w → Calls Tryd.prog 6 #[.int .i64 p, .int .i64 q] w fun e w' => e = .returned (.tuple #[.int .i64 r, .bool o]) ∧ Below w.heap.size w w'))
    (HIm : Hid (∀ w, Tab w → Calls Tryd.prog 7 #[.int .i64 p, .int .i64 q] w fun e w' => e = .returned (.tuple #[.int .i64 r, .bool o]) ∧ Below w.heap.size w w')) (hT : Tab w) :
    Calls Tryd.prog 3 #[.int .i64 p, .int .i64 q] w fun e w' => e = .returned (.bool true) ∧ Below w.heap.size w w' := by
  have e1 : (o != o) = false := by simp
  have HT := hide hT
  clear hT
  go_enter Tryd.func3, Tryd.ntmps3
  go_wp2_with fail
  refine (HSp.out _ HT.out).mono ?_
  rintro e w1 ⟨rfl, hb1⟩
  have HB1 := hide hb1
  have HT1 := hide (HT.out.below hb1)
  clear hb1
  go_wp2_with fail
  refine (HIm.out _ HT1.out).mono ?_
  rintro e w2 ⟨rfl, hb2⟩
  have HB2 := hide (HB1.out.trans (hb2.mono HB1.out.size))
  clear hb2
  go_wp2
  go_ret
  exact ⟨rfl, HB2.out⟩
theorem lawTimes (p q : Int) (w : World) (hT : Tab w) : Calls Tryd.prog 3 #[.int .i64 p, .int .i64 q] w fun e w' => e = .returned (.bool true) ∧ Below w.heap.size w w' := by
  cases h : inB p 0 2199023255551
  · exact lawTimes_eq p q 0 false w (hide fun w _ => tmSpec_a p q w (hide h)) (hide fun w _ => tmImpl_a p q w (hide h)) hT
  · cases h2 : inB q 0 2199023255551
    · exact lawTimes_eq p q 0 false w (hide fun w _ => tmSpec_b p q w (hide h) (hide h2)) (hide fun w _ => tmImpl_b p q w (hide h) (hide h2)) hT
    · obtain ⟨P, rfl, hP⟩ := poly_nat h
      obtain ⟨Q, rfl, hQ⟩ := poly_nat h2
      by_cases hd : 42 < bl P + bl Q
      · exact lawTimes_eq _ _ 0 false w (hide fun w _ => tmSpec_c P Q _ _ w hP hQ (hide h) (hide h2) (hide rfl) (hide rfl) hd) (hide fun w _ => tmImpl_c P Q _ _ w hP hQ (hide h) (hide h2) (hide rfl) (hide rfl) hd) hT
      · exact lawTimes_eq _ _ (cm (bl Q) P Q : Nat) true w (hide fun w _ => tmSpec_ok P Q _ _ w hP hQ (hide h) (hide h2) (hide rfl) (hide rfl) (by omega)) (hide fun w hT => tmImpl_ok P Q _ _ w hP hQ (hide h) (hide h2) (hide rfl) (hide rfl) (by omega) hT) hT
end Go.Proofs.YtmkdikoogbedkaaDoor
