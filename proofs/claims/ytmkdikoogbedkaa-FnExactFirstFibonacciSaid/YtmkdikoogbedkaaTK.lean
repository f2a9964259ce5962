import Derived.Test.YtmkdikoogbedkaaTI
namespace Go.Proofs.Ytmkdikoogbedkaa
open Go.RowKit
set_option maxHeartbeats 1000000
/-- r tells whether p, of b bits, is irreducible. -/
structure Irr (p b : Nat) (r : Bool) : Prop where
  is : (b < 2 ∧ r = false) ∨ (2 ≤ b ∧ lf p = p ∧ r = true) ∨ (2 ≤ b ∧ lf p ≠ p ∧ r = false)
/-- Does the degree lie there? -/
def dB (p : Nat) (lo hi : Int) : Bool := decide (lo ≤ (bl p : Int) - 1 ∧ (bl p : Int) - 1 ≤ hi)
theorem isPolyOf_no (lo hi p : Int) (w : World) (HA : Hid (inB p 0 2199023255551 = false)) :
    Calls Try.prog 68 #[.int .i64 lo, .int .i64 hi, .int .i64 p] w fun e w' => e = .returned (.bool false) ∧ w' = w := by
  go_enter Try.func68, Try.ntmps68
  go_wp2_with (go_at_call 57; refine (isPoly_any _ _).mono ?_; rintro e w' ⟨rfl, rfl⟩; rw [HA.out])
  go_ret
  exact ⟨rfl, rfl⟩
theorem isPolyOf_ok (lo hi : Int) (p : Nat) (w : World) (hp : p < 2199023255552) (HA : Hid (inB p 0 2199023255551 = true)) :
    Calls Try.prog 68 #[.int .i64 lo, .int .i64 hi, .int .i64 p] w fun e w' => e = .returned (.bool (dB p lo hi)) ∧ w' = w := by
  obtain ⟨d, hd⟩ : ∃ d, dB p lo hi = d := ⟨_, rfl⟩
  rw [hd]
  unfold dB at hd
  obtain ⟨b, hb⟩ : ∃ b, bl p = b := ⟨_, rfl⟩
  rw [hb] at hd
  have HB := hide hb
  clear hb
  rw [Bool.decide_and] at hd
  cases e1 : decide (lo ≤ (b : Int) - 1) <;> cases e2 : decide ((b : Int) - 1 ≤ hi)
  all_goals
    rw [e1, e2] at hd
    subst hd
    go_enter Try.func68, Try.ntmps68
    go_wp2_with (first | (go_at_call 57; refine (isPoly_any _ _).mono ?_; rintro e w' ⟨rfl, rfl⟩; rw [HA.out]) | (go_at_call 58; refine (degree_any _ _ (by omega)).mono ?_; rintro e w3 ⟨rfl, rfl⟩; rw [HB.out]))
    go_ret
    exact ⟨rfl, rfl⟩
theorem lf_more {p q n : Nat} (h : 2 ≤ q) (hn : q + n = 2097154) (hp : p < 2097152) (hc : 2 * (bl q - 1) ≤ bl p - 1) : q < 2048 ∧ 1 ≤ n := by
  have h1 : bl p ≤ 21 := bl_le.2 hp
  have h2 : q < 2 ^ 11 := bl_le.1 (by omega)
  have h3 : (2 : Nat) ^ 11 = 2048 := rfl
  omega
theorem poFirst_any (p : Nat) (w : World) (hp : p < 2097152) :
    Calls Try.prog 67 #[.int .i64 p] w fun e w' => e = .returned (.int .i64 (lf p : Nat)) ∧ w' = w := by
  have hb21 : bl p ≤ 21 := bl_le.2 hp
  obtain ⟨b, hb⟩ : ∃ b, bl p = b := ⟨_, rfl⟩
  rw [hb] at hb21
  obtain ⟨G, hG⟩ : ∃ G, lf p = G := ⟨_, rfl⟩
  rw [hG]
  have HG := hide hG
  have HB := hide hb
  clear hG hb
  go_enter Try.func67, Try.ntmps67
  go_wp2
  go_loop [3] (fun x => ∃ (Q : Nat), x = .int .i64 Q ∧ 2 ≤ Q ∧ Q ≤ 2048 ∧ Hid (∃ n, Q + n = 2097154 ∧ lff p n Q = G)) (fun x => (3000 - intOf x).toNat)
  case atStart => exact ⟨2, rfl, by omega, by omega, hide ⟨2097152, rfl, HG.out⟩⟩
  case round =>
    obtain ⟨Q, rfl, hQ, hQ2, HI⟩ := hrel
    have hc2 := bl_two hQ
    have hc12 : bl Q ≤ 12 := bl_le.2 (by have : (2 : Nat) ^ 12 = 4096 := rfl; omega)
    obtain ⟨c, hc⟩ : ∃ c, bl Q = c := ⟨_, rfl⟩
    rw [hc] at hc2 hc12
    obtain ⟨n, hn, hl⟩ := HI.out
    by_cases h0 : 2 * ((c : Int) - 1) ≤ (b : Int) - 1
    · have hle : 2 * (bl Q - 1) ≤ bl p - 1 := by rw [hc, HB.out]; omega
      obtain ⟨hQ3, hn1⟩ := lf_more hQ hn hp hle
      obtain ⟨m, rfl⟩ : ∃ m, n = m + 1 := ⟨n - 1, by omega⟩
      have hQ0 : Q ≠ 0 := by omega
      by_cases hr : rm p Q = 0
      · have he : Q = G := by rw [lff_hit hle hr] at hl; exact hl
        have HC := hide hc
        have HR := hide hr
        clear hc hr hl hle hn HI
        subst he
        go_wp2_with (first | (go_at_call 56; refine (poDegree_any _ _ (by omega)).mono ?_; rintro e w3 ⟨rfl, rfl⟩; first | rw [HC.out] | rw [HB.out]) | (go_at_call 71; refine (poRest_any _ _ _ (by omega) (by omega) hQ0).mono ?_; rintro e w3 ⟨rfl, rfl⟩; rw [HR.out]))
        go_ret
        exact ⟨rfl, rfl⟩
      · have hl2 : lff p m (Q + 1) = G := by rw [lff_next hle hr] at hl; exact hl
        have HN : Hid (∃ n, (Q + 1) + n = 2097154 ∧ lff p n (Q + 1) = G) := hide ⟨m, by omega, hl2⟩
        obtain ⟨R, hR⟩ : ∃ R, rm p Q = R := ⟨_, rfl⟩
        rw [hR] at hr
        have hr' : ((R : Int) == 0) = false := by simp; omega
        have HC := hide hc
        have HR := hide hR
        clear hc hl hle hn HI hl2 hR
        go_wp2_with (first | (go_at_call 56; refine (poDegree_any _ _ (by omega)).mono ?_; rintro e w3 ⟨rfl, rfl⟩; first | rw [HC.out] | rw [HB.out]) | (go_at_call 71; refine (poRest_any _ _ _ (by omega) (by omega) hQ0).mono ?_; rintro e w3 ⟨rfl, rfl⟩; rw [HR.out]))
        go_round
        case rel => exact ⟨Q + 1, by go_num, by omega, by omega, HN⟩
        case measure => simp [intOf] <;> omega
    · have he : p = G := by rw [lff_end (by rw [hc, HB.out]; omega)] at hl; exact hl
      have HC := hide hc
      clear hc hl hn HI HG
      subst he
      go_wp2_with (first | (go_at_call 56; refine (poDegree_any _ _ (by omega)).mono ?_; rintro e w3 ⟨rfl, rfl⟩; first | rw [HC.out] | rw [HB.out]))
      go_ret
      exact ⟨rfl, rfl⟩
theorem leastFactor_any (p : Nat) (w : World) (hp : p < 2097152) :
    Calls Try.prog 69 #[.int .i64 p] w fun e w' => e = .returned (.int .i64 (lf p : Nat)) ∧ w' = w := by
  have hb21 : bl p ≤ 21 := bl_le.2 hp
  obtain ⟨b, hb⟩ : ∃ b, bl p = b := ⟨_, rfl⟩
  rw [hb] at hb21
  obtain ⟨G, hG⟩ : ∃ G, lf p = G := ⟨_, rfl⟩
  rw [hG]
  have HG := hide hG
  have HB := hide hb
  clear hG hb
  go_enter Try.func69, Try.ntmps69
  go_wp2
  go_loop [3] (fun x => ∃ (Q : Nat), x = .int .i64 Q ∧ 2 ≤ Q ∧ Q ≤ 2048 ∧ Hid (∃ n, Q + n = 2097154 ∧ lff p n Q = G)) (fun x => (3000 - intOf x).toNat)
  case atStart => exact ⟨2, rfl, by omega, by omega, hide ⟨2097152, rfl, HG.out⟩⟩
  case round =>
    obtain ⟨Q, rfl, hQ, hQ2, HI⟩ := hrel
    have hc2 := bl_two hQ
    have hc12 : bl Q ≤ 12 := bl_le.2 (by have : (2 : Nat) ^ 12 = 4096 := rfl; omega)
    obtain ⟨c, hc⟩ : ∃ c, bl Q = c := ⟨_, rfl⟩
    rw [hc] at hc2 hc12
    obtain ⟨n, hn, hl⟩ := HI.out
    by_cases h0 : 2 * ((c : Int) - 1) ≤ (b : Int) - 1
    · have hle : 2 * (bl Q - 1) ≤ bl p - 1 := by rw [hc, HB.out]; omega
      obtain ⟨hQ3, hn1⟩ := lf_more hQ hn hp hle
      obtain ⟨m, rfl⟩ : ∃ m, n = m + 1 := ⟨n - 1, by omega⟩
      have hQ0 : Q ≠ 0 := by omega
      by_cases hr : rm p Q = 0
      · have he : Q = G := by rw [lff_hit hle hr] at hl; exact hl
        have HC := hide hc
        have HR := hide hr
        clear hc hr hl hle hn HI
        subst he
        go_wp2_with (first | (go_at_call 58; refine (degree_any _ _ (by omega)).mono ?_; rintro e w3 ⟨rfl, rfl⟩; first | rw [HC.out] | rw [HB.out]) | (go_at_call 62; refine (remainder_any _ _ _ (by omega) (by omega) hQ0).mono ?_; rintro e w3 ⟨rfl, rfl⟩; rw [HR.out]))
        go_ret
        exact ⟨rfl, rfl⟩
      · have hl2 : lff p m (Q + 1) = G := by rw [lff_next hle hr] at hl; exact hl
        have HN : Hid (∃ n, (Q + 1) + n = 2097154 ∧ lff p n (Q + 1) = G) := hide ⟨m, by omega, hl2⟩
        obtain ⟨R, hR⟩ : ∃ R, rm p Q = R := ⟨_, rfl⟩
        rw [hR] at hr
        have hr' : ((R : Int) == 0) = false := by simp; omega
        have HC := hide hc
        have HR := hide hR
        clear hc hl hle hn HI hl2 hR
        go_wp2_with (first | (go_at_call 58; refine (degree_any _ _ (by omega)).mono ?_; rintro e w3 ⟨rfl, rfl⟩; first | rw [HC.out] | rw [HB.out]) | (go_at_call 62; refine (remainder_any _ _ _ (by omega) (by omega) hQ0).mono ?_; rintro e w3 ⟨rfl, rfl⟩; rw [HR.out]))
        go_round
        case rel => exact ⟨Q + 1, by go_num, by omega, by omega, HN⟩
        case measure => simp [intOf] <;> omega
    · have he : p = G := by rw [lff_end (by rw [hc, HB.out]; omega)] at hl; exact hl
      have HC := hide hc
      clear hc hl hn HI HG
      subst he
      go_wp2_with (first | (go_at_call 58; refine (degree_any _ _ (by omega)).mono ?_; rintro e w3 ⟨rfl, rfl⟩; first | rw [HC.out] | rw [HB.out]))
      go_ret
      exact ⟨rfl, rfl⟩
theorem irSpec_no (p : Int) (w : World) (HA : Hid (inB p 0 2199023255551 = false)) :
    Calls Try.prog 28 #[.int .i64 p] w fun e w' => e = .returned (.tuple #[.bool false, .bool false]) ∧ w' = w := by
  go_enter Try.func28, Try.ntmps28
  go_wp2_with (first | (go_at_call 55; refine (poGood_any _ _).mono ?_; rintro e w' ⟨rfl, rfl⟩; first | rw [HA.out]))
  go_ret2
  exact ⟨rfl, rfl⟩
theorem irImpl_no (p : Int) (w : World) (HA : Hid (inB p 0 2199023255551 = false)) :
    Calls Try.prog 29 #[.int .i64 p] w fun e w' => e = .returned (.tuple #[.bool false, .bool false]) ∧ w' = w := by
  go_enter Try.func29, Try.ntmps29
  go_wp2_with (first | (go_at_call 68; refine (isPolyOf_no _ _ _ _ HA).mono ?_; rintro e w' ⟨rfl, rfl⟩))
  go_ret2
  exact ⟨rfl, rfl⟩
theorem irSpec_big (p b : Nat) (w : World) (hp : p < 2199023255552) (HA : Hid (inB p 0 2199023255551 = true)) (HB : Hid (bl p = b)) (h : 21 < b) :
    Calls Try.prog 28 #[.int .i64 p] w fun e w' => e = .returned (.tuple #[.bool false, .bool false]) ∧ w' = w := by
  go_enter Try.func28, Try.ntmps28
  go_wp2_with (first | (go_at_call 55; refine (poGood_any _ _).mono ?_; rintro e w' ⟨rfl, rfl⟩; first | rw [HA.out]) | (go_at_call 56; refine (poDegree_any _ _ (by omega)).mono ?_; rintro e w' ⟨rfl, rfl⟩; rw [HB.out]))
  go_ret2
  exact ⟨rfl, rfl⟩
theorem irImpl_big (p b : Nat) (w : World) (hp : p < 2199023255552) (HA : Hid (inB p 0 2199023255551 = true)) (HB : Hid (bl p = b)) (h : 21 < b) :
    Calls Try.prog 29 #[.int .i64 p] w fun e w' => e = .returned (.tuple #[.bool false, .bool false]) ∧ w' = w := by
  have HD : Hid (dB p (-1) 20 = false) := hide (by unfold dB; rw [HB.out, decide_eq_false_iff_not]; omega)
  go_enter Try.func29, Try.ntmps29
  go_wp2_with (first | (go_at_call 68; refine (isPolyOf_ok _ _ _ _ hp HA).mono ?_; rintro e w' ⟨rfl, rfl⟩; rw [HD.out]))
  go_ret2
  exact ⟨rfl, rfl⟩
theorem irSpec_ok (p b : Nat) (r : Bool) (w : World) (hp : p < 2097152) (HA : Hid (inB p 0 2199023255551 = true)) (HB : Hid (bl p = b)) (hb : b ≤ 21) (hr : Irr p b r) :
    Calls Try.prog 28 #[.int .i64 p] w fun e w' => e = .returned (.tuple #[.bool r, .bool true]) ∧ w' = w := by
  have HD : Hid (dB p (-1) 20 = true) := hide (by unfold dB; rw [HB.out, decide_eq_true_eq]; omega)
  rcases hr.is with ⟨h1, rfl⟩ | ⟨h1, h2, rfl⟩ | ⟨h1, h2, rfl⟩
  · go_enter Try.func28, Try.ntmps28
    go_wp2_with (first | (go_at_call 55; refine (poGood_any _ _).mono ?_; rintro e w' ⟨rfl, rfl⟩; first | rw [HA.out]) | (go_at_call 56; refine (poDegree_any _ _ (by omega)).mono ?_; rintro e w' ⟨rfl, rfl⟩; rw [HB.out]))
    go_ret2
    exact ⟨rfl, rfl⟩
  · have HL := hide h2
    clear h2
    go_enter Try.func28, Try.ntmps28
    go_wp2_with (first | (go_at_call 55; refine (poGood_any _ _).mono ?_; rintro e w' ⟨rfl, rfl⟩; first | rw [HA.out]) | (go_at_call 56; refine (poDegree_any _ _ (by omega)).mono ?_; rintro e w' ⟨rfl, rfl⟩; rw [HB.out]) | (go_at_call 67; refine (poFirst_any _ _ hp).mono ?_; rintro e w' ⟨rfl, rfl⟩; rw [HL.out]))
    go_ret2
    exact ⟨rfl, rfl⟩
  · obtain ⟨R, hR⟩ : ∃ R, lf p = R := ⟨_, rfl⟩
    rw [hR] at h2
    have h3 : ((R : Int) == (p : Int)) = false := by simp; omega
    have HL := hide hR
    clear hR
    go_enter Try.func28, Try.ntmps28
    go_wp2_with (first | (go_at_call 55; refine (poGood_any _ _).mono ?_; rintro e w' ⟨rfl, rfl⟩; first | rw [HA.out]) | (go_at_call 56; refine (poDegree_any _ _ (by omega)).mono ?_; rintro e w' ⟨rfl, rfl⟩; rw [HB.out]) | (go_at_call 67; refine (poFirst_any _ _ hp).mono ?_; rintro e w' ⟨rfl, rfl⟩; rw [HL.out]))
    go_ret2
    exact ⟨rfl, rfl⟩
theorem irImpl_ok (p b : Nat) (r : Bool) (w : World) (hp : p < 2097152) (HA : Hid (inB p 0 2199023255551 = true)) (HB : Hid (bl p = b)) (hb : b ≤ 21) (hr : Irr p b r) :
    Calls Try.prog 29 #[.int .i64 p] w fun e w' => e = .returned (.tuple #[.bool r, .bool true]) ∧ w' = w := by
  have HD : Hid (dB p (-1) 20 = true) := hide (by unfold dB; rw [HB.out, decide_eq_true_eq]; omega)
  rcases hr.is with ⟨h1, rfl⟩ | ⟨h1, h2, rfl⟩ | ⟨h1, h2, rfl⟩
  · go_enter Try.func29, Try.ntmps29
    go_wp2_with (first | (go_at_call 68; refine (isPolyOf_ok _ _ _ _ (by omega) HA).mono ?_; rintro e w' ⟨rfl, rfl⟩; rw [HD.out]) | (go_at_call 58; refine (degree_any _ _ (by omega)).mono ?_; rintro e w' ⟨rfl, rfl⟩; rw [HB.out]))
    go_ret2
    exact ⟨rfl, rfl⟩
  · have HL := hide h2
    clear h2
    go_enter Try.func29, Try.ntmps29
    go_wp2_with (first | (go_at_call 68; refine (isPolyOf_ok _ _ _ _ (by omega) HA).mono ?_; rintro e w' ⟨rfl, rfl⟩; rw [HD.out]) | (go_at_call 58; refine (degree_any _ _ (by omega)).mono ?_; rintro e w' ⟨rfl, rfl⟩; rw [HB.out]) | (go_at_call 69; refine (leastFactor_any _ _ hp).mono ?_; rintro e w' ⟨rfl, rfl⟩; rw [HL.out]))
    go_ret2
    exact ⟨rfl, rfl⟩
  · obtain ⟨R, hR⟩ : ∃ R, lf p = R := ⟨_, rfl⟩
    rw [hR] at h2
    have h3 : ((R : Int) == (p : Int)) = false := by simp; omega
    have HL := hide hR
    clear hR
    go_enter Try.func29, Try.ntmps29
    go_wp2_with (first | (go_at_call 68; refine (isPolyOf_ok _ _ _ _ (by omega) HA).mono ?_; rintro e w' ⟨rfl, rfl⟩; rw [HD.out]) | (go_at_call 58; refine (degree_any _ _ (by omega)).mono ?_; rintro e w' ⟨rfl, rfl⟩; rw [HB.out]) | (go_at_call 69; refine (leastFactor_any _ _ hp).mono ?_; rintro e w' ⟨rfl, rfl⟩; rw [HL.out]))
    go_ret2
    exact ⟨rfl, rfl⟩
theorem lawIrr_no (p : Int) (w : World) (HA : Hid (inB p 0 2199023255551 = false)) :
    Calls Try.prog 9 #[.int .i64 p] w fun e w' => e = .returned (.bool true) ∧ Below w.heap.size w w' := by
  go_enter Try.func9, Try.ntmps9
  go_wp2_with (first | (go_at_call 28; refine (irSpec_no _ _ HA).mono ?_; rintro e w' ⟨rfl, rfl⟩) | (go_at_call 29; refine (irImpl_no _ _ HA).mono ?_; rintro e w' ⟨rfl, rfl⟩))
  go_ret
  exact ⟨rfl, Below.refl _ _⟩
theorem lawIrr_big (p b : Nat) (w : World) (hp : p < 2199023255552) (HA : Hid (inB p 0 2199023255551 = true)) (HB : Hid (bl p = b)) (h : 21 < b) :
    Calls Try.prog 9 #[.int .i64 p] w fun e w' => e = .returned (.bool true) ∧ Below w.heap.size w w' := by
  go_enter Try.func9, Try.ntmps9
  go_wp2_with (first | (go_at_call 28; refine (irSpec_big _ _ _ hp HA HB h).mono ?_; rintro e w' ⟨rfl, rfl⟩) | (go_at_call 29; refine (irImpl_big _ _ _ hp HA HB h).mono ?_; rintro e w' ⟨rfl, rfl⟩))
  go_ret
  exact ⟨rfl, Below.refl _ _⟩
theorem lawIrr_true (p b : Nat) (w : World) (hp : p < 2097152) (HA : Hid (inB p 0 2199023255551 = true)) (HB : Hid (bl p = b)) (hb : b ≤ 21) (hr : Irr p b true) :
    Calls Try.prog 9 #[.int .i64 p] w fun e w' => e = .returned (.bool true) ∧ Below w.heap.size w w' := by
  go_enter Try.func9, Try.ntmps9
  go_wp2_with (first | (go_at_call 28; refine (irSpec_ok _ _ _ _ hp HA HB hb hr).mono ?_; rintro e w' ⟨rfl, rfl⟩) | (go_at_call 29; refine (irImpl_ok _ _ _ _ hp HA HB hb hr).mono ?_; rintro e w' ⟨rfl, rfl⟩))
  go_ret
  exact ⟨rfl, Below.refl _ _⟩
theorem lawIrr_false (p b : Nat) (w : World) (hp : p < 2097152) (HA : Hid (inB p 0 2199023255551 = true)) (HB : Hid (bl p = b)) (hb : b ≤ 21) (hr : Irr p b false) :
    Calls Try.prog 9 #[.int .i64 p] w fun e w' => e = .returned (.bool true) ∧ Below w.heap.size w w' := by
  go_enter Try.func9, Try.ntmps9
  go_wp2_with (first | (go_at_call 28; refine (irSpec_ok _ _ _ _ hp HA HB hb hr).mono ?_; rintro e w' ⟨rfl, rfl⟩) | (go_at_call 29; refine (irImpl_ok _ _ _ _ hp HA HB hb hr).mono ?_; rintro e w' ⟨rfl, rfl⟩))
  go_ret
  exact ⟨rfl, Below.refl _ _⟩
theorem lawIrreducible (p : Int) (w : World) : Calls Try.prog 9 #[.int .i64 p] w fun e w' => e = .returned (.bool true) ∧ Below w.heap.size w w' := by
  cases h : inB p 0 2199023255551
  · exact lawIrr_no p w (hide h)
  · obtain ⟨P, rfl, hP⟩ := poly_nat h
    obtain ⟨b, hb⟩ : ∃ b, bl P = b := ⟨_, rfl⟩
    by_cases hbig : 21 < b
    · exact lawIrr_big P b w hP (hide h) (hide hb) hbig
    · have h2 : P < 2 ^ 21 := bl_le.1 (by omega)
      by_cases h3 : 2 ≤ b
      · by_cases h4 : lf P = P
        · exact lawIrr_true P b w h2 (hide h) (hide hb) (by omega) ⟨.inr (.inl ⟨h3, h4, rfl⟩)⟩
        · exact lawIrr_false P b w h2 (hide h) (hide hb) (by omega) ⟨.inr (.inr ⟨h3, h4, rfl⟩)⟩
      · exact lawIrr_false P b w h2 (hide h) (hide hb) (by omega) ⟨.inl ⟨by omega, rfl⟩⟩
end Go.Proofs.Ytmkdikoogbedkaa
