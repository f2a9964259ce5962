import Derived.Test.YtmkdikoogbedkaaTH
namespace Go.Proofs.Ytmkdikoogbedkaa
open Go.RowKit
set_option maxHeartbeats 1000000
theorem ofInt_u64 (a : Nat) (ha : a < 18446744073709551616) : (BitVec.ofInt 64 (a : Int)).toNat = a := by
  rw [BitVec.ofInt_natCast, BitVec.toNat_ofNat]; exact Nat.mod_eq_of_lt (by omega)
theorem u64_and_nat (a b : Nat) (ha : a < 18446744073709551616) (hb : b < 18446744073709551616) : bits .and .u64 (a : Int) (b : Int) = ((a &&& b : Nat) : Int) := by
  have hx : a &&& b < 2 ^ 64 := Nat.and_lt_two_pow a (by omega)
  show IntKind.u64.wrap ((BitVec.ofInt 64 (a : Int) &&& BitVec.ofInt 64 (b : Int)).toNat : Int) = _
  rw [BitVec.toNat_and, ofInt_u64 a ha, ofInt_u64 b hb, IntKind.wrap_u64]
  omega
theorem u64_or_nat (a b : Nat) (ha : a < 18446744073709551616) (hb : b < 18446744073709551616) : bits .or .u64 (a : Int) (b : Int) = ((a ||| b : Nat) : Int) := by
  have hx : a ||| b < 2 ^ 64 := Nat.or_lt_two_pow (by omega) (by omega)
  show IntKind.u64.wrap ((BitVec.ofInt 64 (a : Int) ||| BitVec.ofInt 64 (b : Int)).toNat : Int) = _
  rw [BitVec.toNat_or, ofInt_u64 a ha, ofInt_u64 b hb, IntKind.wrap_u64]
  omega
theorem swp_u (s m x : Nat) (hx : x < 18446744073709551616) (hm : m < 18446744073709551616) (h : (x &&& m) <<< s < 18446744073709551616) :
    bits .or .u64 (bits .and .u64 ((x : Int) / ((2 ^ s : Nat) : Int)) (m : Int)) (IntKind.u64.wrap (bits .and .u64 (x : Int) (m : Int) * ((2 ^ s : Nat) : Int))) = ((swp s m x : Nat) : Int) := by
  have e1 : (x : Int) / ((2 ^ s : Nat) : Int) = ((x >>> s : Nat) : Int) := by rw [Nat.shiftRight_eq_div_pow]; omega
  have hd : x >>> s < 18446744073709551616 := by rw [Nat.shiftRight_eq_div_pow]; exact Nat.lt_of_le_of_lt (Nat.div_le_self _ _) hx
  have h2 : (((x &&& m : Nat) : Int) * ((2 ^ s : Nat) : Int)) = (((x &&& m) <<< s : Nat) : Int) := by rw [Nat.shiftLeft_eq, Int.natCast_mul]
  have h3 : x >>> s &&& m < 18446744073709551616 := Nat.and_lt_two_pow (n := 64) _ hm
  rw [e1, u64_and_nat _ _ hd hm, u64_and_nat _ _ hx hm, h2, IntKind.wrap_u64]
  unfold swp
  generalize (x &&& m) <<< s = v at h ⊢
  rw [show ((v : Nat) : Int) % 18446744073709551616 = (v : Int) by omega, u64_or_nat _ _ h3 h]
theorem m_shl (x m s : Nat) (t : Nat) (hm : m < 2 ^ t) (ht : t + s ≤ 64) : (x &&& m) <<< s < 18446744073709551616 :=
  Nat.lt_of_lt_of_le (shl_lt (and_lt_m hm)) (Nat.pow_le_pow_right (n := 2) (j := 64) (by decide) ht)
theorem swp_l (s m x t : Nat) (hm : m < 2 ^ t) (ht : t + s ≤ 64) : swp s m x < 18446744073709551616 :=
  swp_lt (Nat.lt_of_lt_of_le hm (Nat.pow_le_pow_right (by decide) (by omega))) (m_shl x m s t hm ht)
theorem rvb_any (x : Nat) (w : World) (hx : x < 18446744073709551616) :
    Calls Try.prog 93 #[.int .u64 x] w fun e w' => e = .returned (.int .u64 (rvb x : Nat)) ∧ w' = w := by
  have e1 := swp_u 8 m8 x hx (by decide) (m_shl x m8 8 56 (by decide) (by decide))
  have l1 := swp_l 8 m8 x 56 (by decide) (by decide)
  obtain ⟨X, hX⟩ : ∃ X, swp 8 m8 x = X := ⟨_, rfl⟩
  rw [hX] at e1 l1
  have e2 := swp_u 16 m16 X l1 (by decide) (m_shl X m16 16 48 (by decide) (by decide))
  have l2 := swp_l 16 m16 X 48 (by decide) (by decide)
  obtain ⟨Y, hY⟩ : ∃ Y, swp 16 m16 X = Y := ⟨_, rfl⟩
  rw [hY] at e2 l2
  have e3 : bits .or .u64 ((Y : Int) / 4294967296) (IntKind.u64.wrap ((Y : Int) * 4294967296)) = ((rvb x : Nat) : Int) := by
    have a1 : (Y : Int) / (4294967296 : Int) = ((Y / 4294967296 : Nat) : Int) := by omega
    have a2 : IntKind.u64.wrap ((Y : Int) * (4294967296 : Int)) = ((Y * 4294967296 % 18446744073709551616 : Nat) : Int) := by rw [IntKind.wrap_u64]; omega
    rw [a1, a2, u64_or_nat _ _ (by omega) (by omega)]
    unfold rvb
    rw [hX, hY, Nat.shiftRight_eq_div_pow, Nat.shiftLeft_eq]
  clear hX hY
  have f1 : bits .or .u64 (bits .and .u64 ((x : Int) / 256) 71777214294589695) (IntKind.u64.wrap (bits .and .u64 (x : Int) 71777214294589695 * 256)) = (X : Int) := e1
  have f2 : bits .or .u64 (bits .and .u64 ((X : Int) / 65536) 281470681808895) (IntKind.u64.wrap (bits .and .u64 (X : Int) 281470681808895 * 65536)) = (Y : Int) := e2
  clear e1 e2
  go_enter Try.func93, Try.ntmps93
  go_wp2
  go_ret
  refine ⟨?_, rfl⟩
  simp only [f1, f2, e3]
  rfl
theorem rev_any (x : Nat) (w : World) (hx : x < 18446744073709551616) :
    Calls Try.prog 66 #[.int .u64 x] w fun e w' => e = .returned (.int .u64 (rev x : Nat)) ∧ w' = w := by
  have e1 := swp_u 1 m1 x hx (by decide) (m_shl x m1 1 63 (by decide) (by decide))
  have l1 := swp_l 1 m1 x 63 (by decide) (by decide)
  obtain ⟨X, hX⟩ : ∃ X, swp 1 m1 x = X := ⟨_, rfl⟩
  rw [hX] at e1 l1
  have e2 := swp_u 2 m2 X l1 (by decide) (m_shl X m2 2 62 (by decide) (by decide))
  have l2 := swp_l 2 m2 X 62 (by decide) (by decide)
  obtain ⟨Y, hY⟩ : ∃ Y, swp 2 m2 X = Y := ⟨_, rfl⟩
  rw [hY] at e2 l2
  have e3 := swp_u 4 m4 Y l2 (by decide) (m_shl Y m4 4 60 (by decide) (by decide))
  have l3 := swp_l 4 m4 Y 60 (by decide) (by decide)
  obtain ⟨Z, hZ⟩ : ∃ Z, swp 4 m4 Y = Z := ⟨_, rfl⟩
  rw [hZ] at e3 l3
  have e4 : rev x = rvb Z := by unfold rev; rw [hX, hY, hZ]
  rw [e4]
  clear hX hY hZ e4
  have f1 : bits .or .u64 (bits .and .u64 ((x : Int) / 2) 6148914691236517205) (IntKind.u64.wrap (bits .and .u64 (x : Int) 6148914691236517205 * 2)) = (X : Int) := e1
  have f2 : bits .or .u64 (bits .and .u64 ((X : Int) / 4) 3689348814741910323) (IntKind.u64.wrap (bits .and .u64 (X : Int) 3689348814741910323 * 4)) = (Y : Int) := e2
  have f3 : bits .or .u64 (bits .and .u64 ((Y : Int) / 16) 1085102592571150095) (IntKind.u64.wrap (bits .and .u64 (Y : Int) 1085102592571150095 * 16)) = (Z : Int) := e3
  clear e1 e2 e3
  go_enter Try.func66, Try.ntmps66
  go_wp2_with (go_at_call 93; (try simp only [f1, f2, f3]); refine (rvb_any Z _ l3).mono ?_; rintro e w3 ⟨rfl, rfl⟩)
  go_ret
  exact ⟨rfl, rfl⟩
theorem rvSpec_no (p : Int) (w : World) (HA : Hid (inB p 0 2199023255551 = false)) :
    Calls Try.prog 24 #[.int .i64 p] w fun e w' => e = .returned (.tuple #[.int .i64 0, .bool false]) ∧ w' = w := by
  go_enter Try.func24, Try.ntmps24
  go_wp2_with (first | (go_at_call 55; refine (poGood_any _ _).mono ?_; rintro e w' ⟨rfl, rfl⟩; first | rw [HA.out]))
  go_ret2
  exact ⟨rfl, rfl⟩
theorem rvImpl_no (p : Int) (w : World) (HA : Hid (inB p 0 2199023255551 = false)) :
    Calls Try.prog 25 #[.int .i64 p] w fun e w' => e = .returned (.tuple #[.int .i64 0, .bool false]) ∧ w' = w := by
  go_enter Try.func25, Try.ntmps25
  go_wp2_with (first | (go_at_call 57; refine (isPoly_any _ _).mono ?_; rintro e w' ⟨rfl, rfl⟩; first | rw [HA.out]))
  go_ret2
  exact ⟨rfl, rfl⟩
theorem rvSpec_ok (p : Nat) (w : World) (hp : p < 2199023255552) (HA : Hid (inB p 0 2199023255551 = true)) :
    Calls Try.prog 24 #[.int .i64 p] w fun e w' => e = .returned (.tuple #[.int .i64 (rvp p (bl p) : Nat), .bool true]) ∧ w' = w := by
  have hb := bl_le (p := p) (n := 41) |>.2 (by omega)
  obtain ⟨b, hbe⟩ : ∃ b, bl p = b := ⟨_, rfl⟩
  have HY := hide (fun (n : Nat) (h : p.testBit (b - 1 - n) = true) => rvp_yes (p := p) (n := n) (by rw [hbe]; exact h))
  have HN := hide (fun (n : Nat) (h : p.testBit (b - 1 - n) = false) => rvp_no (p := p) (n := n) (by rw [hbe]; exact h))
  rw [hbe] at hb ⊢
  have HB := hide hbe
  clear hbe
  go_enter Try.func24, Try.ntmps24
  go_wp2_with (first | (go_at_call 55; refine (poGood_any _ _).mono ?_; rintro e w' ⟨rfl, rfl⟩; rw [HA.out]) | (go_at_call 56; refine (poDegree_any _ _ (by omega)).mono ?_; rintro e w3 ⟨rfl, rfl⟩; rw [HB.out]))
  go_loop [4, 5] (fun o k => ∃ (n j O : Nat), n + j = b ∧ o = .int .i64 O ∧ k = .int .i64 ((j : Int) - 1) ∧ O < 2199023255552 ∧ Hid (O = rvp p n)) (fun _ k => (intOf k + 1).toNat)
  case atStart => exact ⟨0, b, 0, by omega, rfl, rfl, by omega, hide rfl⟩
  case round =>
    obtain ⟨n, j, O, hn, rfl, rfl, hO, HI⟩ := hrel
    by_cases h0 : j = 0
    · subst h0
      have he : O = rvp p b := by rw [HI.out]; congr 1
      clear HI HY HN
      have HE := hide he
      clear he
      go_wp2
      go_ret2
      rw [HE.out]
      exact ⟨rfl, rfl⟩
    · obtain ⟨i, rfl⟩ : ∃ i, j = i + 1 := ⟨j - 1, by omega⟩
      have ei : ((i + 1 : Nat) : Int) - 1 = (i : Int) := by omega
      rw [ei]
      have ej : b - 1 - n = i := by omega
      have hy := HY.out n
      have hno := HN.out n
      rw [ej] at hy hno
      have hn41 : n < 41 := by omega
      cases hb2 : p.testBit i
      · have HN' : Hid (O = rvp p (n + 1)) := hide (by rw [hno hb2]; exact HI.out)
        have HT := hide hb2
        clear hy hno HI HY HN hb2 ei ej
        go_wp2_with (first | (go_at_call 56; refine (poDegree_any _ _ (by omega)).mono ?_; rintro e w3 ⟨rfl, rfl⟩; rw [HB.out]) | (go_at_call 65; refine (grIn_any p i (by omega) (by omega) _).mono ?_; rintro e w3 ⟨rfl, rfl⟩; rw [show (i : Int).toNat = i by omega, HT.out]))
        go_round
        case rel => exact ⟨n + 1, i, O, by omega, rfl, by go_num, hO, HN'⟩
        case measure => simp [intOf] <;> omega
      · have hk : 2 ^ n < 4398046511104 := p2_42 (by omega)
        have e4 := or_p O n (by omega) hk
        have hO2 : O ||| 2 ^ n < 2199023255552 := by
          rw [HI.out]
          rw [← hy hb2]
          exact Nat.lt_of_lt_of_le (rvp_lt p (n + 1)) (Nat.pow_le_pow_right (n := 2) (j := 41) (by decide) (by omega))
        have HN' : Hid (O ||| 2 ^ n = rvp p (n + 1)) := hide (by rw [hy hb2, ← HI.out])
        have HT := hide hb2
        have en : (b : Int) - 1 - (i : Int) = (n : Int) := by omega
        have ez : ((b : Int) - 1 - (i : Int)).toNat = n := by omega
        clear hy hno HI HY HN hb2 ei ej
        go_wp2_with (first | (go_at_call 56; refine (poDegree_any _ _ (by omega)).mono ?_; rintro e w3 ⟨rfl, rfl⟩; rw [HB.out]) | (go_at_call 65; refine (grIn_any p i (by omega) (by omega) _).mono ?_; rintro e w3 ⟨rfl, rfl⟩; rw [show (i : Int).toNat = i by omega, HT.out]))
        go_round
        case rel => exact ⟨n + 1, i, O ||| 2 ^ n, by omega, by go_num, by go_num, hO2, HN'⟩
        case measure => simp [intOf] <;> omega
theorem rvImpl_ok (p : Nat) (w : World) (hp : p < 2199023255552) (HA : Hid (inB p 0 2199023255551 = true)) :
    Calls Try.prog 25 #[.int .i64 p] w fun e w' => e = .returned (.tuple #[.int .i64 (rvp p (bl p) : Nat), .bool true]) ∧ w' = w := by
  have hb := bl_le (p := p) (n := 41) |>.2 (by omega)
  have hr := rev_rvp (p := p) (by omega)
  have hl : rvp p (bl p) < 2199023255552 := Nat.lt_of_lt_of_le (rvp_lt p _) (Nat.pow_le_pow_right (n := 2) (j := 41) (by decide) hb)
  obtain ⟨b, hbe⟩ : ∃ b, bl p = b := ⟨_, rfl⟩
  rw [hbe] at hb hr hl ⊢
  have HB := hide hbe
  obtain ⟨G, hG⟩ : ∃ G, rvp p b = G := ⟨_, rfl⟩
  obtain ⟨R, hR⟩ : ∃ R, rev p = R := ⟨_, rfl⟩
  rw [hG] at hr hl ⊢
  rw [hR] at hr
  have HR := hide hR
  have e1 : (R : Int) / 2 ^ (64 - b) = (G : Int) := by rw [← pow_nat, ← hr]; omega
  have ez : ((63 : Int) - ((b : Int) - 1)).toNat = 64 - b := by omega
  have hmn : min (64 - b) 64 = 64 - b := by omega
  clear hbe hG hR hr
  go_enter Try.func25, Try.ntmps25
  go_wp2_with (first | (go_at_call 57; refine (isPoly_any _ _).mono ?_; rintro e w' ⟨rfl, rfl⟩; rw [HA.out]) | (go_at_call 58; refine (degree_any _ _ (by omega)).mono ?_; rintro e w3 ⟨rfl, rfl⟩; rw [HB.out]) | (go_at_call 66; refine (rev_any p _ (by omega)).mono ?_; rintro e w3 ⟨rfl, rfl⟩; rw [HR.out]))
  go_ret2
  exact ⟨rfl, rfl⟩
theorem lawReversed_no (p : Int) (w : World) (HA : Hid (inB p 0 2199023255551 = false)) :
    Calls Try.prog 7 #[.int .i64 p] w fun e w' => e = .returned (.bool true) ∧ Below w.heap.size w w' := by
  go_enter Try.func7, Try.ntmps7
  go_wp2_with (first | (go_at_call 24; refine (rvSpec_no _ _ HA).mono ?_; rintro e w' ⟨rfl, rfl⟩) | (go_at_call 25; refine (rvImpl_no _ _ HA).mono ?_; rintro e w' ⟨rfl, rfl⟩))
  go_ret
  exact ⟨rfl, Below.refl _ _⟩
theorem lawReversed_ok (p : Nat) (w : World) (hp : p < 2199023255552) (HA : Hid (inB p 0 2199023255551 = true)) :
    Calls Try.prog 7 #[.int .i64 p] w fun e w' => e = .returned (.bool true) ∧ Below w.heap.size w w' := by
  go_enter Try.func7, Try.ntmps7
  go_wp2_with (first | (go_at_call 24; refine (rvSpec_ok _ _ hp HA).mono ?_; rintro e w' ⟨rfl, rfl⟩) | (go_at_call 25; refine (rvImpl_ok _ _ hp HA).mono ?_; rintro e w' ⟨rfl, rfl⟩))
  go_ret
  exact ⟨rfl, Below.refl _ _⟩
theorem lawReversed (p : Int) (w : World) : Calls Try.prog 7 #[.int .i64 p] w fun e w' => e = .returned (.bool true) ∧ Below w.heap.size w w' := by
  cases h : inB p 0 2199023255551
  · exact lawReversed_no p w (hide h)
  · obtain ⟨P, rfl, hP⟩ := poly_nat h
    exact lawReversed_ok P w hP (hide h)
end Go.Proofs.Ytmkdikoogbedkaa
