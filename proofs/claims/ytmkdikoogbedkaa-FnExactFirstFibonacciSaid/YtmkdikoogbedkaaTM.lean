import Derived.Test.YtmkdikoogbedkaaTL
namespace Go.Proofs.Ytmkdikoogbedkaa
open Go.RowKit
set_option maxHeartbeats 2000000
theorem bl_one : bl 1 = 1 := rfl
theorem faSpec_no (p : Int) (w : World) (HA : Hid (inB p 0 2199023255551 = false)) : Calls Try.prog 30 #[.int .i64 p] w (NoRes w) := by
  go_enter Try.func30, Try.ntmps30
  go_wp2_with (first | (go_at_call 55; refine (poGood_any _ _).mono ?_; rintro e w' ⟨rfl, hw⟩; subst w'; rw [HA.out]))
  go_ret2
  exact ⟨rfl, Below.refl _ _⟩
theorem faImpl_no (p : Int) (w : World) (HA : Hid (inB p 0 2199023255551 = false)) : Calls Try.prog 31 #[.int .i64 p] w (NoRes w) := by
  go_enter Try.func31, Try.ntmps31
  go_wp2_with (first | (go_at_call 68; refine (isPolyOf_no _ _ _ _ HA).mono ?_; rintro e w' ⟨rfl, hw⟩; subst w'))
  go_ret2
  exact ⟨rfl, Below.refl _ _⟩
theorem faSpec_deg (p b : Nat) (w : World) (hp : p < 2199023255552) (HA : Hid (inB p 0 2199023255551 = true)) (HB : Hid (bl p = b)) (HD : Hid (inB ((b : Int) - 1) 0 20 = false)) : Calls Try.prog 30 #[.int .i64 p] w (NoRes w) := by
  go_enter Try.func30, Try.ntmps30
  go_wp2_with (first | (go_at_call 55; refine (poGood_any _ _).mono ?_; rintro e w' ⟨rfl, hw⟩; subst w'; rw [HA.out]) | (go_at_call 56; refine (poDegree_any _ _ (by omega)).mono ?_; rintro e w' ⟨rfl, hw⟩; subst w'; rw [HB.out]) | (go_at_call 70; refine (l1In_any _ _ _ _).mono ?_; rintro e w' ⟨rfl, hw⟩; subst w'; rw [HD.out]))
  go_ret2
  exact ⟨rfl, Below.refl _ _⟩
theorem faImpl_deg (p b : Nat) (w : World) (hp : p < 2199023255552) (HA : Hid (inB p 0 2199023255551 = true)) (HB : Hid (bl p = b)) (HD : Hid (inB ((b : Int) - 1) 0 20 = false)) : Calls Try.prog 31 #[.int .i64 p] w (NoRes w) := by
  have HE : Hid (dB p 0 20 = false) := hide (by rw [← HD.out, ← HB.out]; rfl)
  go_enter Try.func31, Try.ntmps31
  go_wp2_with (first | (go_at_call 68; refine (isPolyOf_ok _ _ _ _ hp HA).mono ?_; rintro e w' ⟨rfl, hw⟩; subst w'; rw [HE.out]))
  go_ret2
  exact ⟨rfl, Below.refl _ _⟩
theorem faSpec_ok (p b : Nat) (w : World) (hp : p < 2199023255552) (HA : Hid (inB p 0 2199023255551 = true)) (HB : Hid (bl p = b)) (HD : Hid (inB ((b : Int) - 1) 0 20 = true)) (h1 : 1 ≤ p) (hb21 : b ≤ 21) :
    Calls Try.prog 30 #[.int .i64 p] w (ListOk w (fcs 20 p)) := by
  have HE : Hid (dB p 0 20 = true) := hide (by rw [← HD.out, ← HB.out]; rfl)
  obtain ⟨G, hG⟩ : ∃ G, fcs 20 p = G := ⟨_, rfl⟩
  rw [hG]
  have HI0 : Hid (1 ≤ p ∧ bl p ≤ 20 + 1 ∧ [] ++ fcs 20 p = G) := hide ⟨h1, by rw [HB.out]; omega, by rw [List.nil_append, hG]⟩
  clear hG
  go_enter Try.func30, Try.ntmps30
  go_wp2_with (first | (go_at_call 55; refine (poGood_any _ _).mono ?_; rintro e w' ⟨rfl, hw⟩; subst w'; rw [HA.out]) | (go_at_call 56; refine (poDegree_any _ _ (by omega)).mono ?_; rintro e w' ⟨rfl, hw⟩; subst w'; rw [HB.out]) | (go_at_call 70; refine (l1In_any _ _ _ _).mono ?_; rintro e w' ⟨rfl, hw⟩; subst w'; rw [HD.out]))
  go_loopw [0, 4] (fun x v wr => ∃ (P n m d : Nat) (A : Option Addr) (L : List Nat), x = .int .i64 P ∧ v = .slice A m d ∧ m + n = 20 ∧ Hid (L.length = m) ∧ Hid (OL wr w.heap.size (.slice A m d) L) ∧ Hid (Below w.heap.size w wr) ∧ Hid (1 ≤ P ∧ bl P ≤ n + 1 ∧ L ++ fcs n P = G)) (fun x _ _ => (intOf x).toNat)
  case atStart => exact ⟨p, 20, 0, 0, none, [], rfl, rfl, by omega, hide rfl, hide (OL.nil _ _), hide (Below.refl _ _), HI0⟩
  case round =>
    obtain ⟨P, n, m, d, A, L, rfl, rfl, hmn, HM, HO, HBW, HI⟩ := hrel
    obtain ⟨hP1, hPn, hPL⟩ := HI.out
    have hsz := HBW.out.size
    have hP21 : P < 2097152 := bl_le.1 (show bl P ≤ 21 by omega)
    by_cases h0 : P = 1
    · subst h0
      have he : L = G := by rw [fcs_one, List.append_nil] at hPL; exact hPL
      clear hP1 hPn hPL HI
      go_wp2_with (go_at_call 56; refine (poDegree_any 1 _ (by omega)).mono ?_; rintro e w' ⟨rfl, hw⟩; subst w'; rw [bl_one])
      go_ret2
      exact ⟨A, m, d, rfl, by rw [← he]; exact HM.out, by rw [← he]; exact HO.out, HBW.out⟩
    · have hP2 : 2 ≤ P := by omega
      have hc2 := bl_two hP2
      obtain ⟨k, rfl⟩ : ∃ k, n = k + 1 := ⟨n - 1, by omega⟩
      obtain ⟨hq1, hq2⟩ := lf_qu hP2
      have hl2 := lf_ge hP2
      have hl21 : lf P < 2097152 := bl_le.1 (show bl (lf P) ≤ 21 from Nat.le_trans (lf_le hP2) (by omega))
      have hst := fcs_step (n := k) h0
      obtain ⟨c, hc⟩ : ∃ c, bl P = c := ⟨_, rfl⟩
      have HC := hide hc
      rw [hc] at hc2 hPn
      obtain ⟨Q, hQ⟩ : ∃ Q, lf P = Q := ⟨_, rfl⟩
      rw [hQ] at hq1 hq2 hl2 hl21 hst
      have HQ := hide hQ
      obtain ⟨R, hR⟩ : ∃ R, qu P Q = R := ⟨_, rfl⟩
      rw [hR] at hq1 hq2 hst
      have HR := hide hR
      have HN : Hid (1 ≤ R ∧ bl R ≤ k + 1 ∧ (L ++ [Q]) ++ fcs k R = G) := hide ⟨hq1, by omega, by rw [List.append_assoc, List.singleton_append, ← hst]; exact hPL⟩
      have HM2 : Hid ((L ++ [Q]).length = m + 1) := hide (by rw [List.length_append, HM.out]; rfl)
      have hRP : R < P := by
        rcases Nat.lt_or_ge R P with h | h
        · exact h
        · have := bl_mono h; omega
      have hQ0 : Q ≠ 0 := by omega
      have hne : ((P : Int) == 1) = false := by simp; omega
      have hne2 : ((P : Int) != 1) = true := by simp; omega
      clear hst hc hQ hR HI hPL hq1 hq2
      go_wp2_with (first | (go_at_call 56; refine (poDegree_any _ _ (by omega)).mono ?_; rintro e w' ⟨rfl, hw⟩; subst w'; rw [HC.out]) | (go_at_call 67; refine (poFirst_any _ _ hP21).mono ?_; rintro e w' ⟨rfl, hw⟩; subst w'; rw [HQ.out]) | (at_builtin; refine wpList_append_nat _ rfl _ _ rfl w.heap.size A d m L Q wr.heap.size rfl (HO.out.alloc _) HM.out rfl (by simp [go_sem]) (by omega) (by simp; omega) ?_; intro A2 c2 w5 ho2 hb2; have HO2 := hide ho2; have HB2 := hide hb2; clear ho2 hb2) | (go_at_call 59; refine (poDivide_any _ _ _ (by omega) (by omega) hQ0).mono ?_; rintro e w' ⟨rfl, hw⟩; subst w'; rw [HR.out]))
      go_roundw
      case rel => exact ⟨R, k, m + 1, c2, A2, L ++ [Q], rfl, rfl, by omega, HM2, HO2, hide ((HBW.out.alloc hsz _).trans HB2.out), HN⟩
      case measure => simp [intOf] <;> omega
theorem faImpl_ok (p b : Nat) (w : World) (hp : p < 2199023255552) (HA : Hid (inB p 0 2199023255551 = true)) (HB : Hid (bl p = b)) (HD : Hid (inB ((b : Int) - 1) 0 20 = true)) (h1 : 1 ≤ p) (hb21 : b ≤ 21) :
    Calls Try.prog 31 #[.int .i64 p] w (ListOk w (fcs 20 p)) := by
  have HE : Hid (dB p 0 20 = true) := hide (by rw [← HD.out, ← HB.out]; rfl)
  obtain ⟨G, hG⟩ : ∃ G, fcs 20 p = G := ⟨_, rfl⟩
  rw [hG]
  have HI0 : Hid (1 ≤ p ∧ bl p ≤ 20 + 1 ∧ [] ++ fcs 20 p = G) := hide ⟨h1, by rw [HB.out]; omega, by rw [List.nil_append, hG]⟩
  clear hG
  go_enter Try.func31, Try.ntmps31
  go_wp2_with (first | (go_at_call 68; refine (isPolyOf_ok _ _ _ _ hp HA).mono ?_; rintro e w' ⟨rfl, hw⟩; subst w'; rw [HE.out]))
  go_loopw [0, 4] (fun x v wr => ∃ (P n m d : Nat) (A : Option Addr) (L : List Nat), x = .int .i64 P ∧ v = .slice A m d ∧ m + n = 20 ∧ Hid (L.length = m) ∧ Hid (OL wr w.heap.size (.slice A m d) L) ∧ Hid (Below w.heap.size w wr) ∧ Hid (1 ≤ P ∧ bl P ≤ n + 1 ∧ L ++ fcs n P = G)) (fun x _ _ => (intOf x).toNat)
  case atStart => exact ⟨p, 20, 0, 0, none, [], rfl, rfl, by omega, hide rfl, hide (OL.nil _ _), hide (Below.refl _ _), HI0⟩
  case round =>
    obtain ⟨P, n, m, d, A, L, rfl, rfl, hmn, HM, HO, HBW, HI⟩ := hrel
    obtain ⟨hP1, hPn, hPL⟩ := HI.out
    have hsz := HBW.out.size
    have hP21 : P < 2097152 := bl_le.1 (show bl P ≤ 21 by omega)
    by_cases h0 : P = 1
    · subst h0
      have he : L = G := by rw [fcs_one, List.append_nil] at hPL; exact hPL
      clear hP1 hPn hPL HI
      go_wp2
      go_ret2
      exact ⟨A, m, d, rfl, by rw [← he]; exact HM.out, by rw [← he]; exact HO.out, HBW.out⟩
    · have hP2 : 2 ≤ P := by omega
      have hc2 := bl_two hP2
      obtain ⟨k, rfl⟩ : ∃ k, n = k + 1 := ⟨n - 1, by omega⟩
      obtain ⟨hq1, hq2⟩ := lf_qu hP2
      have hl2 := lf_ge hP2
      have hl21 : lf P < 2097152 := bl_le.1 (show bl (lf P) ≤ 21 from Nat.le_trans (lf_le hP2) (by omega))
      have hst := fcs_step (n := k) h0
      obtain ⟨c, hc⟩ : ∃ c, bl P = c := ⟨_, rfl⟩
      have HC := hide hc
      rw [hc] at hc2 hPn
      obtain ⟨Q, hQ⟩ : ∃ Q, lf P = Q := ⟨_, rfl⟩
      rw [hQ] at hq1 hq2 hl2 hl21 hst
      have HQ := hide hQ
      obtain ⟨R, hR⟩ : ∃ R, qu P Q = R := ⟨_, rfl⟩
      rw [hR] at hq1 hq2 hst
      have HR := hide hR
      have HN : Hid (1 ≤ R ∧ bl R ≤ k + 1 ∧ (L ++ [Q]) ++ fcs k R = G) := hide ⟨hq1, by omega, by rw [List.append_assoc, List.singleton_append, ← hst]; exact hPL⟩
      have HM2 : Hid ((L ++ [Q]).length = m + 1) := hide (by rw [List.length_append, HM.out]; rfl)
      have hRP : R < P := by
        rcases Nat.lt_or_ge R P with h | h
        · exact h
        · have := bl_mono h; omega
      have hQ0 : Q ≠ 0 := by omega
      have hne : ((P : Int) == 1) = false := by simp; omega
      have hne2 : ((P : Int) != 1) = true := by simp; omega
      clear hst hc hQ hR HI hPL hq1 hq2
      go_wp2_with (first | (go_at_call 69; refine (leastFactor_any _ _ hP21).mono ?_; rintro e w' ⟨rfl, hw⟩; subst w'; rw [HQ.out]) | (at_builtin; refine wpList_append_nat _ rfl _ _ rfl w.heap.size A d m L Q wr.heap.size rfl (HO.out.alloc _) HM.out rfl (by simp [go_sem]) (by omega) (by simp; omega) ?_; intro A2 c2 w5 ho2 hb2; have HO2 := hide ho2; have HB2 := hide hb2; clear ho2 hb2) | (go_at_call 60; refine (divided_any _ _ _ (by omega) (by omega) hQ0).mono ?_; rintro e w' ⟨rfl, hw⟩; subst w'; rw [HR.out]))
      go_roundw
      case rel => exact ⟨R, k, m + 1, c2, A2, L ++ [Q], rfl, rfl, by omega, HM2, HO2, hide ((HBW.out.alloc hsz _).trans HB2.out), HN⟩
      case measure => simp [intOf] <;> omega
theorem lawFactors (p : Int) (w : World) : Calls Try.prog 10 #[.int .i64 p] w fun e w' => e = .returned (.bool true) ∧ Below w.heap.size w w' := by
  cases h : inB p 0 2199023255551
  · exact gFactors_no p w (hide fun w => faSpec_no p w (hide h)) (hide fun w => faImpl_no p w (hide h))
  · obtain ⟨P, rfl, hP⟩ := poly_nat h
    obtain ⟨b, hb⟩ : ∃ b, bl P = b := ⟨_, rfl⟩
    cases hd : inB ((b : Int) - 1) 0 20
    · exact gFactors_no _ w (hide fun w => faSpec_deg P b w hP (hide h) (hide hb) (hide hd)) (hide fun w => faImpl_deg P b w hP (hide h) (hide hb) (hide hd))
    · have hb2 : 1 ≤ b ∧ b ≤ 21 := by simp only [inB, decide_eq_true_eq] at hd; omega
      have h1 : 1 ≤ P := by
        rcases Nat.eq_zero_or_pos P with h0 | h0
        · subst h0; rw [bl_zero] at hb; omega
        · exact h0
      have hl := fcs_len 20 P
      obtain ⟨m, hm⟩ : ∃ m, (fcs 20 P).length = m := ⟨_, rfl⟩
      rcases Nat.eq_zero_or_pos m with h0 | h0
      · subst h0
        exact gFactors_nil _ w (hide fun w => (faSpec_ok P b w hP (hide h) (hide hb) (hide hd) h1 hb2.2).mono fun _ _ h => h.nil hm) (hide fun w => (faImpl_ok P b w hP (hide h) (hide hb) (hide hd) h1 hb2.2).mono fun _ _ h => h.nil hm)
      · exact gFactors_arr _ m (ln (fcs 20 P)) (by omega) w (hide fun w => (faSpec_ok P b w hP (hide h) (hide hb) (hide hd) h1 hb2.2).mono fun _ _ h => h.arr hm h0) (hide fun w => (faImpl_ok P b w hP (hide h) (hide hb) (hide hd) h1 hb2.2).mono fun _ _ h => h.arr hm h0)
end Go.Proofs.Ytmkdikoogbedkaa
