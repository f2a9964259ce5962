import Derived.Test.YtggcjmdadomlaaaRM
namespace Go.Proofs.Ytggcjmdadomlaaa
open Go.RowKit
set_option maxHeartbeats 2000000
theorem zero_in (C : Nat) : inB 0 0 (2 ^ C - 1) = true := by
  simp only [inB, decide_eq_true_eq]
  rw [← pow_nat]
  have := Nat.two_pow_pos C
  omega
theorem frSpec_a (r c l : Int) (own : Bool) (w : World) (H : Hid (sidesB r c 1 = false)) :
    Calls Try.prog 26 #[.int .i64 r, .int .i64 c, .bool own, .int .i64 l] w (NoRes w) := by
  go_enter Try.func26, Try.ntmps26
  go_wp2_with (first | (go_at_call 58; refine (csTask_no r c l 0 _ H.out).mono ?_; rintro e w' ⟨rfl, rfl⟩))
  go_ret2
  exact ⟨rfl, Below.refl _ _⟩
theorem frSpec_b (R C p : Nat) (l : Int) (own : Bool) (w : World) (hs : Sides R C) (HP : Hid (R * C = p)) (HT : Hid ((inB l 0 (2 ^ p - 1) && inB 0 0 (2 ^ C - 1)) = false)) :
    Calls Try.prog 26 #[.int .i64 R, .int .i64 C, .bool own, .int .i64 l] w (NoRes w) := by
  go_enter Try.func26, Try.ntmps26
  go_wp2_with (first | (go_at_call 58; refine (csTask_ok R C p l 0 _ hs HP.out).mono ?_; rintro e w' ⟨rfl, rfl⟩; rw [HT.out]))
  go_ret2
  exact ⟨rfl, Below.refl _ _⟩
theorem frSpec_c (R C p L : Nat) (own : Bool) (w : World) (hs : Sides R C) (HP : Hid (R * C = p)) (HT : Hid ((inB L 0 (2 ^ p - 1) && inB 0 0 (2 ^ C - 1)) = true)) (h8 : 8 < C) :
    Calls Try.prog 26 #[.int .i64 R, .int .i64 C, .bool own, .int .i64 L] w (NoRes w) := by
  go_enter Try.func26, Try.ntmps26
  go_wp2_with (first | (go_at_call 58; refine (csTask_ok R C p L 0 _ hs HP.out).mono ?_; rintro e w' ⟨rfl, rfl⟩; rw [HT.out]))
  go_ret2
  exact ⟨rfl, Below.refl _ _⟩
theorem frSpec_d (R C p L : Nat) (own : Bool) (w : World) (hs : Sides R C) (HP : Hid (R * C = p)) (HT : Hid ((inB L 0 (2 ^ p - 1) && inB 0 0 (2 ^ C - 1)) = true)) (h8 : C ≤ 8) (hl : L < 9223372036854775808) :
    Calls Try.prog 26 #[.int .i64 R, .int .i64 C, .bool own, .int .i64 L] w (ListOk w (fls C own L R (2 ^ C))) := by
  go_enter Try.func26, Try.ntmps26
  go_wp2_with (first | (go_at_call 58; refine (csTask_ok R C p L 0 _ hs HP.out).mono ?_; rintro e w' ⟨rfl, rfl⟩; rw [HT.out]) | (go_at_call 67; refine (csFirst_any R C L own _ hs hl).mono ?_; rintro e w2 ⟨A, d, m, rfl, hm, ho, hb⟩; have HM := Lib.hid hm; have HO := Lib.hid ho; have HB := Lib.hid hb; clear hm ho hb))
  go_ret2
  exact ⟨A, m, d, rfl, HM.out, HO.out, HB.out⟩
theorem frImpl_a (r c l : Int) (own : Bool) (w : World) (H : Hid (sidesB r c 1 = false)) :
    Calls Try.prog 27 #[.int .i64 r, .int .i64 c, .bool own, .int .i64 l] w (NoRes w) := by
  go_enter Try.func27, Try.ntmps27
  go_wp2_with fail
  refine (isOfGrid_no r c l own _ H.out).mono ?_
  rintro e w2 ⟨rfl, hb⟩
  have HB := Lib.hid ((by go_grown : Below w.heap.size w _).trans (hb.mono (by simp)))
  clear hb
  go_wp2
  go_ret2
  exact ⟨rfl, HB.out⟩
theorem frImpl_b (R C p : Nat) (l : Int) (own : Bool) (w : World) (hs : Sides R C) (HP : Hid (R * C = p)) (HT : Hid (inB l 0 (2 ^ p - 1) = false)) :
    Calls Try.prog 27 #[.int .i64 R, .int .i64 C, .bool own, .int .i64 l] w (NoRes w) := by
  go_enter Try.func27, Try.ntmps27
  go_wp2_with fail
  refine (isOfGrid_ok R C p l own _ hs HP.out).mono ?_
  rintro e w2 ⟨rfl, hb⟩
  rw [HT.out]
  have HB := Lib.hid ((by go_grown : Below w.heap.size w _).trans (hb.mono (by simp)))
  clear hb
  go_wp2
  go_ret2
  exact ⟨rfl, HB.out⟩
theorem frImpl_c (R C p L : Nat) (own : Bool) (w : World) (hs : Sides R C) (HP : Hid (R * C = p)) (HT : Hid (inB L 0 (2 ^ p - 1) = true)) (h8 : 8 < C) :
    Calls Try.prog 27 #[.int .i64 R, .int .i64 C, .bool own, .int .i64 L] w (NoRes w) := by
  go_enter Try.func27, Try.ntmps27
  go_wp2_with fail
  refine (isOfGrid_ok R C p L own _ hs HP.out).mono ?_
  rintro e w2 ⟨rfl, hb⟩
  rw [HT.out]
  have HB := Lib.hid ((by go_grown : Below w.heap.size w _).trans (hb.mono (by simp)))
  clear hb
  go_wp2
  go_ret2
  exact ⟨rfl, HB.out⟩
theorem frImpl_d (R C p L : Nat) (own : Bool) (w : World) (hs : Sides R C) (HP : Hid (R * C = p)) (HT : Hid (inB L 0 (2 ^ p - 1) = true)) (h8 : C ≤ 8) (hl : L < 9223372036854775808) :
    Calls Try.prog 27 #[.int .i64 R, .int .i64 C, .bool own, .int .i64 L] w (ListOk w (fls C own L R (2 ^ C))) := by
  obtain ⟨P, hP⟩ : ∃ P : Nat, 2 ^ C = P := ⟨_, rfl⟩
  have hW : RowKit.wrap64 (2 ^ C) = (P : Int) := by rw [wrap_one hs.2.2.2.1, hP]
  have hP2 : P ≤ 65536 := by rw [← hP]; exact pow16n hs.2.2.2.1
  have h16 := hs.2.1
  have HL := Lib.hid hl
  have HPP := Lib.hid hP
  rw [hP]
  clear hl hP
  go_enter Try.func27, Try.ntmps27
  go_wp2_with fail
  refine (isOfGrid_ok R C p L own _ hs HP.out).mono ?_
  rintro e w2 ⟨rfl, hb⟩
  rw [HT.out]
  have c1 : w2.cell? ⟨w.heap.size, 0, none⟩ = some (.int .i64 R) := (hb.cell (p := ⟨w.heap.size, 0, none⟩) (by simp)).trans (by simp [go_sem])
  have c2 : w2.cell? ⟨w.heap.size, 1, none⟩ = some (.int .i64 C) := (hb.cell (p := ⟨w.heap.size, 1, none⟩) (by simp)).trans (by simp [go_sem])
  have c3 : w2.cell? ⟨w.heap.size, 2, none⟩ = some (.bool own) := (hb.cell (p := ⟨w.heap.size, 2, none⟩) (by simp)).trans (by simp [go_sem])
  have c4 : w2.cell? ⟨w.heap.size, 3, none⟩ = some (.int .i64 L) := (hb.cell (p := ⟨w.heap.size, 3, none⟩) (by simp)).trans (by simp [go_sem])
  have HB := Lib.hid ((by go_grown : Below w.heap.size w _).trans (hb.mono (by simp)))
  clear hb
  have hz := HB.out.size
  have hbl : w.heap.size < w2.heap.size := World.block_lt_of_cell? w2 _ c1
  have KK : Hid (Box4 w2 w.heap.size (.int .i64 R) (.int .i64 C) (.bool own) (.int .i64 L)) := Lib.hid ⟨c1, c2, c3, c4⟩
  clear c1 c2 c3 c4
  go_wp2
  simp only [hW]
  clear hW
  go_loopw [11, 27] (fun v i wr => ∃ (k m : Nat) (A : Option Addr) (d : Nat), k ≤ P ∧ i = .int .i64 k ∧ v = .slice A m d ∧ Hid ((fls C own L R k).length = m) ∧ OL wr w2.heap.size (.slice A m d) (fls C own L R k) ∧ Below w2.heap.size w2 wr) (fun _ i _ => P - (intOf i).toNat)
  case atStart => exact ⟨0, 0, none, 0, by omega, rfl, rfl, Lib.hid rfl, OL.nil _ _, Below.refl _ _⟩
  case round =>
    obtain ⟨k, m, A, d, hk, rfl, rfl, HM, ho, hb⟩ := hrel
    have hsz := hb.size
    have HO := Lib.hid ho
    have HB2 := Lib.hid hb
    obtain ⟨c1, c2, c3, c4⟩ := KK.out.below hb
    clear ho hb
    by_cases hlt : k < P
    · have hF : k < 2 ^ C := by rw [HPP.out]; exact hlt
      have HF := Lib.hid hF
      clear hF
      have hm : m ≤ 65536 := by have h1 := fls_len C own L R k; rw [HM.out] at h1; omega
      by_cases hz : prw C own L k R = 0
      · have t := nat_eq0 hz
        have HS := Lib.hid (show fls C own L R (k + 1) = fls C own L R k ++ [k] by rw [fls_succ, if_pos hz])
        clear hz
        go_wp2_with (first | (go_at_call 62; refine (left_any R C L k own _ (by omega) HL.out (by omega) HF.out).mono ?_; rintro e w3 ⟨rfl, hb3⟩; have HO3 := Lib.hid (HO.out.all hb3); have hsz3 := hb3.size; have HB3 := Lib.hid (HB2.out.trans (hb3.mono hsz)); clear hb3) | (at_builtin; refine wpList_append_nat _ rfl _ _ rfl w2.heap.size A d m (fls C own L R k) k w3.heap.size rfl (HO3.out.alloc _) HM.out rfl (by simp [go_sem]) (by omega) (by simp; omega) ?_; intro A2 c2 w5 ho2 hb2; have HO2 := Lib.hid ho2; have HB2 := Lib.hid hb2; clear ho2 hb2))
        go_roundw
        case rel => exact ⟨k + 1, m + 1, A2, c2, by omega, by go_num, rfl, Lib.hid (by rw [HS.out, List.length_append, HM.out]; rfl), by rw [HS.out]; exact HO2.out, (HB3.out.alloc (by omega) _).trans HB2.out⟩
        case measure => simp [intOf]; omega
      · have t := nat_neq0 hz
        have HS := Lib.hid (show fls C own L R (k + 1) = fls C own L R k by rw [fls_succ, if_neg hz, List.append_nil])
        clear hz
        go_wp2_with (first | (go_at_call 62; refine (left_any R C L k own _ (by omega) HL.out (by omega) HF.out).mono ?_; rintro e w3 ⟨rfl, hb3⟩; have HO3 := Lib.hid (HO.out.all hb3); have hsz3 := hb3.size; have HB3 := Lib.hid (HB2.out.trans (hb3.mono hsz)); clear hb3))
        go_roundw
        case rel => exact ⟨k + 1, m, A, d, by omega, by go_num, rfl, Lib.hid (by rw [HS.out]; exact HM.out), by rw [HS.out]; exact HO3.out, HB3.out⟩
        case measure => simp [intOf]; omega
    · have hkn : k = P := by omega
      subst hkn
      go_wp2
      go_ret2
      exact ⟨A, m, d, rfl, HM.out, ⟨HO.out.1, by
        rcases HO.out.2 with h | ⟨g, cap, cur, h1, h2, h3⟩
        · exact .inl h
        · exact .inr ⟨g, cap, cur, h1, by omega, h3⟩⟩, HB.out.trans (HB2.out.mono (by omega))⟩
theorem lawFirst (r c : Int) (own : Bool) (l : Int) (w : World) :
    Calls Try.prog 6 #[.int .i64 r, .int .i64 c, .bool own, .int .i64 l] w fun e w' => e = .returned (.bool true) ∧ Below w.heap.size w w' := by
  cases hs : sidesB r c 1
  · exact gFirst_no r c own l w (Lib.hid fun w => frSpec_a r c l own w (Lib.hid hs)) (Lib.hid fun w => frImpl_a r c l own w (Lib.hid hs))
  · obtain ⟨R, C, rfl, rfl, hS⟩ := sides_nat hs
    obtain ⟨p, hp⟩ : ∃ p : Nat, R * C = p := ⟨_, rfl⟩
    cases ht : inB l 0 (2 ^ p - 1)
    · exact gFirst_no R C own l w (Lib.hid fun w => frSpec_b R C p l own w hS (Lib.hid hp) (Lib.hid (by rw [ht]; rfl))) (Lib.hid fun w => frImpl_b R C p l own w hS (Lib.hid hp) (Lib.hid ht))
    · have ht2 : (inB l 0 (2 ^ p - 1) && inB 0 0 (2 ^ C - 1)) = true := by rw [ht, zero_in]; rfl
      obtain ⟨L, F, rfl, _, hL, hl, _⟩ := task_nat hp hS.2.2.2.2 ht2
      by_cases h8 : 8 < C
      · exact gFirst_no R C own L w (Lib.hid fun w => frSpec_c R C p L own w hS (Lib.hid hp) (Lib.hid ht2) h8) (Lib.hid fun w => frImpl_c R C p L own w hS (Lib.hid hp) (Lib.hid ht) h8)
      · have hsp := fun w => frSpec_d R C p L own w hS (Lib.hid hp) (Lib.hid ht2) (by omega) hl
        have him := fun w => frImpl_d R C p L own w hS (Lib.hid hp) (Lib.hid ht) (by omega) hl
        have hlen := fls_len C own L R (2 ^ C)
        have h16 := pow16n hS.2.2.2.1
        by_cases h0 : (fls C own L R (2 ^ C)).length = 0
        · exact gFirst_nil R C own L w (Lib.hid fun w => (hsp w).mono fun e w' h => h.nil h0) (Lib.hid fun w => (him w).mono fun e w' h => h.nil h0)
        · exact gFirst_arr R C own L _ (ln (fls C own L R (2 ^ C))) (by omega) w (Lib.hid fun w => (hsp w).mono fun e w' h => h.arr rfl (by omega)) (Lib.hid fun w => (him w).mono fun e w' h => h.arr rfl (by omega))
end Go.Proofs.Ytggcjmdadomlaaa
