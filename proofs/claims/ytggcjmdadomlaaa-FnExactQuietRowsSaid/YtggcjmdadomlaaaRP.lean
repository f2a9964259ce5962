import Derived.Test.YtggcjmdadomlaaaRL
namespace Go.Proofs.Ytggcjmdadomlaaa
open Go.RowKit
set_option maxHeartbeats 2000000
theorem swp {P : Program} {f : FuncId} {args : Array Value} {w : World} {v : Ending} (h : Calls P f args w fun e w' => e = v ∧ w' = w) : Calls P f args w fun e w' => e = v ∧ w = w' :=
  h.mono fun _ _ h => ⟨h.1, h.2.symm⟩
/-- The numbers below n, 0 apart, whose row is 0. -/
def qls (c : Nat) (own : Bool) (f n : Nat) : List Nat := (List.range n).filter (fun k => decide (1 ≤ k ∧ prw c own 0 f k = 0))
theorem qls_succ (c : Nat) (own : Bool) (f n : Nat) : qls c own f (n + 1) = qls c own f n ++ (if 1 ≤ n ∧ prw c own 0 f n = 0 then [n] else []) := by
  unfold qls
  rw [List.range_succ, List.filter_append]
  by_cases h : 1 ≤ n ∧ prw c own 0 f n = 0 <;> simp [h]
theorem qls_len (c : Nat) (own : Bool) (f n : Nat) : (qls c own f n).length ≤ n := by
  have h := List.length_filter_le (fun k => decide (1 ≤ k ∧ prw c own 0 f k = 0)) (List.range n)
  rw [List.length_range] at h
  exact h
theorem qrImpl_a (c : Int) (own : Bool) (f m : Int) (w : World) (H : Hid (inB c 1 8 = false)) :
    Calls Try.prog 37 #[.int .i64 c, .bool own, .int .i64 f, .int .i64 m] w (NoRes w) := by
  go_enter Try.func37, Try.ntmps37
  go_wp2_with (first | (go_at_call 73; refine (isRow_no _ _ _ H.out).mono ?_; rintro e w' ⟨rfl, rfl⟩))
  go_ret2
  exact ⟨rfl, Below.refl _ _⟩
theorem qrImpl_b (C : Nat) (own : Bool) (f m : Int) (w : World) (h1 : 1 ≤ C) (h2 : C ≤ 8) (HF : Hid (inB f 0 (2 ^ C - 1) = false)) :
    Calls Try.prog 37 #[.int .i64 C, .bool own, .int .i64 f, .int .i64 m] w (NoRes w) := by
  go_enter Try.func37, Try.ntmps37
  go_wp2_with (first | (go_at_call 73; refine (swp (isRow_ok C _ _ h1 h2)).mono ?_; rintro e w' ⟨rfl, rfl⟩; rw [HF.out]))
  go_ret2
  exact ⟨rfl, Below.refl _ _⟩
theorem qrImpl_c (C : Nat) (own : Bool) (m : Int) (w : World) (h1 : 1 ≤ C) (h2 : C ≤ 8) (HF : Hid (inB 0 0 (2 ^ C - 1) = true)) :
    Calls Try.prog 37 #[.int .i64 C, .bool own, .int .i64 0, .int .i64 m] w (NoRes w) := by
  go_enter Try.func37, Try.ntmps37
  go_wp2_with (first | (go_at_call 73; refine (swp (isRow_ok C _ _ h1 h2)).mono ?_; rintro e w' ⟨rfl, rfl⟩; rw [HF.out]))
  go_ret2
  exact ⟨rfl, Below.refl _ _⟩
theorem qrImpl_d (C F : Nat) (own : Bool) (m : Int) (w : World) (h1 : 1 ≤ C) (h2 : C ≤ 8) (HF : Hid (inB F 0 (2 ^ C - 1) = true)) (e0 : ((F : Int) == 0) = false) (HK : Hid (inB m 0 200 = false)) :
    Calls Try.prog 37 #[.int .i64 C, .bool own, .int .i64 F, .int .i64 m] w (NoRes w) := by
  go_enter Try.func37, Try.ntmps37
  go_wp2_with (first | (go_at_call 73; refine (swp (isRow_ok C _ _ h1 h2)).mono ?_; rintro e w' ⟨rfl, rfl⟩; rw [HF.out]) | (go_at_call 74; refine (swp (isRowNumber_any _ _)).mono ?_; rintro e w' ⟨rfl, rfl⟩; rw [HK.out]))
  go_ret2
  exact ⟨rfl, Below.refl _ _⟩
theorem qrSpec_a (c : Int) (own : Bool) (f m : Int) (w : World) (H : Hid (inB c 1 8 = false)) :
    Calls Try.prog 36 #[.int .i64 c, .bool own, .int .i64 f, .int .i64 m] w (NoRes w) := by
  go_enter Try.func36, Try.ntmps36
  go_wp2_with (first | (go_at_call 70; refine (csWide_no _ _ _ H.out).mono ?_; rintro e w' ⟨rfl, rfl⟩))
  go_ret2
  exact ⟨rfl, Below.refl _ _⟩
theorem qrSpec_b (C : Nat) (own : Bool) (f m : Int) (w : World) (h1 : 1 ≤ C) (h2 : C ≤ 8) (HF : Hid (inB f 0 (2 ^ C - 1) = false)) :
    Calls Try.prog 36 #[.int .i64 C, .bool own, .int .i64 f, .int .i64 m] w (NoRes w) := by
  go_enter Try.func36, Try.ntmps36
  go_wp2_with (first | (go_at_call 70; refine (swp (csWide_ok C _ _ h1 h2)).mono ?_; rintro e w' ⟨rfl, rfl⟩; rw [HF.out]))
  go_ret2
  exact ⟨rfl, Below.refl _ _⟩
theorem qrSpec_c (C : Nat) (own : Bool) (m : Int) (w : World) (h1 : 1 ≤ C) (h2 : C ≤ 8) (HF : Hid (inB 0 0 (2 ^ C - 1) = true)) :
    Calls Try.prog 36 #[.int .i64 C, .bool own, .int .i64 0, .int .i64 m] w (NoRes w) := by
  go_enter Try.func36, Try.ntmps36
  go_wp2_with (first | (go_at_call 70; refine (swp (csWide_ok C _ _ h1 h2)).mono ?_; rintro e w' ⟨rfl, rfl⟩; rw [HF.out]))
  go_ret2
  exact ⟨rfl, Below.refl _ _⟩
theorem qrSpec_d (C F : Nat) (own : Bool) (m : Int) (w : World) (h1 : 1 ≤ C) (h2 : C ≤ 8) (HF : Hid (inB F 0 (2 ^ C - 1) = true)) (e0 : ((F : Int) == 0) = false) (HK : Hid (inB m 0 200 = false)) :
    Calls Try.prog 36 #[.int .i64 C, .bool own, .int .i64 F, .int .i64 m] w (NoRes w) := by
  go_enter Try.func36, Try.ntmps36
  go_wp2_with (first | (go_at_call 70; refine (swp (csWide_ok C _ _ h1 h2)).mono ?_; rintro e w' ⟨rfl, rfl⟩; rw [HF.out]) | (go_at_call 71; refine (swp (l1In_any _ _ _ _)).mono ?_; rintro e w' ⟨rfl, rfl⟩; rw [HK.out]))
  go_ret2
  exact ⟨rfl, Below.refl _ _⟩
theorem qrSpec_e (C F M : Nat) (own : Bool) (w : World) (h1 : 1 ≤ C) (h2 : C ≤ 8) (HF : Hid (inB F 0 (2 ^ C - 1) = true)) (h0 : F ≠ 0) (HK : Hid (inB M 0 200 = true)) (h3 : M ≤ 200) (h4 : F < 2 ^ C) :
    Calls Try.prog 36 #[.int .i64 C, .bool own, .int .i64 F, .int .i64 M] w (ListOk w (qls C own F (M + 1))) := by
  have e0 := nat_neq0 h0
  go_enter Try.func36, Try.ntmps36
  go_wp2_with (first | (go_at_call 70; refine (swp (csWide_ok C _ _ h1 h2)).mono ?_; rintro e w' ⟨rfl, rfl⟩; rw [HF.out]) | (go_at_call 71; refine (swp (l1In_any _ _ _ _)).mono ?_; rintro e w' ⟨rfl, rfl⟩; rw [HK.out]))
  go_loopw [10, 11] (fun v i wr => ∃ (k m : Nat) (A : Option Addr) (d : Nat), k ≤ M ∧ i = .int .i64 ((k + 1 : Nat) : Int) ∧ v = .slice A m d ∧ Hid ((qls C own F (k + 1)).length = m) ∧ OL wr w.heap.size (.slice A m d) (qls C own F (k + 1)) ∧ Below w.heap.size w wr) (fun _ i _ => M + 1 - (intOf i).toNat)
  case atStart => exact ⟨0, 0, none, 0, by omega, rfl, rfl, Lib.hid rfl, OL.nil _ _, Below.refl _ _⟩
  case round =>
    obtain ⟨k, m, A, d, hk, rfl, rfl, HM, ho, hb⟩ := hrel
    have hsz := hb.size
    have HO := Lib.hid ho
    have HB := Lib.hid hb
    clear ho hb
    have hm : m ≤ 65536 := by have h1 := qls_len C own F (k + 1); rw [HM.out] at h1; omega
    by_cases hlt : k < M
    · by_cases hz : prw C own 0 F (k + 1) = 0
      · have t := nat_eq0 hz
        have HS := Lib.hid (show qls C own F (k + 1 + 1) = qls C own F (k + 1) ++ [k + 1] by rw [qls_succ, if_pos ⟨by omega, hz⟩])
        clear hz
        go_wp2_with (first | (go_at_call 72; refine (swp (csBehind_any C F (k + 1) own _ (by omega) h4 (by omega))).mono ?_; rintro e w' ⟨rfl, rfl⟩) | (at_builtin; refine wpList_append_nat _ rfl _ _ rfl w.heap.size A d m (qls C own F (k + 1)) (k + 1) wr.heap.size rfl (HO.out.alloc _) HM.out rfl (by simp [go_sem]) (by omega) (by simp; omega) ?_; intro A2 c2 w5 ho2 hb2; have HO2 := Lib.hid ho2; have HB2 := Lib.hid hb2; clear ho2 hb2))
        go_roundw
        case rel => exact ⟨k + 1, m + 1, A2, c2, by omega, by go_num, rfl, Lib.hid (by rw [HS.out, List.length_append, HM.out]; rfl), by rw [HS.out]; exact HO2.out, (HB.out.alloc (by omega) _).trans HB2.out⟩
        case measure => simp [intOf]; omega
      · have t := nat_neq0 hz
        have HS := Lib.hid (show qls C own F (k + 1 + 1) = qls C own F (k + 1) by rw [qls_succ, if_neg (fun h => hz h.2), List.append_nil])
        clear hz
        go_wp2_with (first | (go_at_call 72; refine (swp (csBehind_any C F (k + 1) own _ (by omega) h4 (by omega))).mono ?_; rintro e w' ⟨rfl, rfl⟩))
        go_roundw
        case rel => exact ⟨k + 1, m, A, d, by omega, by go_num, rfl, Lib.hid (by rw [HS.out]; exact HM.out), by rw [HS.out]; exact HO.out, HB.out⟩
        case measure => simp [intOf]; omega
    · have hkn : k = M := by omega
      subst hkn
      go_wp2
      go_ret2
      exact ⟨A, m, d, rfl, HM.out, HO.out, HB.out⟩
theorem qrImpl_e (C F M : Nat) (own : Bool) (w : World) (h1 : 1 ≤ C) (h2 : C ≤ 8) (HF : Hid (inB F 0 (2 ^ C - 1) = true)) (h0 : F ≠ 0) (HK : Hid (inB M 0 200 = true)) (h3 : M ≤ 200) (h4 : F < 2 ^ C) :
    Calls Try.prog 37 #[.int .i64 C, .bool own, .int .i64 F, .int .i64 M] w (ListOk w (qls C own F (M + 1))) := by
  have e0 := nat_neq0 h0
  go_enter Try.func37, Try.ntmps37
  go_wp2_with (first | (go_at_call 73; refine (swp (isRow_ok C _ _ h1 h2)).mono ?_; rintro e w' ⟨rfl, rfl⟩; rw [HF.out]) | (go_at_call 74; refine (swp (isRowNumber_any _ _)).mono ?_; rintro e w' ⟨rfl, rfl⟩; rw [HK.out]) | (go_at_call 76; refine (pattern_zero M C F own _ (by omega) (by omega) h4).mono ?_; rintro e w2 ⟨A, d, m, rfl, hm, ho, hb⟩; obtain ⟨b, hA, hBb, hbl, hmd, hdm, hcell⟩ := ho.read hm (k := M) (by rw [rows_length] at hm; omega); subst hA; have HS := Lib.hid (ho.src hm); rw [rows_length] at hm; subst hm; have HB := Lib.hid hb; have hz := hb.size; clear ho hdm hb hcell))
  go_loopw [10, 33] (fun v i wr => ∃ (k m : Nat) (A : Option Addr) (d : Nat), k ≤ M + 1 ∧ i = .int .i64 k ∧ v = .slice A m d ∧ Hid ((qls C own F k).length = m) ∧ OL wr w2.heap.size (.slice A m d) (qls C own F k) ∧ Below w2.heap.size w2 wr) (fun _ i _ => M + 1 - (intOf i).toNat)
  case atStart => exact ⟨0, 0, none, 0, by omega, rfl, rfl, Lib.hid rfl, OL.nil _ _, Below.refl _ _⟩
  case round =>
    obtain ⟨k, m, A, d, hk, rfl, rfl, HM, ho, hb⟩ := hrel
    have hsz := hb.size
    have HO := Lib.hid ho
    have HB3 := Lib.hid hb
    clear ho
    have hm : m ≤ 65536 := by have h1 := qls_len C own F k; rw [HM.out] at h1; omega
    by_cases hlt : k < M + 1
    · obtain ⟨b1, off1, hA, hbl1, c1⟩ := HS.out k (by omega)
      injection hA with hA; injection hA with x1 x2; subst x1 x2
      rw [Nat.zero_add, rows_get (by omega)] at c1
      have c2 : wr.cell? ⟨b, k, none⟩ = some (.int .i64 (prw C own 0 F k : Nat)) := (hb.cell (p := ⟨b, k, none⟩) hbl1).trans c1
      clear hb c1
      by_cases hz : prw C own 0 F k = 0
      · have hk1 : 1 ≤ k := by
          rcases Nat.eq_zero_or_pos k with h | h
          · subst h; exact absurd hz h0
          · exact h
        have t := nat_eq0 hz
        have HS2 := Lib.hid (show qls C own F (k + 1) = qls C own F k ++ [k] by rw [qls_succ, if_pos ⟨hk1, hz⟩])
        clear hz
        go_wp2_with (first | (at_builtin; refine wpList_append_nat _ rfl _ _ rfl w2.heap.size A d m (qls C own F k) k wr.heap.size rfl (HO.out.alloc _) HM.out rfl (by simp [go_sem]) (by omega) (by simp; omega) ?_; intro A2 c2 w5 ho2 hb2; have HO2 := Lib.hid ho2; have HB2 := Lib.hid hb2; clear ho2 hb2))
        go_roundw
        case rel => exact ⟨k + 1, m + 1, A2, _, by omega, by go_num, rfl, Lib.hid (by rw [HS2.out, List.length_append, HM.out]; rfl), by rw [HS2.out]; exact HO2.out, (HB3.out.alloc (by omega) _).trans HB2.out⟩
        case measure => simp [intOf]; omega
      · have t := nat_neq0 hz
        have HS2 := Lib.hid (show qls C own F (k + 1) = qls C own F k by rw [qls_succ, if_neg (fun h => hz h.2), List.append_nil])
        clear hz
        go_wp2
        go_roundw
        case rel => exact ⟨k + 1, m, A, d, by omega, by go_num, rfl, Lib.hid (by rw [HS2.out]; exact HM.out), by rw [HS2.out]; exact HO.out, HB3.out⟩
        case measure => simp [intOf]; omega
    · have hkn : k = M + 1 := by omega
      subst hkn
      clear hb
      go_wp2
      go_ret2
      exact ⟨A, m, d, rfl, HM.out, ⟨HO.out.1, by
        rcases HO.out.2 with h | ⟨g, cap, cur, h1, h2, h3⟩
        · exact .inl h
        · exact .inr ⟨g, cap, cur, h1, by omega, h3⟩⟩, HB.out.trans (HB3.out.mono (by omega))⟩
theorem lawQuietRows (c : Int) (own : Bool) (f m : Int) (w : World) :
    Calls Try.prog 11 #[.int .i64 c, .bool own, .int .i64 f, .int .i64 m] w fun e w' => e = .returned (.bool true) ∧ Below w.heap.size w w' := by
  cases hc : inB c 1 8
  · exact gQuiet_no c own f m w (Lib.hid fun w => qrSpec_a c own f m w (Lib.hid hc)) (Lib.hid fun w => qrImpl_a c own f m w (Lib.hid hc))
  · obtain ⟨C, rfl, h1, h2⟩ := wide_nat hc
    cases hf : inB f 0 (2 ^ C - 1)
    · exact gQuiet_no C own f m w (Lib.hid fun w => qrSpec_b C own f m w h1 h2 (Lib.hid hf)) (Lib.hid fun w => qrImpl_b C own f m w h1 h2 (Lib.hid hf))
    · obtain ⟨F, rfl, hF⟩ := row_nat hf
      by_cases h0 : F = 0
      · subst h0
        exact gQuiet_no C own 0 m w (Lib.hid fun w => qrSpec_c C own m w h1 h2 (Lib.hid hf)) (Lib.hid fun w => qrImpl_c C own m w h1 h2 (Lib.hid hf))
      · cases hk : inB m 0 200
        · exact gQuiet_no C own F m w (Lib.hid fun w => qrSpec_d C F own m w h1 h2 (Lib.hid hf) (nat_neq0 h0) (Lib.hid hk)) (Lib.hid fun w => qrImpl_d C F own m w h1 h2 (Lib.hid hf) (nat_neq0 h0) (Lib.hid hk))
        · obtain ⟨M, rfl, hM⟩ := num_nat hk
          have hM' : M ≤ 200 := by omega
          have hsp := fun w => qrSpec_e C F M own w h1 h2 (Lib.hid hf) h0 (Lib.hid hk) hM' hF
          have him := fun w => qrImpl_e C F M own w h1 h2 (Lib.hid hf) h0 (Lib.hid hk) hM' hF
          have hlen := qls_len C own F (M + 1)
          by_cases hl : (qls C own F (M + 1)).length = 0
          · exact gQuiet_nil C own F M w (Lib.hid fun w => (hsp w).mono fun e w' h => h.nil hl) (Lib.hid fun w => (him w).mono fun e w' h => h.nil hl)
          · exact gQuiet_arr C own F M _ (ln (qls C own F (M + 1))) (by omega) w (Lib.hid fun w => (hsp w).mono fun e w' h => h.arr rfl (by omega)) (Lib.hid fun w => (him w).mono fun e w' h => h.arr rfl (by omega))
end Go.Proofs.Ytggcjmdadomlaaa
