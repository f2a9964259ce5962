import Derived.Test.YtggcjmdadomlaaaSL2
namespace Go.Proofs.Ytggcjmdadomlaaa
open Go.RowKit
set_option maxHeartbeats 2000000
/-- The nullities of 1, 2, .., n rows. -/
def nulL (c : Nat) (own : Bool) (n : Nat) : List Nat := (List.range n).map (fun k => nulN c own (k + 1))
theorem nulL_succ (c : Nat) (own : Bool) (n : Nat) : nulL c own (n + 1) = nulL c own n ++ [nulN c own (n + 1)] := by simp [nulL, List.range_succ]
theorem nulL_len (c : Nat) (own : Bool) (n : Nat) : (nulL c own n).length = n := by simp [nulL]
theorem nbSpec_a (c : Int) (own : Bool) (m : Int) (w : World) (H : Hid (inB c 1 8 = false)) :
    Calls Try.prog 40 #[.int .i64 c, .bool own, .int .i64 m] w (NoRes w) := by
  go_enter Try.func40, Try.ntmps40
  go_wp2_with (go_at_call 70; refine (swp (csWide_no _ _ _ H.out)).mono ?_; rintro e w' ⟨rfl, rfl⟩)
  go_ret2
  exact ⟨rfl, Below.refl _ _⟩
theorem nbImpl_a (c : Int) (own : Bool) (m : Int) (w : World) (H : Hid (inB c 1 8 = false)) :
    Calls Try.prog 41 #[.int .i64 c, .bool own, .int .i64 m] w (NoRes w) := by
  go_enter Try.func41, Try.ntmps41
  go_wp2_with (go_at_call 78; refine (swp (isWide_any _ _)).mono ?_; rintro e w' ⟨rfl, rfl⟩; rw [H.out])
  go_ret2
  exact ⟨rfl, Below.refl _ _⟩
theorem nbSpec_b (C : Nat) (own : Bool) (m : Int) (w : World) (h1 : 1 ≤ C) (h2 : C ≤ 8) (HZ : Hid (inB 0 0 (2 ^ C - 1) = true)) (HK : Hid (inB m 0 200 = false)) :
    Calls Try.prog 40 #[.int .i64 C, .bool own, .int .i64 m] w (NoRes w) := by
  go_enter Try.func40, Try.ntmps40
  go_wp2_with (first | (go_at_call 70; refine (swp (csWide_ok C 0 _ h1 h2)).mono ?_; rintro e w' ⟨rfl, rfl⟩; rw [HZ.out]) | (go_at_call 71; refine (swp (l1In_any _ _ _ _)).mono ?_; rintro e w' ⟨rfl, rfl⟩; rw [HK.out]))
  go_ret2
  exact ⟨rfl, Below.refl _ _⟩
theorem nbImpl_b (C : Nat) (own : Bool) (m : Int) (w : World) (HW : Hid (inB C 1 8 = true)) (HK : Hid (inB m 0 200 = false)) :
    Calls Try.prog 41 #[.int .i64 C, .bool own, .int .i64 m] w (NoRes w) := by
  go_enter Try.func41, Try.ntmps41
  go_wp2_with (first | (go_at_call 78; refine (swp (isWide_any _ _)).mono ?_; rintro e w' ⟨rfl, rfl⟩; rw [HW.out]) | (go_at_call 74; refine (swp (isRowNumber_any _ _)).mono ?_; rintro e w' ⟨rfl, rfl⟩; rw [HK.out]))
  go_ret2
  exact ⟨rfl, Below.refl _ _⟩
theorem nbSpec_d (C M : Nat) (own : Bool) (w : World) (h1 : 1 ≤ C) (h2 : C ≤ 8) (h3 : M ≤ 200) (HZ : Hid (inB 0 0 (2 ^ C - 1) = true)) (HK : Hid (inB M 0 200 = true)) :
    Calls Try.prog 40 #[.int .i64 C, .bool own, .int .i64 M] w (ListOk w (nulL C own M)) := by
  go_enter Try.func40, Try.ntmps40
  go_wp2_with (first | (go_at_call 70; refine (swp (csWide_ok C 0 _ h1 h2)).mono ?_; rintro e w' ⟨rfl, rfl⟩; rw [HZ.out]) | (go_at_call 71; refine (swp (l1In_any _ _ _ _)).mono ?_; rintro e w' ⟨rfl, rfl⟩; rw [HK.out]))
  go_loopw [8, 9] (fun v i wr => ∃ (k : Nat) (A : Option Addr) (d : Nat), k ≤ M ∧ i = .int .i64 ((k + 1 : Nat) : Int) ∧ v = .slice A k d ∧ OL wr w.heap.size (.slice A k d) (nulL C own k) ∧ Below w.heap.size w wr) (fun _ i _ => M + 1 - (intOf i).toNat)
  case atStart => exact ⟨0, none, 0, by omega, rfl, rfl, OL.nil _ _, Below.refl _ _⟩
  case round =>
    obtain ⟨k, A, d, hk, rfl, rfl, ho, hb⟩ := hrel
    have hsz := hb.size
    have HO := Lib.hid ho
    have HB := Lib.hid hb
    have HM := Lib.hid (nulL_len C own k)
    clear ho hb
    by_cases hlt : k < M
    · have HS := Lib.hid (nulL_succ C own k)
      go_wp2_with (first | (go_at_call 77; refine (csNullity_any (k + 1) C own _ h1 h2 (by omega)).mono ?_; rintro e w' ⟨rfl, rfl⟩) | (at_builtin; refine wpList_append_nat _ rfl _ _ rfl w.heap.size A d k (nulL C own k) (nulN C own (k + 1)) wr.heap.size rfl (HO.out.alloc _) HM.out rfl (by simp [go_sem]) (by omega) (by simp; omega) ?_; intro A2 c2 w5 ho2 hb2; have HO2 := Lib.hid ho2; have HB2 := Lib.hid hb2; clear ho2 hb2))
      go_roundw
      case rel => exact ⟨k + 1, A2, c2, by omega, by go_num, rfl, by rw [HS.out]; exact HO2.out, (HB.out.alloc (by omega) _).trans HB2.out⟩
      case measure => simp [intOf]; omega
    · have hkn : k = M := by omega
      subst hkn
      go_wp2
      go_ret2
      exact ⟨A, k, d, rfl, HM.out, HO.out, HB.out⟩
theorem rangeAt_below {w w' : World} {b o : Nat} {cs : List Value} (h : w.rangeAt b o cs) (hb : Below w.heap.size w w') (hl : b < w.heap.size) : w'.rangeAt b o cs := fun j v hv =>
  (hb.cell (p := ⟨b, o + j, none⟩) hl).trans (h j v hv)
set_option maxRecDepth 100000 in
theorem nbImpl_d (C M : Nat) (own : Bool) (w : World) (h1 : 1 ≤ C) (h2 : C ≤ 8) (h3 : M ≤ 200) (HW : Hid (inB C 1 8 = true)) (HK : Hid (inB M 0 200 = true)) :
    Calls Try.prog 41 #[.int .i64 C, .bool own, .int .i64 M] w (ListOk w (nulL C own M)) := by
  go_enter Try.func41, Try.ntmps41
  go_wp2_with (first | (go_at_call 78; refine (swp (isWide_any _ _)).mono ?_; rintro e w' ⟨rfl, rfl⟩; rw [HW.out]) | (go_at_call 74; refine (swp (isRowNumber_any _ _)).mono ?_; rintro e w' ⟨rfl, rfl⟩; rw [HK.out]) | fail)
  refine (tables_any M C own _ (by omega) (by omega)).mono ?_
  rintro e w2 ⟨A0, d0, rfl, ho, hb⟩
  obtain ⟨g, hA, hg, hgl, hd, hel⟩ := ho.elem
  subst hA
  have HB0 := Lib.hid hb
  have hsz0 := hb.size
  have HEL := Lib.hid hel
  clear ho hb hel
  by_cases hd1 : d0 = 1
  · have hM0 : M = 0 := by omega
    subst hM0 hd1
    go_wp2
    go_loopw [8, 26] (fun v i wr => i = .int .i64 0 ∧ v = .slice none 0 0 ∧ wr = w2) (fun _ _ _ => 0)
    case atStart => exact ⟨rfl, rfl, rfl⟩
    case round =>
      obtain ⟨rfl, rfl, rfl⟩ := hrel
      go_wp2
      go_ret2
      exact ⟨none, 0, 0, rfl, rfl, OL.nil _ _, HB0.out⟩
  · have hd2 : (1 : Int) ≤ (d0 : Int) := by omega
    go_wp2
    go_loopw [8, 26] (fun v i wr => ∃ (k : Nat) (A : Option Addr) (d : Nat), k ≤ M ∧ i = .int .i64 k ∧ v = .slice A k d ∧ OL wr w2.heap.size (.slice A k d) (nulL C own k) ∧ Below w2.heap.size w2 wr) (fun _ i _ => M - (intOf i).toNat)
    case atStart => exact ⟨0, none, 0, by omega, rfl, rfl, OL.nil _ _, Below.refl _ _⟩
    case round =>
      obtain ⟨k, A, d, hk, rfl, rfl, ho, hb⟩ := hrel
      have hsz := hb.size
      have HO := Lib.hid ho
      have HB := Lib.hid hb
      have HM := Lib.hid (nulL_len C own k)
      by_cases hlt : k < M
      · have HS := Lib.hid (nulL_succ C own k)
        have hr := rangeAt_below (HEL.out (k + 1) (by omega)) hb hgl
        rw [show (k + 1) * 16 = 16 + k * 16 by omega] at hr
        have HR := Lib.hid hr
        have HT1 : Hid (Tab (wr.alloc (.cells #[.int .i64 0, .int .i64 0, .int .i64 0, .int .i64 0, .int .i64 0, .int .i64 0, .int .i64 0, .int .i64 0, .int .i64 0, .int .i64 0, .int .i64 0, .int .i64 0, .int .i64 0, .int .i64 0, .int .i64 0, .int .i64 0] 68)) wr.heap.size (fun _ => 0)) := Lib.hid (Tab.new wr zeroT (fun _ => 0) zeroT_eq rfl)
        have hbS : Below wr.heap.size wr ((wr.alloc (.cells #[.int .i64 0, .int .i64 0, .int .i64 0, .int .i64 0, .int .i64 0, .int .i64 0, .int .i64 0, .int .i64 0, .int .i64 0, .int .i64 0, .int .i64 0, .int .i64 0, .int .i64 0, .int .i64 0, .int .i64 0, .int .i64 0] 68)).setRow wr.heap.size (tabA (tT C own (k + 1)))) := below_row ((Below.refl _ _).alloc (Nat.le_refl _) _) (Nat.le_refl _) _
        have HT2 := Lib.hid (HT1.out.row (tT C own (k + 1)))
        have HOS := Lib.hid (ho.all hbS)
        have HBS := Lib.hid (hb.trans (hbS.mono hsz))
        have hszS := hbS.size
        have hszS2 := HBS.out.size
        clear ho hb hr hbS
        go_upto_region 7 with (first | (with_reducible refine wpList_load_elem rfl (.tmp 28) rfl g (16 + k * 16) rfl (tT C own (k + 1)) HR.out ?_) | (with_reducible refine wpList_store_tab rfl (.tmp 10) (.tmp 29) rfl wr.heap.size rfl (fun _ => 0) (tT C own (k + 1)) rfl HT1.out ?_))
        generalize (wr.alloc (.cells #[.int .i64 0, .int .i64 0, .int .i64 0, .int .i64 0, .int .i64 0, .int .i64 0, .int .i64 0, .int .i64 0, .int .i64 0, .int .i64 0, .int .i64 0, .int .i64 0, .int .i64 0, .int .i64 0, .int .i64 0, .int .i64 0] 68)).setRow wr.heap.size (tabA (tT C own (k + 1))) = WS at HT2 HOS HBS hszS hszS2 ⊢
        go_wp2_with (first | (with_reducible refine wpList_load_tab rfl (.tmp 10) rfl wr.heap.size rfl _ HT2.out ?_) | (go_at_call 79; refine (nullity_any C (k + 1) own _ WS (by omega) rfl).mono ?_; rintro e w4 ⟨rfl, hb4⟩; have HO4 := Lib.hid (HOS.out.all hb4); have HB4 := Lib.hid (HBS.out.trans (hb4.mono hszS2)); have hz4 := hb4.size; clear hb4) | (at_builtin; refine wpList_append_nat _ rfl _ _ rfl w2.heap.size A d k (nulL C own k) (nulN C own (k + 1)) w4.heap.size rfl (HO4.out.alloc _) HM.out rfl (by simp [go_sem]) (by omega) (by simp; omega) ?_; intro A2 c2 w5 ho2 hb2; have HO2 := Lib.hid ho2; have HB2 := Lib.hid hb2; clear ho2 hb2))
        go_roundw
        case rel => exact ⟨k + 1, A2, c2, by omega, by go_num, rfl, by rw [HS.out]; exact HO2.out, (HB4.out.alloc (by omega) _).trans HB2.out⟩
        case measure => simp [intOf]; omega
      · have hkn : k = M := by omega
        subst hkn
        clear ho hb
        go_wp2
        go_ret2
        exact ⟨A, k, d, rfl, HM.out, ⟨HO.out.1, by
          rcases HO.out.2 with h | ⟨g, cap, cur, h1, h2, h3⟩
          · exact .inl h
          · exact .inr ⟨g, cap, cur, h1, by omega, h3⟩⟩, HB0.out.trans (HB.out.mono (by omega))⟩
theorem lawNullities (c : Int) (own : Bool) (m : Int) (w : World) :
    Calls Try.prog 13 #[.int .i64 c, .bool own, .int .i64 m] w fun e w' => e = .returned (.bool true) ∧ Below w.heap.size w w' := by
  cases hc : inB c 1 8
  · exact gNull_no c own m w (Lib.hid fun w => nbSpec_a c own m w (Lib.hid hc)) (Lib.hid fun w => nbImpl_a c own m w (Lib.hid hc))
  · obtain ⟨C, rfl, h1, h2⟩ := wide_nat hc
    cases hk : inB m 0 200
    · exact gNull_no C own m w (Lib.hid fun w => nbSpec_b C own m w h1 h2 (Lib.hid (zero_in C)) (Lib.hid hk)) (Lib.hid fun w => nbImpl_b C own m w (Lib.hid hc) (Lib.hid hk))
    · obtain ⟨M, rfl, hM⟩ := num_nat hk
      have hM' : M ≤ 200 := by omega
      have hsp := fun w => nbSpec_d C M own w h1 h2 hM' (Lib.hid (zero_in C)) (Lib.hid hk)
      have him := fun w => nbImpl_d C M own w h1 h2 hM' (Lib.hid hc) (Lib.hid hk)
      have hlen := nulL_len C own M
      by_cases hl : (nulL C own M).length = 0
      · exact gNull_nil C own M w (Lib.hid fun w => (hsp w).mono fun e w' h => h.nil hl) (Lib.hid fun w => (him w).mono fun e w' h => h.nil hl)
      · exact gNull_arr C own M _ (ln (nulL C own M)) (by omega) w (Lib.hid fun w => (hsp w).mono fun e w' h => h.arr rfl (by omega)) (Lib.hid fun w => (him w).mono fun e w' h => h.arr rfl (by omega))
end Go.Proofs.Ytggcjmdadomlaaa
