/-
The table of nullities: both sides, and the statement of GridTable, walked.
-/
import Derived.Test.YtdpoceijnbbmgaaGG
import Derived.Test.YtdpoceijnbbmgaaAL
namespace Go.Proofs.Ytdpoceijnbbmgaa
open Go.RowKit
set_option maxHeartbeats 4000000
/-- The first k nullities. -/
def gtL (c : Nat) (own : Bool) (k : Nat) : List Nat := (List.range k).map fun i => gn (i + 1) c own
theorem gtL_succ (c : Nat) (own : Bool) (k : Nat) : gtL c own (k + 1) = gtL c own k ++ [gn (k + 1) c own] := by simp [gtL, List.range_succ]
theorem gtL_len (c : Nat) (own : Bool) (k : Nat) : (gtL c own k).length = k := by simp [gtL]
theorem gtSpec_no (c : Int) (own : Bool) (w : World) (HA : Hid (inB c 1 40 = false)) : Calls Try.prog 24 #[.int .i64 c, .bool own] w (NoRes w) := by
  go_enter Try.func24, Try.ntmps24
  go_wp2_with fail
  refine (prSide_any _ _).mono ?_
  rintro e w' ⟨rfl, hw⟩
  subst w'
  rw [HA.out]
  go_wp2
  go_ret2
  exact ⟨rfl, Below.refl _ _⟩
theorem gtImpl_no (c : Int) (own : Bool) (w : World) (HA : Hid (inB c 1 40 = false)) : Calls Try.prog 25 #[.int .i64 c, .bool own] w (NoRes w) := by
  go_enter Try.func25, Try.ntmps25
  go_wp2_with fail
  refine (isSide_any _ _ _).mono ?_
  rintro e w' ⟨rfl, hw⟩
  subst w'
  rw [HA.out]
  go_wp2
  go_ret2
  exact ⟨rfl, Below.refl _ _⟩
theorem gtSpec_ok (c : Nat) (own : Bool) (w : World) (h1 : 1 ≤ c) (hc : c ≤ 40) (HA : Hid (inB c 1 40 = true)) : Calls Try.prog 24 #[.int .i64 c, .bool own] w (ListOk w (gtL c own c)) := by
  go_enter Try.func24, Try.ntmps24
  go_wp2_with fail
  refine (prSide_any _ _).mono ?_
  rintro e w' ⟨rfl, hw⟩
  subst w'
  rw [HA.out]
  go_wp2
  go_loopw [6, 7] (fun o x wr => ∃ (k d : Nat) (A : Option Addr), k ≤ c ∧ x = .int .i64 ((k : Int) + 1) ∧ o = .slice A k d ∧ Hid (OL wr w.heap.size (.slice A k d) (gtL c own k)) ∧ Below w.heap.size w wr) (fun _ x _ => c + 1 - (intOf x).toNat)
  case atStart => exact ⟨0, 0, none, by omega, rfl, rfl, hide (OL.nil _ _), Below.refl _ _⟩
  case round =>
    obtain ⟨k, d, A, hk, rfl, rfl, HO, hb⟩ := hrel
    have hsz := hb.size
    have HB := hide hb
    have HM := hide (gtL_len c own k)
    have HL := hide (gtL_succ c own k)
    clear hb
    obtain ⟨k1, hk1⟩ : ∃ k1, k + 1 = k1 := ⟨_, rfl⟩
    have e1 : (k : Int) + 1 = (k1 : Int) := by omega
    by_cases hlt : k < c
    · obtain ⟨y, hy⟩ : ∃ y, gn (k + 1) c own = y := ⟨_, rfl⟩
      rw [hy] at HL
      rw [hk1] at hy
      have HY := hide hy
      clear hy
      simp only [e1]
      go_wp2_with (first | (go_at_call 41; refine (prGrid_any k1 c own _ (by omega) hc).mono ?_; rintro e w' ⟨rfl, hw⟩; subst w'; rw [HY.out]) | (at_builtin; refine wpList_append_nat _ rfl _ _ rfl w.heap.size A d k (gtL c own k) y wr.heap.size rfl (HO.out.alloc _) HM.out rfl (by simp [go_sem]) (by omega) (by simp; omega) ?_; intro A2 c2 w5 ho2 hb2; have HO2 := hide ho2; have HB2 := hide hb2; clear ho2 hb2))
      go_roundw
      case rel => subst hk1; exact ⟨k + 1, c2, A2, by omega, by go_num, rfl, hide (by rw [HL.out]; exact HO2.out), (HB.out.alloc (by omega) _).trans HB2.out⟩
      case measure => simp [intOf]; omega
    · have hkn : k = c := by omega
      subst hkn
      simp only [e1]
      go_wp2
      go_ret2
      exact ⟨A, k, d, rfl, HM.out, HO.out, HB.out⟩
theorem gtImpl_ok (c : Nat) (own : Bool) (w : World) (h1 : 1 ≤ c) (hc : c ≤ 40) (HA : Hid (inB c 1 40 = true)) : Calls Try.prog 25 #[.int .i64 c, .bool own] w (ArrRes w c (ln (gtL c own c))) := by
  have hmk := run_make_row' (P := Try.prog) 22 3 (.int .i64 0) 8 Try.underlying22 int_info rfl .i64 .i64 c (by omega) (by omega)
  go_enter Try.func25, Try.ntmps25
  go_wp2_with fail
  refine (isSide_any _ _ _).mono ?_
  rintro e w' ⟨rfl, hw⟩
  subst w'
  rw [HA.out]
  go_wp2
  go_loopw [15] (fun i wr => ∃ k : Nat, k ≤ c ∧ i = .int .i64 k ∧ Arr wr 3 w.heap.size c (fun j => if j < k then .int .i64 (gn (j + 1) c own : Nat) else .int .i64 0) ∧ Below w.heap.size w wr) (fun i _ => c - (intOf i).toNat)
  case atStart => exact ⟨0, Nat.zero_le _, rfl, (Arr.made w _ c 3).congr (fun k hk => by simp), (Below.refl _ _).alloc (Nat.le_refl _) _⟩
  case round =>
    obtain ⟨k, hk, rfl, ha, hb⟩ := hrel
    have HA2 := hide ha
    have HB := hide hb
    have hal := ha.lt
    have hsz := hb.size
    clear ha hb
    obtain ⟨k1, hk1⟩ : ∃ k1, k + 1 = k1 := ⟨_, rfl⟩
    have e1 : (k : Int) + 1 = (k1 : Int) := by omega
    by_cases hlt : k < c
    · have HI : Hid (inB (k1 : Nat) 1 40 = true) := hide (by simp only [inB, decide_eq_true_eq]; omega)
      obtain ⟨y, hy⟩ : ∃ y, gn (k + 1) c own = y := ⟨_, rfl⟩
      have HY0 := hide hy
      rw [hk1] at hy
      have HY := hide hy
      have hki : (k : Int) < c := by omega
      clear hy
      go_wp2_with fail
      try simp only [e1]
      refine (gnImpl_ok k1 c own _ (by omega) hc HI HA).mono ?_
      rintro e w3 ⟨rfl, hb3⟩
      rw [HY.out]
      have ha3 := HA2.out.all hb3
      have hw := ha3.cell hlt
      have hz := ha3.frozen k
      have hl3 := ha3.lt
      have HA3 := hide ha3
      have HB3 := hide (HB.out.trans (hb3.mono hsz))
      clear ha3 hb3
      go_wp2
      go_roundw
      case rel =>
        refine ⟨k + 1, by omega, by go_num, (HA3.out.set k _).congr (fun j hj => ?_), HB3.out.setCell (by simp) _⟩
        by_cases hjk : j = k
        · subst hjk; simp [HY0.out]
        · simp only [hjk, if_false]
          by_cases h2 : j < k
          · rw [if_pos h2, if_pos (by omega)]
          · rw [if_neg h2, if_neg (by omega)]
      case measure => simp [intOf]; omega
    · have hkn : k = c := by omega
      subst hkn
      go_wp2
      go_ret2
      exact ⟨w.heap.size, k, rfl, Nat.le_refl _, HA2.out.congr (fun j hj => by simp [hj, iv, ln, gtL]), HB.out⟩
theorem lawGT_arr (x1 : Int) (b2 : Bool) (m : Nat) (F : Nat → Int) (hm : m ≤ 1048576) (w : World)  (HSP : Hid (∀ (w : World), Calls Try.prog 24 #[.int .i64 x1, .bool b2] w (ArrRes w m F))) (HIM : Hid (∀ (w : World), Calls Try.prog 25 #[.int .i64 x1, .bool b2] w (ArrRes w m F)))  :
    Calls Try.prog 7 #[.int .i64 x1, .bool b2] w fun e w' => e = .returned (.bool true) ∧ Below w.heap.size w w' := by
  go_enter Try.func7, Try.ntmps7
  go_wp2_with fail
  refine (HSP.out  _ ).mono ?_
  rintro e w1 ⟨g1, c_g1, rfl, lo_g1, ha_r, hb1⟩
  try simp only [World.size_alloc] at lo_g1
  have hs1 : Below w.heap.size w w1 := (by go_grown : Below w.heap.size w _).trans (hb1.mono (by go_size))
  have z1 : w.heap.size ≤ w1.heap.size := hs1.size
  have HW1 := hide hs1
  have HA_s_1 := hide ha_r
  have hi_s_1 : g1 < w1.heap.size := ha_r.lt
  clear ha_r hb1 hs1
  go_wp2_with fail
  refine (HIM.out  _ ).mono ?_
  rintro e w2 ⟨g2, c_g2, rfl, lo_g2, ha_r, hb2⟩
  try simp only [World.size_alloc] at lo_g2
  have hs2 : Below w1.heap.size w1 w2 := (by go_grown : Below w1.heap.size w1 _).trans (hb2.mono (by go_size))
  have z2 : w1.heap.size ≤ w2.heap.size := hs2.size
  have HW2 := hide (HW1.out.trans (hs2.mono HW1.out.size))
  have HA_s_2 := hide (HA_s_1.out.all hs2)
  have HA_i_2 := hide ha_r
  have hi_i_2 : g2 < w2.heap.size := ha_r.lt
  clear HA_s_1 ha_r hb2 hs2
  go_wp2_with fail
  refine (eqIntS_below _ _ _ _ _ F _ hm (by first | exact Src.of_arr HA_i_2.out | exact Src.of_arr (HA_i_2.out.alloc _) | exact Src.of_arr ((HA_i_2.out.alloc _).alloc _) | exact Src.of_arr HA_i_2.out.drew) (by first | exact Src.of_arr HA_s_2.out | exact Src.of_arr (HA_s_2.out.alloc _) | exact Src.of_arr ((HA_s_2.out.alloc _).alloc _) | exact Src.of_arr HA_s_2.out.drew)).mono ?_
  rintro e w3 ⟨rfl, hb3⟩
  have hs3 : Below w2.heap.size w2 w3 := (by go_grown : Below w2.heap.size w2 _).trans (hb3.mono (by go_size))
  have z3 : w2.heap.size ≤ w3.heap.size := hs3.size
  have HW3 := hide (HW2.out.trans (hs3.mono HW2.out.size))
  have HA_s_3 := hide (HA_s_2.out.all hs3)
  have HA_i_3 := hide (HA_i_2.out.all hs3)
  clear HA_s_2 HA_i_2 hb3 hs3
  go_wp2_with fail
  refine (markIntS_arr _ _ _ F _ _ hm (by omega) (by omega) (by first | exact HA_i_3.out | exact HA_i_3.out.alloc _ | exact (HA_i_3.out.alloc _).alloc _ | exact HA_i_3.out.drew)).mono ?_
  rintro e w4 ⟨rfl, ha_n, hb4⟩
  have hs4 : w3.grownBy w4 (some g2) := grownBy_trans (grownBy_of_below (by go_grown) _) hb4
  have z4 : w3.heap.size ≤ w4.heap.size := hs4.size
  have HW4 := hide (HW3.out.grown hs4 HW3.out.size (fun k hk => by injection hk with hk; have := HW3.out.size; omega))
  have HA_s_4 := hide (HA_s_3.out.of_block (hs4.block g1 (HA_s_3.out.lt) (by intro h; injection h with h; omega)))
  have HA_i_4 := hide ha_n
  have hi_i_4 : g2 < w4.heap.size := ha_n.lt
  clear HA_s_3 ha_n hb4 hs4
  go_wp2_with fail
  refine (heldIntS_below _ _ _ _ _ hm (by omega) (by omega) (by first | exact Src.of_arr HA_i_4.out | exact Src.of_arr (HA_i_4.out.alloc _) | exact Src.of_arr ((HA_i_4.out.alloc _).alloc _) | exact Src.of_arr HA_i_4.out.drew)).mono ?_
  rintro e w5 ⟨rfl, hb5⟩
  have hs5 : Below w4.heap.size w4 w5 := (by go_grown : Below w4.heap.size w4 _).trans (hb5.mono (by go_size))
  have z5 : w4.heap.size ≤ w5.heap.size := hs5.size
  have HW5 := hide (HW4.out.trans (hs5.mono HW4.out.size))
  have HA_s_5 := hide (HA_s_4.out.all hs5)
  have HA_i_5 := hide (HA_i_4.out.all hs5)
  clear HA_s_4 HA_i_4 hb5 hs5
  go_wp2_with fail
  refine (HIM.out  _ ).mono ?_
  rintro e w6 ⟨g6, c_g6, rfl, lo_g6, ha_r, hb6⟩
  try simp only [World.size_alloc] at lo_g6
  have hs6 : Below w5.heap.size w5 w6 := (by go_grown : Below w5.heap.size w5 _).trans (hb6.mono (by go_size))
  have z6 : w5.heap.size ≤ w6.heap.size := hs6.size
  have HW6 := hide (HW5.out.trans (hs6.mono HW5.out.size))
  have HA_s_6 := hide (HA_s_5.out.all hs6)
  have HA_i_6 := hide (HA_i_5.out.all hs6)
  have HA_j_6 := hide ha_r
  have hi_j_6 : g6 < w6.heap.size := ha_r.lt
  clear HA_s_5 HA_i_5 ha_r hb6 hs6
  go_wp2_with fail
  refine (eqIntS_below _ _ _ _ _ F _ hm (by first | exact Src.of_arr HA_j_6.out | exact Src.of_arr (HA_j_6.out.alloc _) | exact Src.of_arr ((HA_j_6.out.alloc _).alloc _) | exact Src.of_arr HA_j_6.out.drew) (by first | exact Src.of_arr HA_s_6.out | exact Src.of_arr (HA_s_6.out.alloc _) | exact Src.of_arr ((HA_s_6.out.alloc _).alloc _) | exact Src.of_arr HA_s_6.out.drew)).mono ?_
  rintro e w7 ⟨rfl, hb7⟩
  have hs7 : Below w6.heap.size w6 w7 := (by go_grown : Below w6.heap.size w6 _).trans (hb7.mono (by go_size))
  have z7 : w6.heap.size ≤ w7.heap.size := hs7.size
  have HW7 := hide (HW6.out.trans (hs7.mono HW6.out.size))
  have HA_s_7 := hide (HA_s_6.out.all hs7)
  have HA_i_7 := hide (HA_i_6.out.all hs7)
  have HA_j_7 := hide (HA_j_6.out.all hs7)
  clear HA_s_6 HA_i_6 HA_j_6 hb7 hs7
  go_wp2_with fail
  refine (heldIntS_below _ _ _ _ _ hm (by omega) (by omega) (by first | exact Src.of_arr HA_i_7.out | exact Src.of_arr (HA_i_7.out.alloc _) | exact Src.of_arr ((HA_i_7.out.alloc _).alloc _) | exact Src.of_arr HA_i_7.out.drew)).mono ?_
  rintro e w8 ⟨rfl, hb8⟩
  have hs8 : Below w7.heap.size w7 w8 := (by go_grown : Below w7.heap.size w7 _).trans (hb8.mono (by go_size))
  have z8 : w7.heap.size ≤ w8.heap.size := hs8.size
  have HW8 := hide (HW7.out.trans (hs8.mono HW7.out.size))
  have HA_s_8 := hide (HA_s_7.out.all hs8)
  have HA_i_8 := hide (HA_i_7.out.all hs8)
  have HA_j_8 := hide (HA_j_7.out.all hs8)
  clear HA_s_7 HA_i_7 HA_j_7 hb8 hs8
  go_wp2
  go_ret
  exact ⟨rfl, by have h := HW8.out; have hz := h.size; go_grown⟩
theorem lawGT_no (x1 : Int) (b2 : Bool) (w : World)  (HSP : Hid (∀ (w : World), Calls Try.prog 24 #[.int .i64 x1, .bool b2] w (NoRes w))) (HIM : Hid (∀ (w : World), Calls Try.prog 25 #[.int .i64 x1, .bool b2] w (NoRes w)))  :
    Calls Try.prog 7 #[.int .i64 x1, .bool b2] w fun e w' => e = .returned (.bool true) ∧ Below w.heap.size w w' := by
  go_enter Try.func7, Try.ntmps7
  go_wp2_with fail
  refine (HSP.out  _ ).mono ?_
  rintro e w1 ⟨rfl, hb1⟩
  have hs1 : Below w.heap.size w w1 := (by go_grown : Below w.heap.size w _).trans (hb1.mono (by go_size))
  have z1 : w.heap.size ≤ w1.heap.size := hs1.size
  have HW1 := hide hs1
  clear  hb1 hs1
  go_wp2_with fail
  refine (HIM.out  _ ).mono ?_
  rintro e w2 ⟨rfl, hb2⟩
  have hs2 : Below w1.heap.size w1 w2 := (by go_grown : Below w1.heap.size w1 _).trans (hb2.mono (by go_size))
  have z2 : w1.heap.size ≤ w2.heap.size := hs2.size
  have HW2 := hide (HW1.out.trans (hs2.mono HW1.out.size))
  clear  hb2 hs2
  go_wp2_with fail
  refine (eqIntS_below _ _ _ _ _ (fun _ => 0) _ (by omega) Src.nil Src.nil).mono ?_
  rintro e w3 ⟨rfl, hb3⟩
  have hs3 : Below w2.heap.size w2 w3 := (by go_grown : Below w2.heap.size w2 _).trans (hb3.mono (by go_size))
  have z3 : w2.heap.size ≤ w3.heap.size := hs3.size
  have HW3 := hide (HW2.out.trans (hs3.mono HW2.out.size))
  clear  hb3 hs3
  go_wp2_with fail
  refine (markIntS_none_below _ _ _ _).mono ?_
  rintro e w4 ⟨rfl, hb4⟩
  have hs4 : Below w3.heap.size w3 w4 := (by go_grown : Below w3.heap.size w3 _).trans (hb4.mono (by go_size))
  have z4 : w3.heap.size ≤ w4.heap.size := hs4.size
  have HW4 := hide (HW3.out.trans (hs4.mono HW3.out.size))
  clear  hb4 hs4
  go_wp2_with fail
  refine (heldIntS_below _ 0 _ _ _ (by omega) (by omega) (by omega) Src.nil).mono ?_
  rintro e w5 ⟨rfl, hb5⟩
  have hs5 : Below w4.heap.size w4 w5 := (by go_grown : Below w4.heap.size w4 _).trans (hb5.mono (by go_size))
  have z5 : w4.heap.size ≤ w5.heap.size := hs5.size
  have HW5 := hide (HW4.out.trans (hs5.mono HW4.out.size))
  clear  hb5 hs5
  go_wp2_with fail
  refine (HIM.out  _ ).mono ?_
  rintro e w6 ⟨rfl, hb6⟩
  have hs6 : Below w5.heap.size w5 w6 := (by go_grown : Below w5.heap.size w5 _).trans (hb6.mono (by go_size))
  have z6 : w5.heap.size ≤ w6.heap.size := hs6.size
  have HW6 := hide (HW5.out.trans (hs6.mono HW5.out.size))
  clear  hb6 hs6
  go_wp2_with fail
  refine (eqIntS_below _ _ _ _ _ (fun _ => 0) _ (by omega) Src.nil Src.nil).mono ?_
  rintro e w7 ⟨rfl, hb7⟩
  have hs7 : Below w6.heap.size w6 w7 := (by go_grown : Below w6.heap.size w6 _).trans (hb7.mono (by go_size))
  have z7 : w6.heap.size ≤ w7.heap.size := hs7.size
  have HW7 := hide (HW6.out.trans (hs7.mono HW6.out.size))
  clear  hb7 hs7
  go_wp2_with fail
  refine (heldIntS_below _ 0 _ _ _ (by omega) (by omega) (by omega) Src.nil).mono ?_
  rintro e w8 ⟨rfl, hb8⟩
  have hs8 : Below w7.heap.size w7 w8 := (by go_grown : Below w7.heap.size w7 _).trans (hb8.mono (by go_size))
  have z8 : w7.heap.size ≤ w8.heap.size := hs8.size
  have HW8 := hide (HW7.out.trans (hs8.mono HW7.out.size))
  clear  hb8 hs8
  go_wp2
  go_ret
  exact ⟨rfl, by have h := HW8.out; have hz := h.size; go_grown⟩
theorem lawGridTable (c : Int) (own : Bool) (w : World) : Calls Try.prog 7 #[.int .i64 c, .bool own] w fun e w' => e = .returned (.bool true) ∧ Below w.heap.size w w' := by
  cases h : inB c 1 40
  · exact lawGT_no c own w (hide fun w => gtSpec_no c own w (hide h)) (hide fun w => gtImpl_no c own w (hide h))
  · obtain ⟨C, rfl, h1, hC⟩ := in_nat h
    exact lawGT_arr C own C _ (by omega) w (hide fun w => (gtSpec_ok C own w h1 hC (hide h)).mono fun _ _ hh => hh.arr (gtL_len C own C) (by omega)) (hide fun w => gtImpl_ok C own w h1 hC (hide h))
end Go.Proofs.Ytdpoceijnbbmgaa
