import Derived.Test.YtjbhmncpbhlmiaaCD
import Derived.Test.YtjbhmncpbhlmiaaSD
namespace Go.Proofs.Ytjbhmncpbhlmiaa
open Go.RowKit
set_option maxHeartbeats 2000000
theorem heldIntS_below (A : Option Addr) (n c : Nat) (k : Int) (w : World) (hn : n ≤ 1048576) (h0 : 0 ≤ k) (h1 : k ≤ 4611686018427387904) (hs : Src w A n (iv (marks k))) :
    Calls Try.prog 18 #[.slice A n c, .int .i64 k] w fun e w' => e = .returned (.int .i64 (k + n)) ∧ Below w.heap.size w w' :=
  (heldIntS_any A n c k w hn h0 h1 hs).mono fun e w' ⟨he, hw⟩ => ⟨he, by subst hw; exact Below.refl _ _⟩
theorem markIntS_none_below (A : Option Addr) (c : Nat) (k : Int) (w : World) :
    Calls Try.prog 17 #[.slice A 0 c, .int .i64 k] w fun e w' => e = .returned (.int .i64 k) ∧ Below w.heap.size w w' :=
  (markIntS_none A c k w).mono fun e w' ⟨he, hw⟩ => ⟨he, by subst hw; exact Below.refl _ _⟩
theorem lawParse_no (s : ByteArray) (w : World) (hn2 : s.size ≤ 1048576) (HSP : Hid (∀ w, Calls Try.prog 15 #[.string s] w (ParNo w))) (HIM : Hid (∀ w, Calls Try.prog 16 #[.string s] w (ParNo w))) :
    Calls Try.prog 5 #[.string s] w fun e w' => e = .returned (.bool true) ∧ Below w.heap.size w w' := by
  go_enter Try.func5, Try.ntmps5
  go_wp2_with fail
  refine (HSP.out _).mono ?_
  rintro e w1 ⟨rfl, hb1⟩
  have hs1 : Below w.heap.size w w1 := (by go_grown : Below w.heap.size w _).trans (hb1.mono (by go_size))
  have z1 : w.heap.size ≤ w1.heap.size := hs1.size
  have HW1 := hide hs1
  clear  hb1 hs1
  go_wp2_with fail
  refine (HIM.out _).mono ?_
  rintro e w2 ⟨rfl, hb2⟩
  have hs2 : Below w1.heap.size w1 w2 := (by go_grown : Below w1.heap.size w1 _).trans (hb2.mono (by go_size))
  have z2 : w1.heap.size ≤ w2.heap.size := hs2.size
  have HW2 := hide (HW1.out.trans (hs2.mono HW1.out.size))
  clear  hb2 hs2
  go_wp2_with fail
  refine (eqIntS_below _ _ _ _ _ (fun _ => 0) _ (by omega) Src.nil Src.nil).mono ?_
  rintro e w3 ⟨rfl, hb3⟩
  have hs3 : Below w2.heap.size w2 w3 := (by go_grown : Below w2.heap.size w2 _).trans (hb3.mono (by go_size))
  have z3 : w2.heap.size ≤ w3.heap.size := hs3.size
  have HW3 := hide (HW2.out.trans (hs3.mono HW2.out.size))
  clear  hb3 hs3
  go_wp2_with fail
  refine (markIntS_none_below _ _ _ _).mono ?_
  rintro e w4 ⟨rfl, hb4⟩
  have hs4 : Below w3.heap.size w3 w4 := (by go_grown : Below w3.heap.size w3 _).trans (hb4.mono (by go_size))
  have z4 : w3.heap.size ≤ w4.heap.size := hs4.size
  have HW4 := hide (HW3.out.trans (hs4.mono HW3.out.size))
  clear  hb4 hs4
  go_wp2_with fail
  refine (heldIntS_below _ 0 _ _ _ (by omega) (by omega) (by omega) Src.nil).mono ?_
  rintro e w5 ⟨rfl, hb5⟩
  have hs5 : Below w4.heap.size w4 w5 := (by go_grown : Below w4.heap.size w4 _).trans (hb5.mono (by go_size))
  have z5 : w4.heap.size ≤ w5.heap.size := hs5.size
  have HW5 := hide (HW4.out.trans (hs5.mono HW4.out.size))
  clear  hb5 hs5
  go_wp2_with fail
  refine (HIM.out _).mono ?_
  rintro e w6 ⟨rfl, hb6⟩
  have hs6 : Below w5.heap.size w5 w6 := (by go_grown : Below w5.heap.size w5 _).trans (hb6.mono (by go_size))
  have z6 : w5.heap.size ≤ w6.heap.size := hs6.size
  have HW6 := hide (HW5.out.trans (hs6.mono HW5.out.size))
  clear  hb6 hs6
  go_wp2_with fail
  refine (eqIntS_below _ _ _ _ _ (fun _ => 0) _ (by omega) Src.nil Src.nil).mono ?_
  rintro e w7 ⟨rfl, hb7⟩
  have hs7 : Below w6.heap.size w6 w7 := (by go_grown : Below w6.heap.size w6 _).trans (hb7.mono (by go_size))
  have z7 : w6.heap.size ≤ w7.heap.size := hs7.size
  have HW7 := hide (HW6.out.trans (hs7.mono HW6.out.size))
  clear  hb7 hs7
  go_wp2_with fail
  refine (heldIntS_below _ 0 _ _ _ (by omega) (by omega) (by omega) Src.nil).mono ?_
  rintro e w8 ⟨rfl, hb8⟩
  have hs8 : Below w7.heap.size w7 w8 := (by go_grown : Below w7.heap.size w7 _).trans (hb8.mono (by go_size))
  have z8 : w7.heap.size ≤ w8.heap.size := hs8.size
  have HW8 := hide (HW7.out.trans (hs8.mono HW7.out.size))
  clear  hb8 hs8
  go_wp2
  go_ret
  exact ⟨rfl, by have h := HW8.out; have hz := h.size; go_grown⟩
theorem lawParse_arr (s : ByteArray) (w : World) (hn2 : s.size ≤ 1048576) (HSP : Hid (∀ w, Calls Try.prog 15 #[.string s] w (ParSrc w s.size (sq s)))) (HIM : Hid (∀ w, Calls Try.prog 16 #[.string s] w (ParArr w s.size (sq s)))) :
    Calls Try.prog 5 #[.string s] w fun e w' => e = .returned (.bool true) ∧ Below w.heap.size w w' := by
  go_enter Try.func5, Try.ntmps5
  go_wp2_with fail
  refine (HSP.out _).mono ?_
  rintro e w1 ⟨A1, d1, rfl, hs_s, hb1⟩
  have hs1 : Below w.heap.size w w1 := (by go_grown : Below w.heap.size w _).trans (hb1.mono (by go_size))
  have z1 : w.heap.size ≤ w1.heap.size := hs1.size
  have HW1 := hide hs1
  have HS2_s := hide hs_s
  clear hs_s hb1 hs1
  go_wp2_with fail
  refine (HIM.out _).mono ?_
  rintro e w2 ⟨g2, c_g2, rfl, lo_g2, ha_g2, hb2⟩
  try simp only [World.size_alloc] at lo_g2
  have hs2 : Below w1.heap.size w1 w2 := (by go_grown : Below w1.heap.size w1 _).trans (hb2.mono (by go_size))
  have z2 : w1.heap.size ≤ w2.heap.size := hs2.size
  have HW2 := hide (HW1.out.trans (hs2.mono HW1.out.size))
  have HA_i_2 := hide ha_g2
  have hi_i_2 : g2 < w2.heap.size := ha_g2.lt
  have HV_s_2 := hide hs2
  clear ha_g2 hb2 hs2
  go_wp2_with fail
  refine (eqIntS_below _ _ _ _ _ (sq s) _ hn2 (by first | exact Src.of_arr HA_i_2.out | exact Src.of_arr (HA_i_2.out.alloc _) | exact Src.of_arr ((HA_i_2.out.alloc _).alloc _) | exact Src.of_arr HA_i_2.out.drew) (by first | exact (HS2_s.out.below HV_s_2.out) | exact Src.alloc (HS2_s.out.below HV_s_2.out) _ | exact Src.alloc (Src.alloc (HS2_s.out.below HV_s_2.out) _) _ | exact Src.drew (HS2_s.out.below HV_s_2.out))).mono ?_
  rintro e w3 ⟨rfl, hb3⟩
  have hs3 : Below w2.heap.size w2 w3 := (by go_grown : Below w2.heap.size w2 _).trans (hb3.mono (by go_size))
  have z3 : w2.heap.size ≤ w3.heap.size := hs3.size
  have HW3 := hide (HW2.out.trans (hs3.mono HW2.out.size))
  have HA_i_3 := hide (HA_i_2.out.all hs3)
  have HV_s_3 := hide (HV_s_2.out.trans (hs3.mono HV_s_2.out.size))
  clear HA_i_2 hb3 hs3
  go_wp2_with fail
  refine (markIntS_arr _ _ _ (sq s) _ _ hn2 (by omega) (by omega) (by first | exact HA_i_3.out | exact HA_i_3.out.alloc _ | exact (HA_i_3.out.alloc _).alloc _ | exact HA_i_3.out.drew)).mono ?_
  rintro e w4 ⟨rfl, ha_n, hb4⟩
  have hs4 : w3.grownBy w4 (some g2) := grownBy_trans (grownBy_of_below (by go_grown) _) hb4
  have z4 : w3.heap.size ≤ w4.heap.size := hs4.size
  have HW4 := hide (HW3.out.grown hs4 HW3.out.size (fun k hk => by injection hk with hk; have := HW3.out.size; omega))
  have HA_i_4 := hide ha_n
  have hi_i_4 : g2 < w4.heap.size := ha_n.lt
  have HV_s_4 := hide (HV_s_3.out.grown hs4 HV_s_3.out.size (fun k hk => by injection hk with hk; have := HV_s_3.out.size; omega))
  clear ha_n hb4 hs4
  go_wp2_with fail
  refine (heldIntS_below _ _ _ _ _ hn2 (by omega) (by omega) (by first | exact Src.of_arr HA_i_4.out | exact Src.of_arr (HA_i_4.out.alloc _) | exact Src.of_arr ((HA_i_4.out.alloc _).alloc _) | exact Src.of_arr HA_i_4.out.drew)).mono ?_
  rintro e w5 ⟨rfl, hb5⟩
  have hs5 : Below w4.heap.size w4 w5 := (by go_grown : Below w4.heap.size w4 _).trans (hb5.mono (by go_size))
  have z5 : w4.heap.size ≤ w5.heap.size := hs5.size
  have HW5 := hide (HW4.out.trans (hs5.mono HW4.out.size))
  have HA_i_5 := hide (HA_i_4.out.all hs5)
  have HV_s_5 := hide (HV_s_4.out.trans (hs5.mono HV_s_4.out.size))
  clear HA_i_4 hb5 hs5
  go_wp2_with fail
  refine (HIM.out _).mono ?_
  rintro e w6 ⟨g6, c_g6, rfl, lo_g6, ha_g6, hb6⟩
  try simp only [World.size_alloc] at lo_g6
  have hs6 : Below w5.heap.size w5 w6 := (by go_grown : Below w5.heap.size w5 _).trans (hb6.mono (by go_size))
  have z6 : w5.heap.size ≤ w6.heap.size := hs6.size
  have HW6 := hide (HW5.out.trans (hs6.mono HW5.out.size))
  have HA_i_6 := hide (HA_i_5.out.all hs6)
  have HA_j_6 := hide ha_g6
  have hi_j_6 : g6 < w6.heap.size := ha_g6.lt
  have HV_s_6 := hide (HV_s_5.out.trans (hs6.mono HV_s_5.out.size))
  clear HA_i_5 ha_g6 hb6 hs6
  go_wp2_with fail
  refine (eqIntS_below _ _ _ _ _ (sq s) _ hn2 (by first | exact Src.of_arr HA_j_6.out | exact Src.of_arr (HA_j_6.out.alloc _) | exact Src.of_arr ((HA_j_6.out.alloc _).alloc _) | exact Src.of_arr HA_j_6.out.drew) (by first | exact (HS2_s.out.below HV_s_6.out) | exact Src.alloc (HS2_s.out.below HV_s_6.out) _ | exact Src.alloc (Src.alloc (HS2_s.out.below HV_s_6.out) _) _ | exact Src.drew (HS2_s.out.below HV_s_6.out))).mono ?_
  rintro e w7 ⟨rfl, hb7⟩
  have hs7 : Below w6.heap.size w6 w7 := (by go_grown : Below w6.heap.size w6 _).trans (hb7.mono (by go_size))
  have z7 : w6.heap.size ≤ w7.heap.size := hs7.size
  have HW7 := hide (HW6.out.trans (hs7.mono HW6.out.size))
  have HA_i_7 := hide (HA_i_6.out.all hs7)
  have HA_j_7 := hide (HA_j_6.out.all hs7)
  have HV_s_7 := hide (HV_s_6.out.trans (hs7.mono HV_s_6.out.size))
  clear HA_i_6 HA_j_6 hb7 hs7
  go_wp2_with fail
  refine (heldIntS_below _ _ _ _ _ hn2 (by omega) (by omega) (by first | exact Src.of_arr HA_i_7.out | exact Src.of_arr (HA_i_7.out.alloc _) | exact Src.of_arr ((HA_i_7.out.alloc _).alloc _) | exact Src.of_arr HA_i_7.out.drew)).mono ?_
  rintro e w8 ⟨rfl, hb8⟩
  have hs8 : Below w7.heap.size w7 w8 := (by go_grown : Below w7.heap.size w7 _).trans (hb8.mono (by go_size))
  have z8 : w7.heap.size ≤ w8.heap.size := hs8.size
  have HW8 := hide (HW7.out.trans (hs8.mono HW7.out.size))
  have HA_i_8 := hide (HA_i_7.out.all hs8)
  have HA_j_8 := hide (HA_j_7.out.all hs8)
  have HV_s_8 := hide (HV_s_7.out.trans (hs8.mono HV_s_7.out.size))
  clear HA_i_7 HA_j_7 hb8 hs8
  go_wp2
  go_ret
  exact ⟨rfl, by have h := HW8.out; have hz := h.size; go_grown⟩
theorem lawParseColours (s : ByteArray) (w : World) (hl : s.size ≤ 9223372036854775807) :
    Calls Try.prog 5 #[.string s] w fun e w' => e = .returned (.bool true) ∧ Below w.heap.size w w' := by
  by_cases h1 : 1048576 < s.size
  · have hbig' : (1048576 : Int) < s.size := by omega
    go_enter Try.func5, Try.ntmps5
    go_wp2
    go_ret
    exact ⟨rfl, by go_grown⟩
  · cases hd : digB s
    · exact lawParse_no s w (by omega) (hide fun w => (parSpec_any s w (by omega)).mono fun e w' h => by unfold ParSpec at h; rwa [if_neg (by rw [hd]; simp)] at h) (hide fun w => (parImpl_any s w (by omega)).mono fun e w' h => by unfold ParImpl at h; rwa [if_neg (by rw [hd]; simp)] at h)
    · exact lawParse_arr s w (by omega) (hide fun w => (parSpec_any s w (by omega)).mono fun e w' h => by unfold ParSpec at h; rwa [if_pos hd] at h) (hide fun w => (parImpl_any s w (by omega)).mono fun e w' h => by unfold ParImpl at h; rwa [if_pos hd] at h)
end Go.Proofs.Ytjbhmncpbhlmiaa
