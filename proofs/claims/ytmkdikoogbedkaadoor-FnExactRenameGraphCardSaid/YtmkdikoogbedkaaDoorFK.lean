import Derived.Test.YtmkdikoogbedkaaDoorFJ
import Derived.Deep.RegionHeld3
namespace Go.Proofs.YtmkdikoogbedkaaDoor
open Go.RowKit
set_option maxHeartbeats 4000000
set_option maxRecDepth 8000
theorem lawRename_no (A : Option Addr) (n c : Nat) (f : Nat → Int) (own : Bool) (B : Option Addr) (m mc : Nat) (v : Nat → Int) (w : World) (hn2 : n ≤ 1048576) (hm2 : m ≤ 1048576) (hno : Hid ((goodB n f && namesB n m v) = false)) (HS_A : Hid (Src w A n (iv f))) (HS_V : Hid (Src w B m (iv v))) :
    Calls Tryd.prog 5 #[.agg #[.slice A n c, .bool own], .slice B m mc] w fun e w' => e = .returned (.bool true) ∧ Below w.heap.size w w' := by
  go_enter Tryd.func5, Tryd.ntmps5
  go_wp2_with fail
  refine (szGraph_ok _ _ _ _ _ _ (by omega) (by omega)).mono ?_
  rintro e w1 ⟨rfl, hb1⟩
  have hs1 : Below w.heap.size w w1 := (by go_grown : Below w.heap.size w _).trans (hb1.mono (by go_size))
  have z1 : w.heap.size ≤ w1.heap.size := hs1.size
  have HW1 := hide hs1
  have c_aG0_1 : w1.cell? ⟨w.heap.size, 0, none⟩ = some (.slice A n c) := (hb1.cell (p := ⟨w.heap.size, 0, none⟩) (by go_size)).trans (by simp [go_sem])
  have c_aG1_1 : w1.cell? ⟨w.heap.size, 1, none⟩ = some (.bool own) := (hb1.cell (p := ⟨w.heap.size, 1, none⟩) (by go_size)).trans (by simp [go_sem])
  have l_aG_1 : w.heap.size < w1.heap.size := Nat.lt_of_lt_of_le (by go_size) hb1.size
  clear  hb1 hs1
  go_wp2_with fail
  refine (toGraph_any _ _ _ f _ _ hn2 (by first | exact (HS_A.out.below HW1.out) | exact Src.alloc (HS_A.out.below HW1.out) _ | exact Src.alloc (Src.alloc (HS_A.out.below HW1.out) _) _ | exact Src.drew (HS_A.out.below HW1.out))).mono ?_
  rintro e w2 ⟨g2, rfl, lo_g2, ha_r, hb2⟩
  try simp only [World.size_alloc] at lo_g2
  have hs2 : Below w1.heap.size w1 w2 := (by go_grown : Below w1.heap.size w1 _).trans (hb2.mono (by go_size))
  have z2 : w1.heap.size ≤ w2.heap.size := hs2.size
  have HW2 := hide (HW1.out.trans (hs2.mono HW1.out.size))
  have c_aG0_2 : w2.cell? ⟨w.heap.size, 0, none⟩ = some (.slice A n c) := (hs2.cell (p := ⟨w.heap.size, 0, none⟩) l_aG_1).trans c_aG0_1
  have c_aG1_2 : w2.cell? ⟨w.heap.size, 1, none⟩ = some (.bool own) := (hs2.cell (p := ⟨w.heap.size, 1, none⟩) l_aG_1).trans c_aG1_1
  have l_aG_2 : w.heap.size < w2.heap.size := Nat.lt_of_lt_of_le l_aG_1 z2
  have HA_a_2 := hide ha_r
  have hi_a_2 : g2 < w2.heap.size := ha_r.lt
  clear c_aG0_1 c_aG1_1 l_aG_1 ha_r hb2 hs2
  go_wp2_with fail
  refine (toIntS_new _ _ _ v _ hm2 (by first | exact (HS_V.out.below HW2.out) | exact Src.alloc (HS_V.out.below HW2.out) _ | exact Src.alloc (Src.alloc (HS_V.out.below HW2.out) _) _ | exact Src.drew (HS_V.out.below HW2.out))).mono ?_
  rintro e w3 ⟨g3, rfl, lo_g3, ha_r, hb3⟩
  try simp only [World.size_alloc] at lo_g3
  have hs3 : Below w2.heap.size w2 w3 := (by go_grown : Below w2.heap.size w2 _).trans (hb3.mono (by go_size))
  have z3 : w2.heap.size ≤ w3.heap.size := hs3.size
  have HW3 := hide (HW2.out.trans (hs3.mono HW2.out.size))
  have c_aG0_3 : w3.cell? ⟨w.heap.size, 0, none⟩ = some (.slice A n c) := (hs3.cell (p := ⟨w.heap.size, 0, none⟩) l_aG_2).trans c_aG0_2
  have c_aG1_3 : w3.cell? ⟨w.heap.size, 1, none⟩ = some (.bool own) := (hs3.cell (p := ⟨w.heap.size, 1, none⟩) l_aG_2).trans c_aG1_2
  have l_aG_3 : w.heap.size < w3.heap.size := Nat.lt_of_lt_of_le l_aG_2 z3
  have HA_a_3 := hide (HA_a_2.out.all hs3)
  have HA_b_3 := hide ha_r
  have hi_b_3 : g3 < w3.heap.size := ha_r.lt
  clear c_aG0_2 c_aG1_2 l_aG_2 HA_a_2 ha_r hb3 hs3
  go_wp2_with fail
  refine (renSpec_no _ _ _ f v _ _ _ _ _ hn2 hm2 (Nat.le_refl _) hno.out (by first | exact HA_a_3.out | exact HA_a_3.out.alloc _ | exact (HA_a_3.out.alloc _).alloc _ | exact HA_a_3.out.drew) (by first | exact Src.of_arr HA_b_3.out | exact Src.of_arr (HA_b_3.out.alloc _) | exact Src.of_arr ((HA_b_3.out.alloc _).alloc _) | exact Src.of_arr HA_b_3.out.drew)).mono ?_
  rintro e w4 ⟨rfl, hb4⟩
  have hs4 : Below w3.heap.size w3 w4 := (by go_grown : Below w3.heap.size w3 _).trans (hb4.mono (by go_size))
  have z4 : w3.heap.size ≤ w4.heap.size := hs4.size
  have HW4 := hide (HW3.out.trans (hs4.mono HW3.out.size))
  have c_aG0_4 : w4.cell? ⟨w.heap.size, 0, none⟩ = some (.slice A n c) := (hs4.cell (p := ⟨w.heap.size, 0, none⟩) l_aG_3).trans c_aG0_3
  have c_aG1_4 : w4.cell? ⟨w.heap.size, 1, none⟩ = some (.bool own) := (hs4.cell (p := ⟨w.heap.size, 1, none⟩) l_aG_3).trans c_aG1_3
  have l_aG_4 : w.heap.size < w4.heap.size := Nat.lt_of_lt_of_le l_aG_3 z4
  have HA_a_4 := hide (HA_a_3.out.all hs4)
  have HA_b_4 := hide (HA_b_3.out.all hs4)
  clear c_aG0_3 c_aG1_3 l_aG_3 HA_a_3 HA_b_3 hb4 hs4
  go_wp2_with fail
  refine (toGraph_any _ _ _ f _ _ hn2 (by first | exact (HS_A.out.below HW4.out) | exact Src.alloc (HS_A.out.below HW4.out) _ | exact Src.alloc (Src.alloc (HS_A.out.below HW4.out) _) _ | exact Src.drew (HS_A.out.below HW4.out))).mono ?_
  rintro e w5 ⟨g5, rfl, lo_g5, ha_r, hb5⟩
  try simp only [World.size_alloc] at lo_g5
  have hs5 : Below w4.heap.size w4 w5 := (by go_grown : Below w4.heap.size w4 _).trans (hb5.mono (by go_size))
  have z5 : w4.heap.size ≤ w5.heap.size := hs5.size
  have HW5 := hide (HW4.out.trans (hs5.mono HW4.out.size))
  have c_aG0_5 : w5.cell? ⟨w.heap.size, 0, none⟩ = some (.slice A n c) := (hs5.cell (p := ⟨w.heap.size, 0, none⟩) l_aG_4).trans c_aG0_4
  have c_aG1_5 : w5.cell? ⟨w.heap.size, 1, none⟩ = some (.bool own) := (hs5.cell (p := ⟨w.heap.size, 1, none⟩) l_aG_4).trans c_aG1_4
  have l_aG_5 : w.heap.size < w5.heap.size := Nat.lt_of_lt_of_le l_aG_4 z5
  have c_s0_5 : w5.cell? ⟨w4.heap.size, 0, none⟩ = some (.slice none 0 0) := (hb5.cell (p := ⟨w4.heap.size, 0, none⟩) (by go_size)).trans (by simp [go_sem])
  have c_s1_5 : w5.cell? ⟨w4.heap.size, 1, none⟩ = some (.bool false) := (hb5.cell (p := ⟨w4.heap.size, 1, none⟩) (by go_size)).trans (by simp [go_sem])
  have l_s_5 : w4.heap.size < w5.heap.size := Nat.lt_of_lt_of_le (by go_size) hb5.size
  have HA_a_5 := hide (HA_a_4.out.all hs5)
  have HA_b_5 := hide (HA_b_4.out.all hs5)
  have HA_x_5 := hide ha_r
  have hi_x_5 : g5 < w5.heap.size := ha_r.lt
  clear c_aG0_4 c_aG1_4 l_aG_4 HA_a_4 HA_b_4 ha_r hb5 hs5
  go_wp2_with fail
  refine (toIntS_new _ _ _ v _ hm2 (by first | exact (HS_V.out.below HW5.out) | exact Src.alloc (HS_V.out.below HW5.out) _ | exact Src.alloc (Src.alloc (HS_V.out.below HW5.out) _) _ | exact Src.drew (HS_V.out.below HW5.out))).mono ?_
  rintro e w6 ⟨g6, rfl, lo_g6, ha_r, hb6⟩
  try simp only [World.size_alloc] at lo_g6
  have hs6 : Below w5.heap.size w5 w6 := (by go_grown : Below w5.heap.size w5 _).trans (hb6.mono (by go_size))
  have z6 : w5.heap.size ≤ w6.heap.size := hs6.size
  have HW6 := hide (HW5.out.trans (hs6.mono HW5.out.size))
  have c_aG0_6 : w6.cell? ⟨w.heap.size, 0, none⟩ = some (.slice A n c) := (hs6.cell (p := ⟨w.heap.size, 0, none⟩) l_aG_5).trans c_aG0_5
  have c_aG1_6 : w6.cell? ⟨w.heap.size, 1, none⟩ = some (.bool own) := (hs6.cell (p := ⟨w.heap.size, 1, none⟩) l_aG_5).trans c_aG1_5
  have l_aG_6 : w.heap.size < w6.heap.size := Nat.lt_of_lt_of_le l_aG_5 z6
  have c_s0_6 : w6.cell? ⟨w4.heap.size, 0, none⟩ = some (.slice none 0 0) := (hs6.cell (p := ⟨w4.heap.size, 0, none⟩) l_s_5).trans c_s0_5
  have c_s1_6 : w6.cell? ⟨w4.heap.size, 1, none⟩ = some (.bool false) := (hs6.cell (p := ⟨w4.heap.size, 1, none⟩) l_s_5).trans c_s1_5
  have l_s_6 : w4.heap.size < w6.heap.size := Nat.lt_of_lt_of_le l_s_5 z6
  have c_x0_6 : w6.cell? ⟨w5.heap.size, 0, none⟩ = some (.slice (some ⟨g5, 0, none⟩) n n) := (hb6.cell (p := ⟨w5.heap.size, 0, none⟩) (by go_size)).trans (by simp [go_sem])
  have c_x1_6 : w6.cell? ⟨w5.heap.size, 1, none⟩ = some (.bool own) := (hb6.cell (p := ⟨w5.heap.size, 1, none⟩) (by go_size)).trans (by simp [go_sem])
  have l_x_6 : w5.heap.size < w6.heap.size := Nat.lt_of_lt_of_le (by go_size) hb6.size
  have HA_a_6 := hide (HA_a_5.out.all hs6)
  have HA_b_6 := hide (HA_b_5.out.all hs6)
  have HA_x_6 := hide (HA_x_5.out.all hs6)
  have HA_y_6 := hide ha_r
  have hi_y_6 : g6 < w6.heap.size := ha_r.lt
  clear c_aG0_5 c_aG1_5 l_aG_5 c_s0_5 c_s1_5 l_s_5 HA_a_5 HA_b_5 HA_x_5 ha_r hb6 hs6
  go_wp2_with fail
  refine (renImpl_no _ _ _ f v _ _ _ _ _ hn2 hm2 hno.out (by first | exact HA_x_6.out | exact HA_x_6.out.alloc _ | exact (HA_x_6.out.alloc _).alloc _ | exact HA_x_6.out.drew) (by first | exact Src.of_arr HA_y_6.out | exact Src.of_arr (HA_y_6.out.alloc _) | exact Src.of_arr ((HA_y_6.out.alloc _).alloc _) | exact Src.of_arr HA_y_6.out.drew)).mono ?_
  rintro e w7 ⟨rfl, hb7⟩
  have hs7 : Below w6.heap.size w6 w7 := (by go_grown : Below w6.heap.size w6 _).trans (hb7.mono (by go_size))
  have z7 : w6.heap.size ≤ w7.heap.size := hs7.size
  have HW7 := hide (HW6.out.trans (hs7.mono HW6.out.size))
  have c_aG0_7 : w7.cell? ⟨w.heap.size, 0, none⟩ = some (.slice A n c) := (hs7.cell (p := ⟨w.heap.size, 0, none⟩) l_aG_6).trans c_aG0_6
  have c_aG1_7 : w7.cell? ⟨w.heap.size, 1, none⟩ = some (.bool own) := (hs7.cell (p := ⟨w.heap.size, 1, none⟩) l_aG_6).trans c_aG1_6
  have l_aG_7 : w.heap.size < w7.heap.size := Nat.lt_of_lt_of_le l_aG_6 z7
  have c_s0_7 : w7.cell? ⟨w4.heap.size, 0, none⟩ = some (.slice none 0 0) := (hs7.cell (p := ⟨w4.heap.size, 0, none⟩) l_s_6).trans c_s0_6
  have c_s1_7 : w7.cell? ⟨w4.heap.size, 1, none⟩ = some (.bool false) := (hs7.cell (p := ⟨w4.heap.size, 1, none⟩) l_s_6).trans c_s1_6
  have l_s_7 : w4.heap.size < w7.heap.size := Nat.lt_of_lt_of_le l_s_6 z7
  have c_x0_7 : w7.cell? ⟨w5.heap.size, 0, none⟩ = some (.slice (some ⟨g5, 0, none⟩) n n) := (hs7.cell (p := ⟨w5.heap.size, 0, none⟩) l_x_6).trans c_x0_6
  have c_x1_7 : w7.cell? ⟨w5.heap.size, 1, none⟩ = some (.bool own) := (hs7.cell (p := ⟨w5.heap.size, 1, none⟩) l_x_6).trans c_x1_6
  have l_x_7 : w5.heap.size < w7.heap.size := Nat.lt_of_lt_of_le l_x_6 z7
  have HA_a_7 := hide (HA_a_6.out.all hs7)
  have HA_b_7 := hide (HA_b_6.out.all hs7)
  have HA_x_7 := hide (HA_x_6.out.all hs7)
  have HA_y_7 := hide (HA_y_6.out.all hs7)
  clear c_aG0_6 c_aG1_6 l_aG_6 c_s0_6 c_s1_6 l_s_6 c_x0_6 c_x1_6 l_x_6 HA_a_6 HA_b_6 HA_x_6 HA_y_6 hb7 hs7
  go_wp2_with fail
  refine (eqGraph_true _ _ _ _ _ (fun _ => 0) _ _ (by omega) Src.nil Src.nil).mono ?_
  rintro e w8 ⟨rfl, hb8⟩
  have hs8 : Below w7.heap.size w7 w8 := (by go_grown : Below w7.heap.size w7 _).trans (hb8.mono (by go_size))
  have z8 : w7.heap.size ≤ w8.heap.size := hs8.size
  have HW8 := hide (HW7.out.trans (hs8.mono HW7.out.size))
  have c_aG0_8 : w8.cell? ⟨w.heap.size, 0, none⟩ = some (.slice A n c) := (hs8.cell (p := ⟨w.heap.size, 0, none⟩) l_aG_7).trans c_aG0_7
  have c_aG1_8 : w8.cell? ⟨w.heap.size, 1, none⟩ = some (.bool own) := (hs8.cell (p := ⟨w.heap.size, 1, none⟩) l_aG_7).trans c_aG1_7
  have l_aG_8 : w.heap.size < w8.heap.size := Nat.lt_of_lt_of_le l_aG_7 z8
  have c_s0_8 : w8.cell? ⟨w4.heap.size, 0, none⟩ = some (.slice none 0 0) := (hs8.cell (p := ⟨w4.heap.size, 0, none⟩) l_s_7).trans c_s0_7
  have c_s1_8 : w8.cell? ⟨w4.heap.size, 1, none⟩ = some (.bool false) := (hs8.cell (p := ⟨w4.heap.size, 1, none⟩) l_s_7).trans c_s1_7
  have l_s_8 : w4.heap.size < w8.heap.size := Nat.lt_of_lt_of_le l_s_7 z8
  have c_x0_8 : w8.cell? ⟨w5.heap.size, 0, none⟩ = some (.slice (some ⟨g5, 0, none⟩) n n) := (hs8.cell (p := ⟨w5.heap.size, 0, none⟩) l_x_7).trans c_x0_7
  have c_x1_8 : w8.cell? ⟨w5.heap.size, 1, none⟩ = some (.bool own) := (hs8.cell (p := ⟨w5.heap.size, 1, none⟩) l_x_7).trans c_x1_7
  have l_x_8 : w5.heap.size < w8.heap.size := Nat.lt_of_lt_of_le l_x_7 z8
  have c_i0_8 : w8.cell? ⟨w7.heap.size, 0, none⟩ = some (.slice none 0 0) := (hb8.cell (p := ⟨w7.heap.size, 0, none⟩) (by go_size)).trans (by simp [go_sem])
  have c_i1_8 : w8.cell? ⟨w7.heap.size, 1, none⟩ = some (.bool false) := (hb8.cell (p := ⟨w7.heap.size, 1, none⟩) (by go_size)).trans (by simp [go_sem])
  have l_i_8 : w7.heap.size < w8.heap.size := Nat.lt_of_lt_of_le (by go_size) hb8.size
  have HA_a_8 := hide (HA_a_7.out.all hs8)
  have HA_b_8 := hide (HA_b_7.out.all hs8)
  have HA_x_8 := hide (HA_x_7.out.all hs8)
  have HA_y_8 := hide (HA_y_7.out.all hs8)
  clear c_aG0_7 c_aG1_7 l_aG_7 c_s0_7 c_s1_7 l_s_7 c_x0_7 c_x1_7 l_x_7 HA_a_7 HA_b_7 HA_x_7 HA_y_7 hb8 hs8
  go_wp2_with fail
  have KK : Hid (w8.drew.cell? ⟨w5.heap.size, 0, none⟩ = some (.slice (some ⟨g5, 0, none⟩) n n) ∧ w8.drew.cell? ⟨w5.heap.size, 1, none⟩ = some (.bool own) ∧ w8.drew.cell? ⟨w.heap.size, 0, none⟩ = some (.slice A n c) ∧ w8.drew.cell? ⟨w.heap.size, 1, none⟩ = some (.bool own)) := hide ⟨c_x0_8, c_x1_8, c_aG0_8, c_aG1_8⟩
  go_region_held3 (fun w' => w'.cell? ⟨w5.heap.size, 0, none⟩ = some (.slice (some ⟨g5, 0, none⟩) n n) ∧ w'.cell? ⟨w5.heap.size, 1, none⟩ = some (.bool own) ∧ w'.cell? ⟨w.heap.size, 0, none⟩ = some (.slice A n c) ∧ w'.cell? ⟨w.heap.size, 1, none⟩ = some (.bool own)) (first | exact KK.out | exact four_below (by assumption) KK.out | exact four_below (by assumption) (four_below (by assumption) KK.out)) (first | (go_at_call 12; refine (toGraph_any _ _ _ f _ _ hn2 (by exact Src.drew (HS_A.out.below HW8.out))).mono ?_; rintro e w9 ⟨g9, rfl, lo_g9, ha_r, hb9⟩; have HA_r := hide ha_r; clear ha_r) | (go_at_call 15; refine (eqGraph_true _ _ _ _ _ f _ _ hn2 (by exact Src.of_arr ((HA_x_8.out.drew).all hb9)) (by exact Src.of_arr HA_r.out)).mono ?_; rintro e w10 ⟨rfl, hb10⟩))
  have hbr : Below w8.heap.size w8 w10 := (Below.drew (Below.refl _ _)).trans (Below.trans hb9 (hb10.mono hb9.size))
  clear KK HA_r lo_g9 hb9 hb10
  have hb10 := hbr
  clear hbr
  have hs10 : Below w8.heap.size w8 w10 := (by go_grown : Below w8.heap.size w8 _).trans (hb10.mono (by go_size))
  have z10 : w8.heap.size ≤ w10.heap.size := hs10.size
  have HW10 := hide (HW8.out.trans (hs10.mono HW8.out.size))
  have c_aG0_10 : w10.cell? ⟨w.heap.size, 0, none⟩ = some (.slice A n c) := (hs10.cell (p := ⟨w.heap.size, 0, none⟩) l_aG_8).trans c_aG0_8
  have c_aG1_10 : w10.cell? ⟨w.heap.size, 1, none⟩ = some (.bool own) := (hs10.cell (p := ⟨w.heap.size, 1, none⟩) l_aG_8).trans c_aG1_8
  have l_aG_10 : w.heap.size < w10.heap.size := Nat.lt_of_lt_of_le l_aG_8 z10
  have c_s0_10 : w10.cell? ⟨w4.heap.size, 0, none⟩ = some (.slice none 0 0) := (hs10.cell (p := ⟨w4.heap.size, 0, none⟩) l_s_8).trans c_s0_8
  have c_s1_10 : w10.cell? ⟨w4.heap.size, 1, none⟩ = some (.bool false) := (hs10.cell (p := ⟨w4.heap.size, 1, none⟩) l_s_8).trans c_s1_8
  have l_s_10 : w4.heap.size < w10.heap.size := Nat.lt_of_lt_of_le l_s_8 z10
  have c_x0_10 : w10.cell? ⟨w5.heap.size, 0, none⟩ = some (.slice (some ⟨g5, 0, none⟩) n n) := (hs10.cell (p := ⟨w5.heap.size, 0, none⟩) l_x_8).trans c_x0_8
  have c_x1_10 : w10.cell? ⟨w5.heap.size, 1, none⟩ = some (.bool own) := (hs10.cell (p := ⟨w5.heap.size, 1, none⟩) l_x_8).trans c_x1_8
  have l_x_10 : w5.heap.size < w10.heap.size := Nat.lt_of_lt_of_le l_x_8 z10
  have c_i0_10 : w10.cell? ⟨w7.heap.size, 0, none⟩ = some (.slice none 0 0) := (hs10.cell (p := ⟨w7.heap.size, 0, none⟩) l_i_8).trans c_i0_8
  have c_i1_10 : w10.cell? ⟨w7.heap.size, 1, none⟩ = some (.bool false) := (hs10.cell (p := ⟨w7.heap.size, 1, none⟩) l_i_8).trans c_i1_8
  have l_i_10 : w7.heap.size < w10.heap.size := Nat.lt_of_lt_of_le l_i_8 z10
  have HA_a_10 := hide (HA_a_8.out.all hs10)
  have HA_b_10 := hide (HA_b_8.out.all hs10)
  have HA_x_10 := hide (HA_x_8.out.all hs10)
  have HA_y_10 := hide (HA_y_8.out.all hs10)
  clear c_aG0_8 c_aG1_8 l_aG_8 c_s0_8 c_s1_8 l_s_8 c_x0_8 c_x1_8 l_x_8 c_i0_8 c_i1_8 l_i_8 HA_a_8 HA_b_8 HA_x_8 HA_y_8 hb10 hs10
  go_wp2_with fail
  refine (toIntS_new _ _ _ v _ hm2 (by first | exact (HS_V.out.below HW10.out) | exact Src.alloc (HS_V.out.below HW10.out) _ | exact Src.alloc (Src.alloc (HS_V.out.below HW10.out) _) _ | exact Src.drew (HS_V.out.below HW10.out))).mono ?_
  rintro e w11 ⟨g11, rfl, lo_g11, ha_r, hb11⟩
  try simp only [World.size_alloc] at lo_g11
  have hs11 : Below w10.heap.size w10 w11 := (by go_grown : Below w10.heap.size w10 _).trans (hb11.mono (by go_size))
  have z11 : w10.heap.size ≤ w11.heap.size := hs11.size
  have HW11 := hide (HW10.out.trans (hs11.mono HW10.out.size))
  have c_aG0_11 : w11.cell? ⟨w.heap.size, 0, none⟩ = some (.slice A n c) := (hs11.cell (p := ⟨w.heap.size, 0, none⟩) l_aG_10).trans c_aG0_10
  have c_aG1_11 : w11.cell? ⟨w.heap.size, 1, none⟩ = some (.bool own) := (hs11.cell (p := ⟨w.heap.size, 1, none⟩) l_aG_10).trans c_aG1_10
  have l_aG_11 : w.heap.size < w11.heap.size := Nat.lt_of_lt_of_le l_aG_10 z11
  have c_s0_11 : w11.cell? ⟨w4.heap.size, 0, none⟩ = some (.slice none 0 0) := (hs11.cell (p := ⟨w4.heap.size, 0, none⟩) l_s_10).trans c_s0_10
  have c_s1_11 : w11.cell? ⟨w4.heap.size, 1, none⟩ = some (.bool false) := (hs11.cell (p := ⟨w4.heap.size, 1, none⟩) l_s_10).trans c_s1_10
  have l_s_11 : w4.heap.size < w11.heap.size := Nat.lt_of_lt_of_le l_s_10 z11
  have c_x0_11 : w11.cell? ⟨w5.heap.size, 0, none⟩ = some (.slice (some ⟨g5, 0, none⟩) n n) := (hs11.cell (p := ⟨w5.heap.size, 0, none⟩) l_x_10).trans c_x0_10
  have c_x1_11 : w11.cell? ⟨w5.heap.size, 1, none⟩ = some (.bool own) := (hs11.cell (p := ⟨w5.heap.size, 1, none⟩) l_x_10).trans c_x1_10
  have l_x_11 : w5.heap.size < w11.heap.size := Nat.lt_of_lt_of_le l_x_10 z11
  have c_i0_11 : w11.cell? ⟨w7.heap.size, 0, none⟩ = some (.slice none 0 0) := (hs11.cell (p := ⟨w7.heap.size, 0, none⟩) l_i_10).trans c_i0_10
  have c_i1_11 : w11.cell? ⟨w7.heap.size, 1, none⟩ = some (.bool false) := (hs11.cell (p := ⟨w7.heap.size, 1, none⟩) l_i_10).trans c_i1_10
  have l_i_11 : w7.heap.size < w11.heap.size := Nat.lt_of_lt_of_le l_i_10 z11
  have HA_a_11 := hide (HA_a_10.out.all hs11)
  have HA_b_11 := hide (HA_b_10.out.all hs11)
  have HA_x_11 := hide (HA_x_10.out.all hs11)
  have HA_y_11 := hide (HA_y_10.out.all hs11)
  have HA_z_11 := hide ha_r
  have hi_z_11 : g11 < w11.heap.size := ha_r.lt
  clear c_aG0_10 c_aG1_10 l_aG_10 c_s0_10 c_s1_10 l_s_10 c_x0_10 c_x1_10 l_x_10 c_i0_10 c_i1_10 l_i_10 HA_a_10 HA_b_10 HA_x_10 HA_y_10 ha_r hb11 hs11
  go_wp2_with fail
  refine (eqIntS_below _ _ _ _ _ v _ hm2 (by first | exact Src.of_arr HA_y_11.out | exact Src.of_arr (HA_y_11.out.alloc _) | exact Src.of_arr ((HA_y_11.out.alloc _).alloc _) | exact Src.of_arr HA_y_11.out.drew) (by first | exact Src.of_arr HA_z_11.out | exact Src.of_arr (HA_z_11.out.alloc _) | exact Src.of_arr ((HA_z_11.out.alloc _).alloc _) | exact Src.of_arr HA_z_11.out.drew)).mono ?_
  rintro e w12 ⟨rfl, hb12⟩
  have hs12 : Below w11.heap.size w11 w12 := (by go_grown : Below w11.heap.size w11 _).trans (hb12.mono (by go_size))
  have z12 : w11.heap.size ≤ w12.heap.size := hs12.size
  have HW12 := hide (HW11.out.trans (hs12.mono HW11.out.size))
  have c_aG0_12 : w12.cell? ⟨w.heap.size, 0, none⟩ = some (.slice A n c) := (hs12.cell (p := ⟨w.heap.size, 0, none⟩) l_aG_11).trans c_aG0_11
  have c_aG1_12 : w12.cell? ⟨w.heap.size, 1, none⟩ = some (.bool own) := (hs12.cell (p := ⟨w.heap.size, 1, none⟩) l_aG_11).trans c_aG1_11
  have l_aG_12 : w.heap.size < w12.heap.size := Nat.lt_of_lt_of_le l_aG_11 z12
  have c_s0_12 : w12.cell? ⟨w4.heap.size, 0, none⟩ = some (.slice none 0 0) := (hs12.cell (p := ⟨w4.heap.size, 0, none⟩) l_s_11).trans c_s0_11
  have c_s1_12 : w12.cell? ⟨w4.heap.size, 1, none⟩ = some (.bool false) := (hs12.cell (p := ⟨w4.heap.size, 1, none⟩) l_s_11).trans c_s1_11
  have l_s_12 : w4.heap.size < w12.heap.size := Nat.lt_of_lt_of_le l_s_11 z12
  have c_x0_12 : w12.cell? ⟨w5.heap.size, 0, none⟩ = some (.slice (some ⟨g5, 0, none⟩) n n) := (hs12.cell (p := ⟨w5.heap.size, 0, none⟩) l_x_11).trans c_x0_11
  have c_x1_12 : w12.cell? ⟨w5.heap.size, 1, none⟩ = some (.bool own) := (hs12.cell (p := ⟨w5.heap.size, 1, none⟩) l_x_11).trans c_x1_11
  have l_x_12 : w5.heap.size < w12.heap.size := Nat.lt_of_lt_of_le l_x_11 z12
  have c_i0_12 : w12.cell? ⟨w7.heap.size, 0, none⟩ = some (.slice none 0 0) := (hs12.cell (p := ⟨w7.heap.size, 0, none⟩) l_i_11).trans c_i0_11
  have c_i1_12 : w12.cell? ⟨w7.heap.size, 1, none⟩ = some (.bool false) := (hs12.cell (p := ⟨w7.heap.size, 1, none⟩) l_i_11).trans c_i1_11
  have l_i_12 : w7.heap.size < w12.heap.size := Nat.lt_of_lt_of_le l_i_11 z12
  have HA_a_12 := hide (HA_a_11.out.all hs12)
  have HA_b_12 := hide (HA_b_11.out.all hs12)
  have HA_x_12 := hide (HA_x_11.out.all hs12)
  have HA_y_12 := hide (HA_y_11.out.all hs12)
  have HA_z_12 := hide (HA_z_11.out.all hs12)
  clear c_aG0_11 c_aG1_11 l_aG_11 c_s0_11 c_s1_11 l_s_11 c_x0_11 c_x1_11 l_x_11 c_i0_11 c_i1_11 l_i_11 HA_a_11 HA_b_11 HA_x_11 HA_y_11 HA_z_11 hb12 hs12
  go_wp2_with fail
  refine (markGraph_arr _ _ _ f _ _ _ hn2 (by omega) (by omega) (by first | exact HA_x_12.out | exact HA_x_12.out.alloc _ | exact (HA_x_12.out.alloc _).alloc _ | exact HA_x_12.out.drew)).mono ?_
  rintro e w13 ⟨rfl, ha_m, hb13⟩
  have hs13 : w12.grownBy w13 (some g5) := grownBy_trans (grownBy_of_below (by go_grown) _) hb13
  have z13 : w12.heap.size ≤ w13.heap.size := hs13.size
  have HW13 := hide (HW12.out.grown hs13 HW12.out.size (fun k hk => by injection hk with hk; have := HW12.out.size; omega))
  have c_aG0_13 : w13.cell? ⟨w.heap.size, 0, none⟩ = some (.slice A n c) := World.grownBy.cell hs13 c_aG0_12 (by intro h; injection h with h; simp at h; omega)
  have c_aG1_13 : w13.cell? ⟨w.heap.size, 1, none⟩ = some (.bool own) := World.grownBy.cell hs13 c_aG1_12 (by intro h; injection h with h; simp at h; omega)
  have l_aG_13 : w.heap.size < w13.heap.size := Nat.lt_of_lt_of_le l_aG_12 z13
  have c_s0_13 : w13.cell? ⟨w4.heap.size, 0, none⟩ = some (.slice none 0 0) := World.grownBy.cell hs13 c_s0_12 (by intro h; injection h with h; simp at h; omega)
  have c_s1_13 : w13.cell? ⟨w4.heap.size, 1, none⟩ = some (.bool false) := World.grownBy.cell hs13 c_s1_12 (by intro h; injection h with h; simp at h; omega)
  have l_s_13 : w4.heap.size < w13.heap.size := Nat.lt_of_lt_of_le l_s_12 z13
  have c_x0_13 : w13.cell? ⟨w5.heap.size, 0, none⟩ = some (.slice (some ⟨g5, 0, none⟩) n n) := World.grownBy.cell hs13 c_x0_12 (by intro h; injection h with h; simp at h; omega)
  have c_x1_13 : w13.cell? ⟨w5.heap.size, 1, none⟩ = some (.bool own) := World.grownBy.cell hs13 c_x1_12 (by intro h; injection h with h; simp at h; omega)
  have l_x_13 : w5.heap.size < w13.heap.size := Nat.lt_of_lt_of_le l_x_12 z13
  have c_i0_13 : w13.cell? ⟨w7.heap.size, 0, none⟩ = some (.slice none 0 0) := World.grownBy.cell hs13 c_i0_12 (by intro h; injection h with h; simp at h; omega)
  have c_i1_13 : w13.cell? ⟨w7.heap.size, 1, none⟩ = some (.bool false) := World.grownBy.cell hs13 c_i1_12 (by intro h; injection h with h; simp at h; omega)
  have l_i_13 : w7.heap.size < w13.heap.size := Nat.lt_of_lt_of_le l_i_12 z13
  have HA_a_13 := hide (HA_a_12.out.of_block (hs13.block g2 (HA_a_12.out.lt) (by intro h; injection h with h; omega)))
  have HA_b_13 := hide (HA_b_12.out.of_block (hs13.block g3 (HA_b_12.out.lt) (by intro h; injection h with h; omega)))
  have HA_y_13 := hide (HA_y_12.out.of_block (hs13.block g6 (HA_y_12.out.lt) (by intro h; injection h with h; omega)))
  have HA_z_13 := hide (HA_z_12.out.of_block (hs13.block g11 (HA_z_12.out.lt) (by intro h; injection h with h; omega)))
  have HA_x_13 := hide ha_m
  have hi_x_13 : g5 < w13.heap.size := ha_m.lt
  clear c_aG0_12 c_aG1_12 l_aG_12 c_s0_12 c_s1_12 l_s_12 c_x0_12 c_x1_12 l_x_12 c_i0_12 c_i1_12 l_i_12 HA_a_12 HA_b_12 HA_y_12 HA_z_12 ha_m hb13 hs13
  go_wp2_with fail
  refine (markIntS_arr _ _ _ v _ _ hm2 (by omega) (by omega) (by first | exact HA_y_13.out | exact HA_y_13.out.alloc _ | exact (HA_y_13.out.alloc _).alloc _ | exact HA_y_13.out.drew)).mono ?_
  rintro e w14 ⟨rfl, ha_m, hb14⟩
  have hs14 : w13.grownBy w14 (some g6) := grownBy_trans (grownBy_of_below (by go_grown) _) hb14
  have z14 : w13.heap.size ≤ w14.heap.size := hs14.size
  have HW14 := hide (HW13.out.grown hs14 HW13.out.size (fun k hk => by injection hk with hk; have := HW13.out.size; omega))
  have c_aG0_14 : w14.cell? ⟨w.heap.size, 0, none⟩ = some (.slice A n c) := World.grownBy.cell hs14 c_aG0_13 (by intro h; injection h with h; simp at h; omega)
  have c_aG1_14 : w14.cell? ⟨w.heap.size, 1, none⟩ = some (.bool own) := World.grownBy.cell hs14 c_aG1_13 (by intro h; injection h with h; simp at h; omega)
  have l_aG_14 : w.heap.size < w14.heap.size := Nat.lt_of_lt_of_le l_aG_13 z14
  have c_s0_14 : w14.cell? ⟨w4.heap.size, 0, none⟩ = some (.slice none 0 0) := World.grownBy.cell hs14 c_s0_13 (by intro h; injection h with h; simp at h; omega)
  have c_s1_14 : w14.cell? ⟨w4.heap.size, 1, none⟩ = some (.bool false) := World.grownBy.cell hs14 c_s1_13 (by intro h; injection h with h; simp at h; omega)
  have l_s_14 : w4.heap.size < w14.heap.size := Nat.lt_of_lt_of_le l_s_13 z14
  have c_x0_14 : w14.cell? ⟨w5.heap.size, 0, none⟩ = some (.slice (some ⟨g5, 0, none⟩) n n) := World.grownBy.cell hs14 c_x0_13 (by intro h; injection h with h; simp at h; omega)
  have c_x1_14 : w14.cell? ⟨w5.heap.size, 1, none⟩ = some (.bool own) := World.grownBy.cell hs14 c_x1_13 (by intro h; injection h with h; simp at h; omega)
  have l_x_14 : w5.heap.size < w14.heap.size := Nat.lt_of_lt_of_le l_x_13 z14
  have c_i0_14 : w14.cell? ⟨w7.heap.size, 0, none⟩ = some (.slice none 0 0) := World.grownBy.cell hs14 c_i0_13 (by intro h; injection h with h; simp at h; omega)
  have c_i1_14 : w14.cell? ⟨w7.heap.size, 1, none⟩ = some (.bool false) := World.grownBy.cell hs14 c_i1_13 (by intro h; injection h with h; simp at h; omega)
  have l_i_14 : w7.heap.size < w14.heap.size := Nat.lt_of_lt_of_le l_i_13 z14
  have HA_a_14 := hide (HA_a_13.out.of_block (hs14.block g2 (HA_a_13.out.lt) (by intro h; injection h with h; omega)))
  have HA_b_14 := hide (HA_b_13.out.of_block (hs14.block g3 (HA_b_13.out.lt) (by intro h; injection h with h; omega)))
  have HA_x_14 := hide (HA_x_13.out.of_block (hs14.block g5 (HA_x_13.out.lt) (by intro h; injection h with h; omega)))
  have HA_z_14 := hide (HA_z_13.out.of_block (hs14.block g11 (HA_z_13.out.lt) (by intro h; injection h with h; omega)))
  have HA_y_14 := hide ha_m
  have hi_y_14 : g6 < w14.heap.size := ha_m.lt
  clear c_aG0_13 c_aG1_13 l_aG_13 c_s0_13 c_s1_13 l_s_13 c_x0_13 c_x1_13 l_x_13 c_i0_13 c_i1_13 l_i_13 HA_a_13 HA_b_13 HA_x_13 HA_z_13 ha_m hb14 hs14
  go_wp2_with fail
  refine (eqGraph_true _ _ _ _ _ (fun _ => 0) _ _ (by omega) Src.nil Src.nil).mono ?_
  rintro e w15 ⟨rfl, hb15⟩
  have hs15 : Below w14.heap.size w14 w15 := (by go_grown : Below w14.heap.size w14 _).trans (hb15.mono (by go_size))
  have z15 : w14.heap.size ≤ w15.heap.size := hs15.size
  have HW15 := hide (HW14.out.trans (hs15.mono HW14.out.size))
  have c_aG0_15 : w15.cell? ⟨w.heap.size, 0, none⟩ = some (.slice A n c) := (hs15.cell (p := ⟨w.heap.size, 0, none⟩) l_aG_14).trans c_aG0_14
  have c_aG1_15 : w15.cell? ⟨w.heap.size, 1, none⟩ = some (.bool own) := (hs15.cell (p := ⟨w.heap.size, 1, none⟩) l_aG_14).trans c_aG1_14
  have l_aG_15 : w.heap.size < w15.heap.size := Nat.lt_of_lt_of_le l_aG_14 z15
  have c_s0_15 : w15.cell? ⟨w4.heap.size, 0, none⟩ = some (.slice none 0 0) := (hs15.cell (p := ⟨w4.heap.size, 0, none⟩) l_s_14).trans c_s0_14
  have c_s1_15 : w15.cell? ⟨w4.heap.size, 1, none⟩ = some (.bool false) := (hs15.cell (p := ⟨w4.heap.size, 1, none⟩) l_s_14).trans c_s1_14
  have l_s_15 : w4.heap.size < w15.heap.size := Nat.lt_of_lt_of_le l_s_14 z15
  have c_x0_15 : w15.cell? ⟨w5.heap.size, 0, none⟩ = some (.slice (some ⟨g5, 0, none⟩) n n) := (hs15.cell (p := ⟨w5.heap.size, 0, none⟩) l_x_14).trans c_x0_14
  have c_x1_15 : w15.cell? ⟨w5.heap.size, 1, none⟩ = some (.bool own) := (hs15.cell (p := ⟨w5.heap.size, 1, none⟩) l_x_14).trans c_x1_14
  have l_x_15 : w5.heap.size < w15.heap.size := Nat.lt_of_lt_of_le l_x_14 z15
  have c_i0_15 : w15.cell? ⟨w7.heap.size, 0, none⟩ = some (.slice none 0 0) := (hs15.cell (p := ⟨w7.heap.size, 0, none⟩) l_i_14).trans c_i0_14
  have c_i1_15 : w15.cell? ⟨w7.heap.size, 1, none⟩ = some (.bool false) := (hs15.cell (p := ⟨w7.heap.size, 1, none⟩) l_i_14).trans c_i1_14
  have l_i_15 : w7.heap.size < w15.heap.size := Nat.lt_of_lt_of_le l_i_14 z15
  have HA_a_15 := hide (HA_a_14.out.all hs15)
  have HA_b_15 := hide (HA_b_14.out.all hs15)
  have HA_x_15 := hide (HA_x_14.out.all hs15)
  have HA_y_15 := hide (HA_y_14.out.all hs15)
  have HA_z_15 := hide (HA_z_14.out.all hs15)
  clear c_aG0_14 c_aG1_14 l_aG_14 c_s0_14 c_s1_14 l_s_14 c_x0_14 c_x1_14 l_x_14 c_i0_14 c_i1_14 l_i_14 HA_a_14 HA_b_14 HA_x_14 HA_y_14 HA_z_14 hb15 hs15
  go_wp2_with fail
  refine (markGraph_none _ _ _ _ _).mono ?_
  rintro e w16 ⟨rfl, hb16⟩
  have hs16 : Below w15.heap.size w15 w16 := (by go_grown : Below w15.heap.size w15 _).trans (hb16.mono (by go_size))
  have z16 : w15.heap.size ≤ w16.heap.size := hs16.size
  have HW16 := hide (HW15.out.trans (hs16.mono HW15.out.size))
  have c_aG0_16 : w16.cell? ⟨w.heap.size, 0, none⟩ = some (.slice A n c) := (hs16.cell (p := ⟨w.heap.size, 0, none⟩) l_aG_15).trans c_aG0_15
  have c_aG1_16 : w16.cell? ⟨w.heap.size, 1, none⟩ = some (.bool own) := (hs16.cell (p := ⟨w.heap.size, 1, none⟩) l_aG_15).trans c_aG1_15
  have l_aG_16 : w.heap.size < w16.heap.size := Nat.lt_of_lt_of_le l_aG_15 z16
  have c_s0_16 : w16.cell? ⟨w4.heap.size, 0, none⟩ = some (.slice none 0 0) := (hs16.cell (p := ⟨w4.heap.size, 0, none⟩) l_s_15).trans c_s0_15
  have c_s1_16 : w16.cell? ⟨w4.heap.size, 1, none⟩ = some (.bool false) := (hs16.cell (p := ⟨w4.heap.size, 1, none⟩) l_s_15).trans c_s1_15
  have l_s_16 : w4.heap.size < w16.heap.size := Nat.lt_of_lt_of_le l_s_15 z16
  have c_x0_16 : w16.cell? ⟨w5.heap.size, 0, none⟩ = some (.slice (some ⟨g5, 0, none⟩) n n) := (hs16.cell (p := ⟨w5.heap.size, 0, none⟩) l_x_15).trans c_x0_15
  have c_x1_16 : w16.cell? ⟨w5.heap.size, 1, none⟩ = some (.bool own) := (hs16.cell (p := ⟨w5.heap.size, 1, none⟩) l_x_15).trans c_x1_15
  have l_x_16 : w5.heap.size < w16.heap.size := Nat.lt_of_lt_of_le l_x_15 z16
  have c_i0_16 : w16.cell? ⟨w7.heap.size, 0, none⟩ = some (.slice none 0 0) := (hs16.cell (p := ⟨w7.heap.size, 0, none⟩) l_i_15).trans c_i0_15
  have c_i1_16 : w16.cell? ⟨w7.heap.size, 1, none⟩ = some (.bool false) := (hs16.cell (p := ⟨w7.heap.size, 1, none⟩) l_i_15).trans c_i1_15
  have l_i_16 : w7.heap.size < w16.heap.size := Nat.lt_of_lt_of_le l_i_15 z16
  have HA_a_16 := hide (HA_a_15.out.all hs16)
  have HA_b_16 := hide (HA_b_15.out.all hs16)
  have HA_x_16 := hide (HA_x_15.out.all hs16)
  have HA_y_16 := hide (HA_y_15.out.all hs16)
  have HA_z_16 := hide (HA_z_15.out.all hs16)
  clear c_aG0_15 c_aG1_15 l_aG_15 c_s0_15 c_s1_15 l_s_15 c_x0_15 c_x1_15 l_x_15 c_i0_15 c_i1_15 l_i_15 HA_a_15 HA_b_15 HA_x_15 HA_y_15 HA_z_15 hb16 hs16
  go_wp2_with fail
  refine (heldGraph_any _ 0 _ _ _ _ (by omega) (by omega) (by omega) Src.nil).mono ?_
  rintro e w17 ⟨rfl, hb17⟩
  have hs17 : Below w16.heap.size w16 w17 := (by go_grown : Below w16.heap.size w16 _).trans (hb17.mono (by go_size))
  have z17 : w16.heap.size ≤ w17.heap.size := hs17.size
  have HW17 := hide (HW16.out.trans (hs17.mono HW16.out.size))
  have c_aG0_17 : w17.cell? ⟨w.heap.size, 0, none⟩ = some (.slice A n c) := (hs17.cell (p := ⟨w.heap.size, 0, none⟩) l_aG_16).trans c_aG0_16
  have c_aG1_17 : w17.cell? ⟨w.heap.size, 1, none⟩ = some (.bool own) := (hs17.cell (p := ⟨w.heap.size, 1, none⟩) l_aG_16).trans c_aG1_16
  have l_aG_17 : w.heap.size < w17.heap.size := Nat.lt_of_lt_of_le l_aG_16 z17
  have c_s0_17 : w17.cell? ⟨w4.heap.size, 0, none⟩ = some (.slice none 0 0) := (hs17.cell (p := ⟨w4.heap.size, 0, none⟩) l_s_16).trans c_s0_16
  have c_s1_17 : w17.cell? ⟨w4.heap.size, 1, none⟩ = some (.bool false) := (hs17.cell (p := ⟨w4.heap.size, 1, none⟩) l_s_16).trans c_s1_16
  have l_s_17 : w4.heap.size < w17.heap.size := Nat.lt_of_lt_of_le l_s_16 z17
  have c_x0_17 : w17.cell? ⟨w5.heap.size, 0, none⟩ = some (.slice (some ⟨g5, 0, none⟩) n n) := (hs17.cell (p := ⟨w5.heap.size, 0, none⟩) l_x_16).trans c_x0_16
  have c_x1_17 : w17.cell? ⟨w5.heap.size, 1, none⟩ = some (.bool own) := (hs17.cell (p := ⟨w5.heap.size, 1, none⟩) l_x_16).trans c_x1_16
  have l_x_17 : w5.heap.size < w17.heap.size := Nat.lt_of_lt_of_le l_x_16 z17
  have c_i0_17 : w17.cell? ⟨w7.heap.size, 0, none⟩ = some (.slice none 0 0) := (hs17.cell (p := ⟨w7.heap.size, 0, none⟩) l_i_16).trans c_i0_16
  have c_i1_17 : w17.cell? ⟨w7.heap.size, 1, none⟩ = some (.bool false) := (hs17.cell (p := ⟨w7.heap.size, 1, none⟩) l_i_16).trans c_i1_16
  have l_i_17 : w7.heap.size < w17.heap.size := Nat.lt_of_lt_of_le l_i_16 z17
  have HA_a_17 := hide (HA_a_16.out.all hs17)
  have HA_b_17 := hide (HA_b_16.out.all hs17)
  have HA_x_17 := hide (HA_x_16.out.all hs17)
  have HA_y_17 := hide (HA_y_16.out.all hs17)
  have HA_z_17 := hide (HA_z_16.out.all hs17)
  clear c_aG0_16 c_aG1_16 l_aG_16 c_s0_16 c_s1_16 l_s_16 c_x0_16 c_x1_16 l_x_16 c_i0_16 c_i1_16 l_i_16 HA_a_16 HA_b_16 HA_x_16 HA_y_16 HA_z_16 hb17 hs17
  go_wp2_with fail
  refine (toGraph_any _ _ _ f _ _ hn2 (by first | exact (HS_A.out.below HW17.out) | exact Src.alloc (HS_A.out.below HW17.out) _ | exact Src.alloc (Src.alloc (HS_A.out.below HW17.out) _) _ | exact Src.drew (HS_A.out.below HW17.out))).mono ?_
  rintro e w18 ⟨g18, rfl, lo_g18, ha_r, hb18⟩
  try simp only [World.size_alloc] at lo_g18
  have hs18 : Below w17.heap.size w17 w18 := (by go_grown : Below w17.heap.size w17 _).trans (hb18.mono (by go_size))
  have z18 : w17.heap.size ≤ w18.heap.size := hs18.size
  have HW18 := hide (HW17.out.trans (hs18.mono HW17.out.size))
  have c_aG0_18 : w18.cell? ⟨w.heap.size, 0, none⟩ = some (.slice A n c) := (hs18.cell (p := ⟨w.heap.size, 0, none⟩) l_aG_17).trans c_aG0_17
  have c_aG1_18 : w18.cell? ⟨w.heap.size, 1, none⟩ = some (.bool own) := (hs18.cell (p := ⟨w.heap.size, 1, none⟩) l_aG_17).trans c_aG1_17
  have l_aG_18 : w.heap.size < w18.heap.size := Nat.lt_of_lt_of_le l_aG_17 z18
  have c_s0_18 : w18.cell? ⟨w4.heap.size, 0, none⟩ = some (.slice none 0 0) := (hs18.cell (p := ⟨w4.heap.size, 0, none⟩) l_s_17).trans c_s0_17
  have c_s1_18 : w18.cell? ⟨w4.heap.size, 1, none⟩ = some (.bool false) := (hs18.cell (p := ⟨w4.heap.size, 1, none⟩) l_s_17).trans c_s1_17
  have l_s_18 : w4.heap.size < w18.heap.size := Nat.lt_of_lt_of_le l_s_17 z18
  have c_x0_18 : w18.cell? ⟨w5.heap.size, 0, none⟩ = some (.slice (some ⟨g5, 0, none⟩) n n) := (hs18.cell (p := ⟨w5.heap.size, 0, none⟩) l_x_17).trans c_x0_17
  have c_x1_18 : w18.cell? ⟨w5.heap.size, 1, none⟩ = some (.bool own) := (hs18.cell (p := ⟨w5.heap.size, 1, none⟩) l_x_17).trans c_x1_17
  have l_x_18 : w5.heap.size < w18.heap.size := Nat.lt_of_lt_of_le l_x_17 z18
  have c_i0_18 : w18.cell? ⟨w7.heap.size, 0, none⟩ = some (.slice none 0 0) := (hs18.cell (p := ⟨w7.heap.size, 0, none⟩) l_i_17).trans c_i0_17
  have c_i1_18 : w18.cell? ⟨w7.heap.size, 1, none⟩ = some (.bool false) := (hs18.cell (p := ⟨w7.heap.size, 1, none⟩) l_i_17).trans c_i1_17
  have l_i_18 : w7.heap.size < w18.heap.size := Nat.lt_of_lt_of_le l_i_17 z18
  have HA_a_18 := hide (HA_a_17.out.all hs18)
  have HA_b_18 := hide (HA_b_17.out.all hs18)
  have HA_x_18 := hide (HA_x_17.out.all hs18)
  have HA_y_18 := hide (HA_y_17.out.all hs18)
  have HA_z_18 := hide (HA_z_17.out.all hs18)
  have HA_p_18 := hide ha_r
  have hi_p_18 : g18 < w18.heap.size := ha_r.lt
  clear c_aG0_17 c_aG1_17 l_aG_17 c_s0_17 c_s1_17 l_s_17 c_x0_17 c_x1_17 l_x_17 c_i0_17 c_i1_17 l_i_17 HA_a_17 HA_b_17 HA_x_17 HA_y_17 HA_z_17 ha_r hb18 hs18
  go_wp2_with fail
  refine (toIntS_new _ _ _ v _ hm2 (by first | exact (HS_V.out.below HW18.out) | exact Src.alloc (HS_V.out.below HW18.out) _ | exact Src.alloc (Src.alloc (HS_V.out.below HW18.out) _) _ | exact Src.drew (HS_V.out.below HW18.out))).mono ?_
  rintro e w19 ⟨g19, rfl, lo_g19, ha_r, hb19⟩
  try simp only [World.size_alloc] at lo_g19
  have hs19 : Below w18.heap.size w18 w19 := (by go_grown : Below w18.heap.size w18 _).trans (hb19.mono (by go_size))
  have z19 : w18.heap.size ≤ w19.heap.size := hs19.size
  have HW19 := hide (HW18.out.trans (hs19.mono HW18.out.size))
  have c_aG0_19 : w19.cell? ⟨w.heap.size, 0, none⟩ = some (.slice A n c) := (hs19.cell (p := ⟨w.heap.size, 0, none⟩) l_aG_18).trans c_aG0_18
  have c_aG1_19 : w19.cell? ⟨w.heap.size, 1, none⟩ = some (.bool own) := (hs19.cell (p := ⟨w.heap.size, 1, none⟩) l_aG_18).trans c_aG1_18
  have l_aG_19 : w.heap.size < w19.heap.size := Nat.lt_of_lt_of_le l_aG_18 z19
  have c_s0_19 : w19.cell? ⟨w4.heap.size, 0, none⟩ = some (.slice none 0 0) := (hs19.cell (p := ⟨w4.heap.size, 0, none⟩) l_s_18).trans c_s0_18
  have c_s1_19 : w19.cell? ⟨w4.heap.size, 1, none⟩ = some (.bool false) := (hs19.cell (p := ⟨w4.heap.size, 1, none⟩) l_s_18).trans c_s1_18
  have l_s_19 : w4.heap.size < w19.heap.size := Nat.lt_of_lt_of_le l_s_18 z19
  have c_x0_19 : w19.cell? ⟨w5.heap.size, 0, none⟩ = some (.slice (some ⟨g5, 0, none⟩) n n) := (hs19.cell (p := ⟨w5.heap.size, 0, none⟩) l_x_18).trans c_x0_18
  have c_x1_19 : w19.cell? ⟨w5.heap.size, 1, none⟩ = some (.bool own) := (hs19.cell (p := ⟨w5.heap.size, 1, none⟩) l_x_18).trans c_x1_18
  have l_x_19 : w5.heap.size < w19.heap.size := Nat.lt_of_lt_of_le l_x_18 z19
  have c_i0_19 : w19.cell? ⟨w7.heap.size, 0, none⟩ = some (.slice none 0 0) := (hs19.cell (p := ⟨w7.heap.size, 0, none⟩) l_i_18).trans c_i0_18
  have c_i1_19 : w19.cell? ⟨w7.heap.size, 1, none⟩ = some (.bool false) := (hs19.cell (p := ⟨w7.heap.size, 1, none⟩) l_i_18).trans c_i1_18
  have l_i_19 : w7.heap.size < w19.heap.size := Nat.lt_of_lt_of_le l_i_18 z19
  have HA_a_19 := hide (HA_a_18.out.all hs19)
  have HA_b_19 := hide (HA_b_18.out.all hs19)
  have HA_x_19 := hide (HA_x_18.out.all hs19)
  have HA_y_19 := hide (HA_y_18.out.all hs19)
  have HA_z_19 := hide (HA_z_18.out.all hs19)
  have HA_p_19 := hide (HA_p_18.out.all hs19)
  have HA_q_19 := hide ha_r
  have hi_q_19 : g19 < w19.heap.size := ha_r.lt
  clear c_aG0_18 c_aG1_18 l_aG_18 c_s0_18 c_s1_18 l_s_18 c_x0_18 c_x1_18 l_x_18 c_i0_18 c_i1_18 l_i_18 HA_a_18 HA_b_18 HA_x_18 HA_y_18 HA_z_18 HA_p_18 ha_r hb19 hs19
  go_wp2_with fail
  refine (renImpl_no _ _ _ f v _ _ _ _ _ hn2 hm2 hno.out (by first | exact HA_p_19.out | exact HA_p_19.out.alloc _ | exact (HA_p_19.out.alloc _).alloc _ | exact HA_p_19.out.drew) (by first | exact Src.of_arr HA_q_19.out | exact Src.of_arr (HA_q_19.out.alloc _) | exact Src.of_arr ((HA_q_19.out.alloc _).alloc _) | exact Src.of_arr HA_q_19.out.drew)).mono ?_
  rintro e w20 ⟨rfl, hb20⟩
  have hs20 : Below w19.heap.size w19 w20 := (by go_grown : Below w19.heap.size w19 _).trans (hb20.mono (by go_size))
  have z20 : w19.heap.size ≤ w20.heap.size := hs20.size
  have HW20 := hide (HW19.out.trans (hs20.mono HW19.out.size))
  have c_aG0_20 : w20.cell? ⟨w.heap.size, 0, none⟩ = some (.slice A n c) := (hs20.cell (p := ⟨w.heap.size, 0, none⟩) l_aG_19).trans c_aG0_19
  have c_aG1_20 : w20.cell? ⟨w.heap.size, 1, none⟩ = some (.bool own) := (hs20.cell (p := ⟨w.heap.size, 1, none⟩) l_aG_19).trans c_aG1_19
  have l_aG_20 : w.heap.size < w20.heap.size := Nat.lt_of_lt_of_le l_aG_19 z20
  have c_s0_20 : w20.cell? ⟨w4.heap.size, 0, none⟩ = some (.slice none 0 0) := (hs20.cell (p := ⟨w4.heap.size, 0, none⟩) l_s_19).trans c_s0_19
  have c_s1_20 : w20.cell? ⟨w4.heap.size, 1, none⟩ = some (.bool false) := (hs20.cell (p := ⟨w4.heap.size, 1, none⟩) l_s_19).trans c_s1_19
  have l_s_20 : w4.heap.size < w20.heap.size := Nat.lt_of_lt_of_le l_s_19 z20
  have c_x0_20 : w20.cell? ⟨w5.heap.size, 0, none⟩ = some (.slice (some ⟨g5, 0, none⟩) n n) := (hs20.cell (p := ⟨w5.heap.size, 0, none⟩) l_x_19).trans c_x0_19
  have c_x1_20 : w20.cell? ⟨w5.heap.size, 1, none⟩ = some (.bool own) := (hs20.cell (p := ⟨w5.heap.size, 1, none⟩) l_x_19).trans c_x1_19
  have l_x_20 : w5.heap.size < w20.heap.size := Nat.lt_of_lt_of_le l_x_19 z20
  have c_i0_20 : w20.cell? ⟨w7.heap.size, 0, none⟩ = some (.slice none 0 0) := (hs20.cell (p := ⟨w7.heap.size, 0, none⟩) l_i_19).trans c_i0_19
  have c_i1_20 : w20.cell? ⟨w7.heap.size, 1, none⟩ = some (.bool false) := (hs20.cell (p := ⟨w7.heap.size, 1, none⟩) l_i_19).trans c_i1_19
  have l_i_20 : w7.heap.size < w20.heap.size := Nat.lt_of_lt_of_le l_i_19 z20
  have HA_a_20 := hide (HA_a_19.out.all hs20)
  have HA_b_20 := hide (HA_b_19.out.all hs20)
  have HA_x_20 := hide (HA_x_19.out.all hs20)
  have HA_y_20 := hide (HA_y_19.out.all hs20)
  have HA_z_20 := hide (HA_z_19.out.all hs20)
  have HA_p_20 := hide (HA_p_19.out.all hs20)
  have HA_q_20 := hide (HA_q_19.out.all hs20)
  clear c_aG0_19 c_aG1_19 l_aG_19 c_s0_19 c_s1_19 l_s_19 c_x0_19 c_x1_19 l_x_19 c_i0_19 c_i1_19 l_i_19 HA_a_19 HA_b_19 HA_x_19 HA_y_19 HA_z_19 HA_p_19 HA_q_19 hb20 hs20
  go_wp2_with fail
  refine (eqGraph_true _ _ _ _ _ (fun _ => 0) _ _ (by omega) Src.nil Src.nil).mono ?_
  rintro e w21 ⟨rfl, hb21⟩
  have hs21 : Below w20.heap.size w20 w21 := (by go_grown : Below w20.heap.size w20 _).trans (hb21.mono (by go_size))
  have z21 : w20.heap.size ≤ w21.heap.size := hs21.size
  have HW21 := hide (HW20.out.trans (hs21.mono HW20.out.size))
  have c_aG0_21 : w21.cell? ⟨w.heap.size, 0, none⟩ = some (.slice A n c) := (hs21.cell (p := ⟨w.heap.size, 0, none⟩) l_aG_20).trans c_aG0_20
  have c_aG1_21 : w21.cell? ⟨w.heap.size, 1, none⟩ = some (.bool own) := (hs21.cell (p := ⟨w.heap.size, 1, none⟩) l_aG_20).trans c_aG1_20
  have l_aG_21 : w.heap.size < w21.heap.size := Nat.lt_of_lt_of_le l_aG_20 z21
  have c_s0_21 : w21.cell? ⟨w4.heap.size, 0, none⟩ = some (.slice none 0 0) := (hs21.cell (p := ⟨w4.heap.size, 0, none⟩) l_s_20).trans c_s0_20
  have c_s1_21 : w21.cell? ⟨w4.heap.size, 1, none⟩ = some (.bool false) := (hs21.cell (p := ⟨w4.heap.size, 1, none⟩) l_s_20).trans c_s1_20
  have l_s_21 : w4.heap.size < w21.heap.size := Nat.lt_of_lt_of_le l_s_20 z21
  have c_x0_21 : w21.cell? ⟨w5.heap.size, 0, none⟩ = some (.slice (some ⟨g5, 0, none⟩) n n) := (hs21.cell (p := ⟨w5.heap.size, 0, none⟩) l_x_20).trans c_x0_20
  have c_x1_21 : w21.cell? ⟨w5.heap.size, 1, none⟩ = some (.bool own) := (hs21.cell (p := ⟨w5.heap.size, 1, none⟩) l_x_20).trans c_x1_20
  have l_x_21 : w5.heap.size < w21.heap.size := Nat.lt_of_lt_of_le l_x_20 z21
  have c_i0_21 : w21.cell? ⟨w7.heap.size, 0, none⟩ = some (.slice none 0 0) := (hs21.cell (p := ⟨w7.heap.size, 0, none⟩) l_i_20).trans c_i0_20
  have c_i1_21 : w21.cell? ⟨w7.heap.size, 1, none⟩ = some (.bool false) := (hs21.cell (p := ⟨w7.heap.size, 1, none⟩) l_i_20).trans c_i1_20
  have l_i_21 : w7.heap.size < w21.heap.size := Nat.lt_of_lt_of_le l_i_20 z21
  have c_j0_21 : w21.cell? ⟨w20.heap.size, 0, none⟩ = some (.slice none 0 0) := (hb21.cell (p := ⟨w20.heap.size, 0, none⟩) (by go_size)).trans (by simp [go_sem])
  have c_j1_21 : w21.cell? ⟨w20.heap.size, 1, none⟩ = some (.bool false) := (hb21.cell (p := ⟨w20.heap.size, 1, none⟩) (by go_size)).trans (by simp [go_sem])
  have l_j_21 : w20.heap.size < w21.heap.size := Nat.lt_of_lt_of_le (by go_size) hb21.size
  have HA_a_21 := hide (HA_a_20.out.all hs21)
  have HA_b_21 := hide (HA_b_20.out.all hs21)
  have HA_x_21 := hide (HA_x_20.out.all hs21)
  have HA_y_21 := hide (HA_y_20.out.all hs21)
  have HA_z_21 := hide (HA_z_20.out.all hs21)
  have HA_p_21 := hide (HA_p_20.out.all hs21)
  have HA_q_21 := hide (HA_q_20.out.all hs21)
  clear c_aG0_20 c_aG1_20 l_aG_20 c_s0_20 c_s1_20 l_s_20 c_x0_20 c_x1_20 l_x_20 c_i0_20 c_i1_20 l_i_20 HA_a_20 HA_b_20 HA_x_20 HA_y_20 HA_z_20 HA_p_20 HA_q_20 hb21 hs21
  go_wp2_with fail
  refine (heldGraph_any _ 0 _ _ _ _ (by omega) (by omega) (by omega) Src.nil).mono ?_
  rintro e w22 ⟨rfl, hb22⟩
  have hs22 : Below w21.heap.size w21 w22 := (by go_grown : Below w21.heap.size w21 _).trans (hb22.mono (by go_size))
  have z22 : w21.heap.size ≤ w22.heap.size := hs22.size
  have HW22 := hide (HW21.out.trans (hs22.mono HW21.out.size))
  have c_aG0_22 : w22.cell? ⟨w.heap.size, 0, none⟩ = some (.slice A n c) := (hs22.cell (p := ⟨w.heap.size, 0, none⟩) l_aG_21).trans c_aG0_21
  have c_aG1_22 : w22.cell? ⟨w.heap.size, 1, none⟩ = some (.bool own) := (hs22.cell (p := ⟨w.heap.size, 1, none⟩) l_aG_21).trans c_aG1_21
  have l_aG_22 : w.heap.size < w22.heap.size := Nat.lt_of_lt_of_le l_aG_21 z22
  have c_s0_22 : w22.cell? ⟨w4.heap.size, 0, none⟩ = some (.slice none 0 0) := (hs22.cell (p := ⟨w4.heap.size, 0, none⟩) l_s_21).trans c_s0_21
  have c_s1_22 : w22.cell? ⟨w4.heap.size, 1, none⟩ = some (.bool false) := (hs22.cell (p := ⟨w4.heap.size, 1, none⟩) l_s_21).trans c_s1_21
  have l_s_22 : w4.heap.size < w22.heap.size := Nat.lt_of_lt_of_le l_s_21 z22
  have c_x0_22 : w22.cell? ⟨w5.heap.size, 0, none⟩ = some (.slice (some ⟨g5, 0, none⟩) n n) := (hs22.cell (p := ⟨w5.heap.size, 0, none⟩) l_x_21).trans c_x0_21
  have c_x1_22 : w22.cell? ⟨w5.heap.size, 1, none⟩ = some (.bool own) := (hs22.cell (p := ⟨w5.heap.size, 1, none⟩) l_x_21).trans c_x1_21
  have l_x_22 : w5.heap.size < w22.heap.size := Nat.lt_of_lt_of_le l_x_21 z22
  have c_i0_22 : w22.cell? ⟨w7.heap.size, 0, none⟩ = some (.slice none 0 0) := (hs22.cell (p := ⟨w7.heap.size, 0, none⟩) l_i_21).trans c_i0_21
  have c_i1_22 : w22.cell? ⟨w7.heap.size, 1, none⟩ = some (.bool false) := (hs22.cell (p := ⟨w7.heap.size, 1, none⟩) l_i_21).trans c_i1_21
  have l_i_22 : w7.heap.size < w22.heap.size := Nat.lt_of_lt_of_le l_i_21 z22
  have c_j0_22 : w22.cell? ⟨w20.heap.size, 0, none⟩ = some (.slice none 0 0) := (hs22.cell (p := ⟨w20.heap.size, 0, none⟩) l_j_21).trans c_j0_21
  have c_j1_22 : w22.cell? ⟨w20.heap.size, 1, none⟩ = some (.bool false) := (hs22.cell (p := ⟨w20.heap.size, 1, none⟩) l_j_21).trans c_j1_21
  have l_j_22 : w20.heap.size < w22.heap.size := Nat.lt_of_lt_of_le l_j_21 z22
  have HA_a_22 := hide (HA_a_21.out.all hs22)
  have HA_b_22 := hide (HA_b_21.out.all hs22)
  have HA_x_22 := hide (HA_x_21.out.all hs22)
  have HA_y_22 := hide (HA_y_21.out.all hs22)
  have HA_z_22 := hide (HA_z_21.out.all hs22)
  have HA_p_22 := hide (HA_p_21.out.all hs22)
  have HA_q_22 := hide (HA_q_21.out.all hs22)
  clear c_aG0_21 c_aG1_21 l_aG_21 c_s0_21 c_s1_21 l_s_21 c_x0_21 c_x1_21 l_x_21 c_i0_21 c_i1_21 l_i_21 c_j0_21 c_j1_21 l_j_21 HA_a_21 HA_b_21 HA_x_21 HA_y_21 HA_z_21 HA_p_21 HA_q_21 hb22 hs22
  go_wp2
  go_ret
  exact ⟨rfl, by have h := HW22.out; have hz := h.size; go_grown⟩
end Go.Proofs.YtmkdikoogbedkaaDoor
