import Derived.Test.YtmcimfblhpflnaaLF
namespace Go.Proofs.Ytmcimfblhpflnaa
open Go.RowKit
set_option maxHeartbeats 4000000
def NewInts (w : World) (n : Nat) (f : Nat → Int) (e : Ending) (w' : World) : Prop :=
  ∃ g, e = .returned (.slice (some ⟨g, 0, none⟩) n n) ∧ w.heap.size ≤ g ∧ Arr w' 3 g n (iv f) ∧ Below w.heap.size w w'
theorem toIntS_new (A : Option Addr) (n c : Nat) (f : Nat → Int) (w : World) (hn : n ≤ 1048576) (hs : Src w A n (iv f)) :
    Calls Try.prog 14 #[.slice A n c] w (NewInts w n f) :=
  (toIntS_any A n c f w hn hs).mono fun _ _ ⟨h1, h2, h3⟩ => ⟨_, h1, Nat.le_refl _, h2, h3⟩
theorem eqIntS_below (A A' : Option Addr) (n c c' : Nat) (f : Nat → Int) (w : World) (hn : n ≤ 1048576) (hs : Src w A n (iv f)) (hs' : Src w A' n (iv f)) :
    Calls Try.prog 17 #[.slice A n c, .slice A' n c'] w fun e w' => e = .returned (.bool true) ∧ Below w.heap.size w w' :=
  (eqIntS_true A A' n c c' f w hn hs hs').mono fun e w' ⟨he, j, hj⟩ => ⟨he, by subst hj; exact below_drewN (Below.refl _ _) _⟩
theorem lawFrom_no (A : Option Addr) (n c : Nat) (f : Nat → Int) (own : Bool) (w : World) (hn2 : n ≤ 1048576) (HSP : Hid (∀ (A : Option Addr) (c : Nat) (w : World), Src w A n (iv f) → Calls Try.prog 13 #[.slice A n c, .bool own] w (GraphNo w))) (HIM : Hid (∀ (A : Option Addr) (c : Nat) (w : World), Src w A n (iv f) → Calls Try.prog 15 #[.slice A n c, .bool own] w (GraphNo w))) (HS_A : Hid (Src w A n (iv f))) :
    Calls Try.prog 5 #[.slice A n c, .bool own] w fun e w' => e = .returned (.bool true) ∧ Below w.heap.size w w' := by
  go_enter Try.func5, Try.ntmps5
  go_wp2_with fail
  refine (toIntS_new _ _ _ f _ hn2 (by first | exact HS_A.out | exact Src.alloc HS_A.out _ | exact Src.alloc (Src.alloc HS_A.out _) _ | exact Src.drew HS_A.out)).mono ?_
  rintro e w1 ⟨g1, rfl, lo_g1, ha_r, hb1⟩
  try simp only [World.size_alloc] at lo_g1
  have hs1 : Below w.heap.size w w1 := (by go_grown : Below w.heap.size w _).trans (hb1.mono (by go_size))
  have z1 : w.heap.size ≤ w1.heap.size := hs1.size
  have HW1 := hide hs1
  have HA_a_1 := hide ha_r
  have hi_a_1 : g1 < w1.heap.size := ha_r.lt
  clear ha_r hb1 hs1
  go_wp2_with fail
  refine (HSP.out _ _ _ (by first | exact Src.of_arr HA_a_1.out | exact Src.of_arr (HA_a_1.out.alloc _) | exact Src.of_arr ((HA_a_1.out.alloc _).alloc _) | exact Src.of_arr HA_a_1.out.drew)).mono ?_
  rintro e w2 ⟨rfl, hb2⟩
  have hs2 : Below w1.heap.size w1 w2 := (by go_grown : Below w1.heap.size w1 _).trans (hb2.mono (by go_size))
  have z2 : w1.heap.size ≤ w2.heap.size := hs2.size
  have HW2 := hide (HW1.out.trans (hs2.mono HW1.out.size))
  have HA_a_2 := hide (HA_a_1.out.all hs2)
  clear HA_a_1 hb2 hs2
  go_wp2_with fail
  refine (toIntS_new _ _ _ f _ hn2 (by first | exact (HS_A.out.below HW2.out) | exact Src.alloc (HS_A.out.below HW2.out) _ | exact Src.alloc (Src.alloc (HS_A.out.below HW2.out) _) _ | exact Src.drew (HS_A.out.below HW2.out))).mono ?_
  rintro e w3 ⟨g3, rfl, lo_g3, ha_r, hb3⟩
  try simp only [World.size_alloc] at lo_g3
  have hs3 : Below w2.heap.size w2 w3 := (by go_grown : Below w2.heap.size w2 _).trans (hb3.mono (by go_size))
  have z3 : w2.heap.size ≤ w3.heap.size := hs3.size
  have HW3 := hide (HW2.out.trans (hs3.mono HW2.out.size))
  have c_s0_3 : w3.cell? ⟨w2.heap.size, 0, none⟩ = some (.slice none 0 0) := (hb3.cell (p := ⟨w2.heap.size, 0, none⟩) (by go_size)).trans (by simp [go_sem])
  have c_s1_3 : w3.cell? ⟨w2.heap.size, 1, none⟩ = some (.bool false) := (hb3.cell (p := ⟨w2.heap.size, 1, none⟩) (by go_size)).trans (by simp [go_sem])
  have l_s_3 : w2.heap.size < w3.heap.size := Nat.lt_of_lt_of_le (by go_size) hb3.size
  have HA_a_3 := hide (HA_a_2.out.all hs3)
  have HA_x_3 := hide ha_r
  have hi_x_3 : g3 < w3.heap.size := ha_r.lt
  clear HA_a_2 ha_r hb3 hs3
  go_wp2_with fail
  refine (HIM.out _ _ _ (by first | exact Src.of_arr HA_x_3.out | exact Src.of_arr (HA_x_3.out.alloc _) | exact Src.of_arr ((HA_x_3.out.alloc _).alloc _) | exact Src.of_arr HA_x_3.out.drew)).mono ?_
  rintro e w4 ⟨rfl, hb4⟩
  have hs4 : Below w3.heap.size w3 w4 := (by go_grown : Below w3.heap.size w3 _).trans (hb4.mono (by go_size))
  have z4 : w3.heap.size ≤ w4.heap.size := hs4.size
  have HW4 := hide (HW3.out.trans (hs4.mono HW3.out.size))
  have c_s0_4 : w4.cell? ⟨w2.heap.size, 0, none⟩ = some (.slice none 0 0) := (hs4.cell (p := ⟨w2.heap.size, 0, none⟩) l_s_3).trans c_s0_3
  have c_s1_4 : w4.cell? ⟨w2.heap.size, 1, none⟩ = some (.bool false) := (hs4.cell (p := ⟨w2.heap.size, 1, none⟩) l_s_3).trans c_s1_3
  have l_s_4 : w2.heap.size < w4.heap.size := Nat.lt_of_lt_of_le l_s_3 z4
  have HA_a_4 := hide (HA_a_3.out.all hs4)
  have HA_x_4 := hide (HA_x_3.out.all hs4)
  clear c_s0_3 c_s1_3 l_s_3 HA_a_3 HA_x_3 hb4 hs4
  go_wp2_with fail
  refine (eqGraph_true _ _ _ _ _ (fun _ => 0) _ _ (by omega) Src.nil Src.nil).mono ?_
  rintro e w5 ⟨rfl, hb5⟩
  have hs5 : Below w4.heap.size w4 w5 := (by go_grown : Below w4.heap.size w4 _).trans (hb5.mono (by go_size))
  have z5 : w4.heap.size ≤ w5.heap.size := hs5.size
  have HW5 := hide (HW4.out.trans (hs5.mono HW4.out.size))
  have c_s0_5 : w5.cell? ⟨w2.heap.size, 0, none⟩ = some (.slice none 0 0) := (hs5.cell (p := ⟨w2.heap.size, 0, none⟩) l_s_4).trans c_s0_4
  have c_s1_5 : w5.cell? ⟨w2.heap.size, 1, none⟩ = some (.bool false) := (hs5.cell (p := ⟨w2.heap.size, 1, none⟩) l_s_4).trans c_s1_4
  have l_s_5 : w2.heap.size < w5.heap.size := Nat.lt_of_lt_of_le l_s_4 z5
  have c_i0_5 : w5.cell? ⟨w4.heap.size, 0, none⟩ = some (.slice none 0 0) := (hb5.cell (p := ⟨w4.heap.size, 0, none⟩) (by go_size)).trans (by simp [go_sem])
  have c_i1_5 : w5.cell? ⟨w4.heap.size, 1, none⟩ = some (.bool false) := (hb5.cell (p := ⟨w4.heap.size, 1, none⟩) (by go_size)).trans (by simp [go_sem])
  have l_i_5 : w4.heap.size < w5.heap.size := Nat.lt_of_lt_of_le (by go_size) hb5.size
  have HA_a_5 := hide (HA_a_4.out.all hs5)
  have HA_x_5 := hide (HA_x_4.out.all hs5)
  clear c_s0_4 c_s1_4 l_s_4 HA_a_4 HA_x_4 hb5 hs5
  go_wp2_with fail
  refine (toIntS_new _ _ _ f _ hn2 (by first | exact (HS_A.out.below HW5.out) | exact Src.alloc (HS_A.out.below HW5.out) _ | exact Src.alloc (Src.alloc (HS_A.out.below HW5.out) _) _ | exact Src.drew (HS_A.out.below HW5.out))).mono ?_
  rintro e w6 ⟨g6, rfl, lo_g6, ha_r, hb6⟩
  try simp only [World.size_alloc] at lo_g6
  have hs6 : Below w5.heap.size w5 w6 := (by go_grown : Below w5.heap.size w5 _).trans (hb6.mono (by go_size))
  have z6 : w5.heap.size ≤ w6.heap.size := hs6.size
  have HW6 := hide (HW5.out.trans (hs6.mono HW5.out.size))
  have c_s0_6 : w6.cell? ⟨w2.heap.size, 0, none⟩ = some (.slice none 0 0) := (hs6.cell (p := ⟨w2.heap.size, 0, none⟩) l_s_5).trans c_s0_5
  have c_s1_6 : w6.cell? ⟨w2.heap.size, 1, none⟩ = some (.bool false) := (hs6.cell (p := ⟨w2.heap.size, 1, none⟩) l_s_5).trans c_s1_5
  have l_s_6 : w2.heap.size < w6.heap.size := Nat.lt_of_lt_of_le l_s_5 z6
  have c_i0_6 : w6.cell? ⟨w4.heap.size, 0, none⟩ = some (.slice none 0 0) := (hs6.cell (p := ⟨w4.heap.size, 0, none⟩) l_i_5).trans c_i0_5
  have c_i1_6 : w6.cell? ⟨w4.heap.size, 1, none⟩ = some (.bool false) := (hs6.cell (p := ⟨w4.heap.size, 1, none⟩) l_i_5).trans c_i1_5
  have l_i_6 : w4.heap.size < w6.heap.size := Nat.lt_of_lt_of_le l_i_5 z6
  have HA_a_6 := hide (HA_a_5.out.all hs6)
  have HA_x_6 := hide (HA_x_5.out.all hs6)
  have HA_z_6 := hide ha_r
  have hi_z_6 : g6 < w6.heap.size := ha_r.lt
  clear c_s0_5 c_s1_5 l_s_5 c_i0_5 c_i1_5 l_i_5 HA_a_5 HA_x_5 ha_r hb6 hs6
  go_wp2_with fail
  refine (eqIntS_below _ _ _ _ _ f _ hn2 (by first | exact Src.of_arr HA_x_6.out | exact Src.of_arr (HA_x_6.out.alloc _) | exact Src.of_arr ((HA_x_6.out.alloc _).alloc _) | exact Src.of_arr HA_x_6.out.drew) (by first | exact Src.of_arr HA_z_6.out | exact Src.of_arr (HA_z_6.out.alloc _) | exact Src.of_arr ((HA_z_6.out.alloc _).alloc _) | exact Src.of_arr HA_z_6.out.drew)).mono ?_
  rintro e w7 ⟨rfl, hb7⟩
  have hs7 : Below w6.heap.size w6 w7 := (by go_grown : Below w6.heap.size w6 _).trans (hb7.mono (by go_size))
  have z7 : w6.heap.size ≤ w7.heap.size := hs7.size
  have HW7 := hide (HW6.out.trans (hs7.mono HW6.out.size))
  have c_s0_7 : w7.cell? ⟨w2.heap.size, 0, none⟩ = some (.slice none 0 0) := (hs7.cell (p := ⟨w2.heap.size, 0, none⟩) l_s_6).trans c_s0_6
  have c_s1_7 : w7.cell? ⟨w2.heap.size, 1, none⟩ = some (.bool false) := (hs7.cell (p := ⟨w2.heap.size, 1, none⟩) l_s_6).trans c_s1_6
  have l_s_7 : w2.heap.size < w7.heap.size := Nat.lt_of_lt_of_le l_s_6 z7
  have c_i0_7 : w7.cell? ⟨w4.heap.size, 0, none⟩ = some (.slice none 0 0) := (hs7.cell (p := ⟨w4.heap.size, 0, none⟩) l_i_6).trans c_i0_6
  have c_i1_7 : w7.cell? ⟨w4.heap.size, 1, none⟩ = some (.bool false) := (hs7.cell (p := ⟨w4.heap.size, 1, none⟩) l_i_6).trans c_i1_6
  have l_i_7 : w4.heap.size < w7.heap.size := Nat.lt_of_lt_of_le l_i_6 z7
  have HA_a_7 := hide (HA_a_6.out.all hs7)
  have HA_x_7 := hide (HA_x_6.out.all hs7)
  have HA_z_7 := hide (HA_z_6.out.all hs7)
  clear c_s0_6 c_s1_6 l_s_6 c_i0_6 c_i1_6 l_i_6 HA_a_6 HA_x_6 HA_z_6 hb7 hs7
  go_wp2_with fail
  refine (markIntS_arr _ _ _ f _ _ hn2 (by omega) (by omega) (by first | exact HA_x_7.out | exact HA_x_7.out.alloc _ | exact (HA_x_7.out.alloc _).alloc _ | exact HA_x_7.out.drew)).mono ?_
  rintro e w8 ⟨rfl, ha_m, hb8⟩
  have hs8 : w7.grownBy w8 (some g3) := grownBy_trans (grownBy_of_below (by go_grown) _) hb8
  have z8 : w7.heap.size ≤ w8.heap.size := hs8.size
  have HW8 := hide (HW7.out.grown hs8 HW7.out.size (fun k hk => by injection hk with hk; have := HW7.out.size; omega))
  have c_s0_8 : w8.cell? ⟨w2.heap.size, 0, none⟩ = some (.slice none 0 0) := World.grownBy.cell hs8 c_s0_7 (by intro h; injection h with h; simp at h; omega)
  have c_s1_8 : w8.cell? ⟨w2.heap.size, 1, none⟩ = some (.bool false) := World.grownBy.cell hs8 c_s1_7 (by intro h; injection h with h; simp at h; omega)
  have l_s_8 : w2.heap.size < w8.heap.size := Nat.lt_of_lt_of_le l_s_7 z8
  have c_i0_8 : w8.cell? ⟨w4.heap.size, 0, none⟩ = some (.slice none 0 0) := World.grownBy.cell hs8 c_i0_7 (by intro h; injection h with h; simp at h; omega)
  have c_i1_8 : w8.cell? ⟨w4.heap.size, 1, none⟩ = some (.bool false) := World.grownBy.cell hs8 c_i1_7 (by intro h; injection h with h; simp at h; omega)
  have l_i_8 : w4.heap.size < w8.heap.size := Nat.lt_of_lt_of_le l_i_7 z8
  have HA_a_8 := hide (HA_a_7.out.of_block (hs8.block g1 (HA_a_7.out.lt) (by intro h; injection h with h; omega)))
  have HA_z_8 := hide (HA_z_7.out.of_block (hs8.block g6 (HA_z_7.out.lt) (by intro h; injection h with h; omega)))
  have HA_x_8 := hide ha_m
  have hi_x_8 : g3 < w8.heap.size := ha_m.lt
  clear c_s0_7 c_s1_7 l_s_7 c_i0_7 c_i1_7 l_i_7 HA_a_7 HA_z_7 ha_m hb8 hs8
  go_wp2_with fail
  refine (eqGraph_true _ _ _ _ _ (fun _ => 0) _ _ (by omega) Src.nil Src.nil).mono ?_
  rintro e w9 ⟨rfl, hb9⟩
  have hs9 : Below w8.heap.size w8 w9 := (by go_grown : Below w8.heap.size w8 _).trans (hb9.mono (by go_size))
  have z9 : w8.heap.size ≤ w9.heap.size := hs9.size
  have HW9 := hide (HW8.out.trans (hs9.mono HW8.out.size))
  have c_s0_9 : w9.cell? ⟨w2.heap.size, 0, none⟩ = some (.slice none 0 0) := (hs9.cell (p := ⟨w2.heap.size, 0, none⟩) l_s_8).trans c_s0_8
  have c_s1_9 : w9.cell? ⟨w2.heap.size, 1, none⟩ = some (.bool false) := (hs9.cell (p := ⟨w2.heap.size, 1, none⟩) l_s_8).trans c_s1_8
  have l_s_9 : w2.heap.size < w9.heap.size := Nat.lt_of_lt_of_le l_s_8 z9
  have c_i0_9 : w9.cell? ⟨w4.heap.size, 0, none⟩ = some (.slice none 0 0) := (hs9.cell (p := ⟨w4.heap.size, 0, none⟩) l_i_8).trans c_i0_8
  have c_i1_9 : w9.cell? ⟨w4.heap.size, 1, none⟩ = some (.bool false) := (hs9.cell (p := ⟨w4.heap.size, 1, none⟩) l_i_8).trans c_i1_8
  have l_i_9 : w4.heap.size < w9.heap.size := Nat.lt_of_lt_of_le l_i_8 z9
  have HA_a_9 := hide (HA_a_8.out.all hs9)
  have HA_x_9 := hide (HA_x_8.out.all hs9)
  have HA_z_9 := hide (HA_z_8.out.all hs9)
  clear c_s0_8 c_s1_8 l_s_8 c_i0_8 c_i1_8 l_i_8 HA_a_8 HA_x_8 HA_z_8 hb9 hs9
  go_wp2_with fail
  refine (markGraph_none _ _ _ _ _).mono ?_
  rintro e w10 ⟨rfl, hb10⟩
  have hs10 : Below w9.heap.size w9 w10 := (by go_grown : Below w9.heap.size w9 _).trans (hb10.mono (by go_size))
  have z10 : w9.heap.size ≤ w10.heap.size := hs10.size
  have HW10 := hide (HW9.out.trans (hs10.mono HW9.out.size))
  have c_s0_10 : w10.cell? ⟨w2.heap.size, 0, none⟩ = some (.slice none 0 0) := (hs10.cell (p := ⟨w2.heap.size, 0, none⟩) l_s_9).trans c_s0_9
  have c_s1_10 : w10.cell? ⟨w2.heap.size, 1, none⟩ = some (.bool false) := (hs10.cell (p := ⟨w2.heap.size, 1, none⟩) l_s_9).trans c_s1_9
  have l_s_10 : w2.heap.size < w10.heap.size := Nat.lt_of_lt_of_le l_s_9 z10
  have c_i0_10 : w10.cell? ⟨w4.heap.size, 0, none⟩ = some (.slice none 0 0) := (hs10.cell (p := ⟨w4.heap.size, 0, none⟩) l_i_9).trans c_i0_9
  have c_i1_10 : w10.cell? ⟨w4.heap.size, 1, none⟩ = some (.bool false) := (hs10.cell (p := ⟨w4.heap.size, 1, none⟩) l_i_9).trans c_i1_9
  have l_i_10 : w4.heap.size < w10.heap.size := Nat.lt_of_lt_of_le l_i_9 z10
  have HA_a_10 := hide (HA_a_9.out.all hs10)
  have HA_x_10 := hide (HA_x_9.out.all hs10)
  have HA_z_10 := hide (HA_z_9.out.all hs10)
  clear c_s0_9 c_s1_9 l_s_9 c_i0_9 c_i1_9 l_i_9 HA_a_9 HA_x_9 HA_z_9 hb10 hs10
  go_wp2_with fail
  refine (heldGraph_any _ 0 _ _ _ _ (by omega) (by omega) (by omega) Src.nil).mono ?_
  rintro e w11 ⟨rfl, hb11⟩
  have hs11 : Below w10.heap.size w10 w11 := (by go_grown : Below w10.heap.size w10 _).trans (hb11.mono (by go_size))
  have z11 : w10.heap.size ≤ w11.heap.size := hs11.size
  have HW11 := hide (HW10.out.trans (hs11.mono HW10.out.size))
  have c_s0_11 : w11.cell? ⟨w2.heap.size, 0, none⟩ = some (.slice none 0 0) := (hs11.cell (p := ⟨w2.heap.size, 0, none⟩) l_s_10).trans c_s0_10
  have c_s1_11 : w11.cell? ⟨w2.heap.size, 1, none⟩ = some (.bool false) := (hs11.cell (p := ⟨w2.heap.size, 1, none⟩) l_s_10).trans c_s1_10
  have l_s_11 : w2.heap.size < w11.heap.size := Nat.lt_of_lt_of_le l_s_10 z11
  have c_i0_11 : w11.cell? ⟨w4.heap.size, 0, none⟩ = some (.slice none 0 0) := (hs11.cell (p := ⟨w4.heap.size, 0, none⟩) l_i_10).trans c_i0_10
  have c_i1_11 : w11.cell? ⟨w4.heap.size, 1, none⟩ = some (.bool false) := (hs11.cell (p := ⟨w4.heap.size, 1, none⟩) l_i_10).trans c_i1_10
  have l_i_11 : w4.heap.size < w11.heap.size := Nat.lt_of_lt_of_le l_i_10 z11
  have HA_a_11 := hide (HA_a_10.out.all hs11)
  have HA_x_11 := hide (HA_x_10.out.all hs11)
  have HA_z_11 := hide (HA_z_10.out.all hs11)
  clear c_s0_10 c_s1_10 l_s_10 c_i0_10 c_i1_10 l_i_10 HA_a_10 HA_x_10 HA_z_10 hb11 hs11
  go_wp2_with fail
  refine (toIntS_new _ _ _ f _ hn2 (by first | exact (HS_A.out.below HW11.out) | exact Src.alloc (HS_A.out.below HW11.out) _ | exact Src.alloc (Src.alloc (HS_A.out.below HW11.out) _) _ | exact Src.drew (HS_A.out.below HW11.out))).mono ?_
  rintro e w12 ⟨g12, rfl, lo_g12, ha_r, hb12⟩
  try simp only [World.size_alloc] at lo_g12
  have hs12 : Below w11.heap.size w11 w12 := (by go_grown : Below w11.heap.size w11 _).trans (hb12.mono (by go_size))
  have z12 : w11.heap.size ≤ w12.heap.size := hs12.size
  have HW12 := hide (HW11.out.trans (hs12.mono HW11.out.size))
  have c_s0_12 : w12.cell? ⟨w2.heap.size, 0, none⟩ = some (.slice none 0 0) := (hs12.cell (p := ⟨w2.heap.size, 0, none⟩) l_s_11).trans c_s0_11
  have c_s1_12 : w12.cell? ⟨w2.heap.size, 1, none⟩ = some (.bool false) := (hs12.cell (p := ⟨w2.heap.size, 1, none⟩) l_s_11).trans c_s1_11
  have l_s_12 : w2.heap.size < w12.heap.size := Nat.lt_of_lt_of_le l_s_11 z12
  have c_i0_12 : w12.cell? ⟨w4.heap.size, 0, none⟩ = some (.slice none 0 0) := (hs12.cell (p := ⟨w4.heap.size, 0, none⟩) l_i_11).trans c_i0_11
  have c_i1_12 : w12.cell? ⟨w4.heap.size, 1, none⟩ = some (.bool false) := (hs12.cell (p := ⟨w4.heap.size, 1, none⟩) l_i_11).trans c_i1_11
  have l_i_12 : w4.heap.size < w12.heap.size := Nat.lt_of_lt_of_le l_i_11 z12
  have HA_a_12 := hide (HA_a_11.out.all hs12)
  have HA_x_12 := hide (HA_x_11.out.all hs12)
  have HA_z_12 := hide (HA_z_11.out.all hs12)
  have HA_q_12 := hide ha_r
  have hi_q_12 : g12 < w12.heap.size := ha_r.lt
  clear c_s0_11 c_s1_11 l_s_11 c_i0_11 c_i1_11 l_i_11 HA_a_11 HA_x_11 HA_z_11 ha_r hb12 hs12
  go_wp2_with fail
  refine (HIM.out _ _ _ (by first | exact Src.of_arr HA_q_12.out | exact Src.of_arr (HA_q_12.out.alloc _) | exact Src.of_arr ((HA_q_12.out.alloc _).alloc _) | exact Src.of_arr HA_q_12.out.drew)).mono ?_
  rintro e w13 ⟨rfl, hb13⟩
  have hs13 : Below w12.heap.size w12 w13 := (by go_grown : Below w12.heap.size w12 _).trans (hb13.mono (by go_size))
  have z13 : w12.heap.size ≤ w13.heap.size := hs13.size
  have HW13 := hide (HW12.out.trans (hs13.mono HW12.out.size))
  have c_s0_13 : w13.cell? ⟨w2.heap.size, 0, none⟩ = some (.slice none 0 0) := (hs13.cell (p := ⟨w2.heap.size, 0, none⟩) l_s_12).trans c_s0_12
  have c_s1_13 : w13.cell? ⟨w2.heap.size, 1, none⟩ = some (.bool false) := (hs13.cell (p := ⟨w2.heap.size, 1, none⟩) l_s_12).trans c_s1_12
  have l_s_13 : w2.heap.size < w13.heap.size := Nat.lt_of_lt_of_le l_s_12 z13
  have c_i0_13 : w13.cell? ⟨w4.heap.size, 0, none⟩ = some (.slice none 0 0) := (hs13.cell (p := ⟨w4.heap.size, 0, none⟩) l_i_12).trans c_i0_12
  have c_i1_13 : w13.cell? ⟨w4.heap.size, 1, none⟩ = some (.bool false) := (hs13.cell (p := ⟨w4.heap.size, 1, none⟩) l_i_12).trans c_i1_12
  have l_i_13 : w4.heap.size < w13.heap.size := Nat.lt_of_lt_of_le l_i_12 z13
  have HA_a_13 := hide (HA_a_12.out.all hs13)
  have HA_x_13 := hide (HA_x_12.out.all hs13)
  have HA_z_13 := hide (HA_z_12.out.all hs13)
  have HA_q_13 := hide (HA_q_12.out.all hs13)
  clear c_s0_12 c_s1_12 l_s_12 c_i0_12 c_i1_12 l_i_12 HA_a_12 HA_x_12 HA_z_12 HA_q_12 hb13 hs13
  go_wp2_with fail
  refine (eqGraph_true _ _ _ _ _ (fun _ => 0) _ _ (by omega) Src.nil Src.nil).mono ?_
  rintro e w14 ⟨rfl, hb14⟩
  have hs14 : Below w13.heap.size w13 w14 := (by go_grown : Below w13.heap.size w13 _).trans (hb14.mono (by go_size))
  have z14 : w13.heap.size ≤ w14.heap.size := hs14.size
  have HW14 := hide (HW13.out.trans (hs14.mono HW13.out.size))
  have c_s0_14 : w14.cell? ⟨w2.heap.size, 0, none⟩ = some (.slice none 0 0) := (hs14.cell (p := ⟨w2.heap.size, 0, none⟩) l_s_13).trans c_s0_13
  have c_s1_14 : w14.cell? ⟨w2.heap.size, 1, none⟩ = some (.bool false) := (hs14.cell (p := ⟨w2.heap.size, 1, none⟩) l_s_13).trans c_s1_13
  have l_s_14 : w2.heap.size < w14.heap.size := Nat.lt_of_lt_of_le l_s_13 z14
  have c_i0_14 : w14.cell? ⟨w4.heap.size, 0, none⟩ = some (.slice none 0 0) := (hs14.cell (p := ⟨w4.heap.size, 0, none⟩) l_i_13).trans c_i0_13
  have c_i1_14 : w14.cell? ⟨w4.heap.size, 1, none⟩ = some (.bool false) := (hs14.cell (p := ⟨w4.heap.size, 1, none⟩) l_i_13).trans c_i1_13
  have l_i_14 : w4.heap.size < w14.heap.size := Nat.lt_of_lt_of_le l_i_13 z14
  have c_j0_14 : w14.cell? ⟨w13.heap.size, 0, none⟩ = some (.slice none 0 0) := (hb14.cell (p := ⟨w13.heap.size, 0, none⟩) (by go_size)).trans (by simp [go_sem])
  have c_j1_14 : w14.cell? ⟨w13.heap.size, 1, none⟩ = some (.bool false) := (hb14.cell (p := ⟨w13.heap.size, 1, none⟩) (by go_size)).trans (by simp [go_sem])
  have l_j_14 : w13.heap.size < w14.heap.size := Nat.lt_of_lt_of_le (by go_size) hb14.size
  have HA_a_14 := hide (HA_a_13.out.all hs14)
  have HA_x_14 := hide (HA_x_13.out.all hs14)
  have HA_z_14 := hide (HA_z_13.out.all hs14)
  have HA_q_14 := hide (HA_q_13.out.all hs14)
  clear c_s0_13 c_s1_13 l_s_13 c_i0_13 c_i1_13 l_i_13 HA_a_13 HA_x_13 HA_z_13 HA_q_13 hb14 hs14
  go_wp2_with fail
  refine (heldGraph_any _ 0 _ _ _ _ (by omega) (by omega) (by omega) Src.nil).mono ?_
  rintro e w15 ⟨rfl, hb15⟩
  have hs15 : Below w14.heap.size w14 w15 := (by go_grown : Below w14.heap.size w14 _).trans (hb15.mono (by go_size))
  have z15 : w14.heap.size ≤ w15.heap.size := hs15.size
  have HW15 := hide (HW14.out.trans (hs15.mono HW14.out.size))
  have c_s0_15 : w15.cell? ⟨w2.heap.size, 0, none⟩ = some (.slice none 0 0) := (hs15.cell (p := ⟨w2.heap.size, 0, none⟩) l_s_14).trans c_s0_14
  have c_s1_15 : w15.cell? ⟨w2.heap.size, 1, none⟩ = some (.bool false) := (hs15.cell (p := ⟨w2.heap.size, 1, none⟩) l_s_14).trans c_s1_14
  have l_s_15 : w2.heap.size < w15.heap.size := Nat.lt_of_lt_of_le l_s_14 z15
  have c_i0_15 : w15.cell? ⟨w4.heap.size, 0, none⟩ = some (.slice none 0 0) := (hs15.cell (p := ⟨w4.heap.size, 0, none⟩) l_i_14).trans c_i0_14
  have c_i1_15 : w15.cell? ⟨w4.heap.size, 1, none⟩ = some (.bool false) := (hs15.cell (p := ⟨w4.heap.size, 1, none⟩) l_i_14).trans c_i1_14
  have l_i_15 : w4.heap.size < w15.heap.size := Nat.lt_of_lt_of_le l_i_14 z15
  have c_j0_15 : w15.cell? ⟨w13.heap.size, 0, none⟩ = some (.slice none 0 0) := (hs15.cell (p := ⟨w13.heap.size, 0, none⟩) l_j_14).trans c_j0_14
  have c_j1_15 : w15.cell? ⟨w13.heap.size, 1, none⟩ = some (.bool false) := (hs15.cell (p := ⟨w13.heap.size, 1, none⟩) l_j_14).trans c_j1_14
  have l_j_15 : w13.heap.size < w15.heap.size := Nat.lt_of_lt_of_le l_j_14 z15
  have HA_a_15 := hide (HA_a_14.out.all hs15)
  have HA_x_15 := hide (HA_x_14.out.all hs15)
  have HA_z_15 := hide (HA_z_14.out.all hs15)
  have HA_q_15 := hide (HA_q_14.out.all hs15)
  clear c_s0_14 c_s1_14 l_s_14 c_i0_14 c_i1_14 l_i_14 c_j0_14 c_j1_14 l_j_14 HA_a_14 HA_x_14 HA_z_14 HA_q_14 hb15 hs15
  go_wp2
  go_ret
  exact ⟨rfl, by have h := HW15.out; have hz := h.size; go_grown⟩
theorem lawFrom_ok (A : Option Addr) (n c : Nat) (f f2 : Nat → Int) (own : Bool) (w : World) (hn2 : n ≤ 1048576) (HSP : Hid (∀ (A : Option Addr) (c : Nat) (w : World), Src w A n (iv f) → Calls Try.prog 13 #[.slice A n c, .bool own] w (GraphOk w n f2 own))) (HIM : Hid (∀ (A : Option Addr) (c : Nat) (w : World), Src w A n (iv f) → Calls Try.prog 15 #[.slice A n c, .bool own] w (GraphOk w n f2 own))) (HS_A : Hid (Src w A n (iv f))) :
    Calls Try.prog 5 #[.slice A n c, .bool own] w fun e w' => e = .returned (.bool true) ∧ Below w.heap.size w w' := by
  go_enter Try.func5, Try.ntmps5
  go_wp2_with fail
  refine (toIntS_new _ _ _ f _ hn2 (by first | exact HS_A.out | exact Src.alloc HS_A.out _ | exact Src.alloc (Src.alloc HS_A.out _) _ | exact Src.drew HS_A.out)).mono ?_
  rintro e w1 ⟨g1, rfl, lo_g1, ha_r, hb1⟩
  try simp only [World.size_alloc] at lo_g1
  have hs1 : Below w.heap.size w w1 := (by go_grown : Below w.heap.size w _).trans (hb1.mono (by go_size))
  have z1 : w.heap.size ≤ w1.heap.size := hs1.size
  have HW1 := hide hs1
  have HA_a_1 := hide ha_r
  have hi_a_1 : g1 < w1.heap.size := ha_r.lt
  clear ha_r hb1 hs1
  go_wp2_with fail
  refine (HSP.out _ _ _ (by first | exact Src.of_arr HA_a_1.out | exact Src.of_arr (HA_a_1.out.alloc _) | exact Src.of_arr ((HA_a_1.out.alloc _).alloc _) | exact Src.of_arr HA_a_1.out.drew)).mono ?_
  rintro e w2 ⟨g2, c_g2, rfl, lo_g2, ha_r, hb2⟩
  try simp only [World.size_alloc] at lo_g2
  have hs2 : Below w1.heap.size w1 w2 := (by go_grown : Below w1.heap.size w1 _).trans (hb2.mono (by go_size))
  have z2 : w1.heap.size ≤ w2.heap.size := hs2.size
  have HW2 := hide (HW1.out.trans (hs2.mono HW1.out.size))
  have HA_a_2 := hide (HA_a_1.out.all hs2)
  have HA_s_2 := hide ha_r
  have hi_s_2 : g2 < w2.heap.size := ha_r.lt
  clear HA_a_1 ha_r hb2 hs2
  go_wp2_with fail
  refine (toIntS_new _ _ _ f _ hn2 (by first | exact (HS_A.out.below HW2.out) | exact Src.alloc (HS_A.out.below HW2.out) _ | exact Src.alloc (Src.alloc (HS_A.out.below HW2.out) _) _ | exact Src.drew (HS_A.out.below HW2.out))).mono ?_
  rintro e w3 ⟨g3, rfl, lo_g3, ha_r, hb3⟩
  try simp only [World.size_alloc] at lo_g3
  have hs3 : Below w2.heap.size w2 w3 := (by go_grown : Below w2.heap.size w2 _).trans (hb3.mono (by go_size))
  have z3 : w2.heap.size ≤ w3.heap.size := hs3.size
  have HW3 := hide (HW2.out.trans (hs3.mono HW2.out.size))
  have c_s0_3 : w3.cell? ⟨w2.heap.size, 0, none⟩ = some (.slice (some ⟨g2, 0, none⟩) n c_g2) := (hb3.cell (p := ⟨w2.heap.size, 0, none⟩) (by go_size)).trans (by simp [go_sem])
  have c_s1_3 : w3.cell? ⟨w2.heap.size, 1, none⟩ = some (.bool own) := (hb3.cell (p := ⟨w2.heap.size, 1, none⟩) (by go_size)).trans (by simp [go_sem])
  have l_s_3 : w2.heap.size < w3.heap.size := Nat.lt_of_lt_of_le (by go_size) hb3.size
  have HA_a_3 := hide (HA_a_2.out.all hs3)
  have HA_s_3 := hide (HA_s_2.out.all hs3)
  have HA_x_3 := hide ha_r
  have hi_x_3 : g3 < w3.heap.size := ha_r.lt
  clear HA_a_2 HA_s_2 ha_r hb3 hs3
  go_wp2_with fail
  refine (HIM.out _ _ _ (by first | exact Src.of_arr HA_x_3.out | exact Src.of_arr (HA_x_3.out.alloc _) | exact Src.of_arr ((HA_x_3.out.alloc _).alloc _) | exact Src.of_arr HA_x_3.out.drew)).mono ?_
  rintro e w4 ⟨g4, c_g4, rfl, lo_g4, ha_r, hb4⟩
  try simp only [World.size_alloc] at lo_g4
  have hs4 : Below w3.heap.size w3 w4 := (by go_grown : Below w3.heap.size w3 _).trans (hb4.mono (by go_size))
  have z4 : w3.heap.size ≤ w4.heap.size := hs4.size
  have HW4 := hide (HW3.out.trans (hs4.mono HW3.out.size))
  have c_s0_4 : w4.cell? ⟨w2.heap.size, 0, none⟩ = some (.slice (some ⟨g2, 0, none⟩) n c_g2) := (hs4.cell (p := ⟨w2.heap.size, 0, none⟩) l_s_3).trans c_s0_3
  have c_s1_4 : w4.cell? ⟨w2.heap.size, 1, none⟩ = some (.bool own) := (hs4.cell (p := ⟨w2.heap.size, 1, none⟩) l_s_3).trans c_s1_3
  have l_s_4 : w2.heap.size < w4.heap.size := Nat.lt_of_lt_of_le l_s_3 z4
  have HA_a_4 := hide (HA_a_3.out.all hs4)
  have HA_s_4 := hide (HA_s_3.out.all hs4)
  have HA_x_4 := hide (HA_x_3.out.all hs4)
  have HA_i_4 := hide ha_r
  have hi_i_4 : g4 < w4.heap.size := ha_r.lt
  clear c_s0_3 c_s1_3 l_s_3 HA_a_3 HA_s_3 HA_x_3 ha_r hb4 hs4
  go_wp2_with fail
  refine (eqGraph_true _ _ _ _ _ f2 _ _ hn2 (by first | exact Src.of_arr HA_i_4.out | exact Src.of_arr (HA_i_4.out.alloc _) | exact Src.of_arr ((HA_i_4.out.alloc _).alloc _) | exact Src.of_arr HA_i_4.out.drew) (by first | exact Src.of_arr HA_s_4.out | exact Src.of_arr (HA_s_4.out.alloc _) | exact Src.of_arr ((HA_s_4.out.alloc _).alloc _) | exact Src.of_arr HA_s_4.out.drew)).mono ?_
  rintro e w5 ⟨rfl, hb5⟩
  have hs5 : Below w4.heap.size w4 w5 := (by go_grown : Below w4.heap.size w4 _).trans (hb5.mono (by go_size))
  have z5 : w4.heap.size ≤ w5.heap.size := hs5.size
  have HW5 := hide (HW4.out.trans (hs5.mono HW4.out.size))
  have c_s0_5 : w5.cell? ⟨w2.heap.size, 0, none⟩ = some (.slice (some ⟨g2, 0, none⟩) n c_g2) := (hs5.cell (p := ⟨w2.heap.size, 0, none⟩) l_s_4).trans c_s0_4
  have c_s1_5 : w5.cell? ⟨w2.heap.size, 1, none⟩ = some (.bool own) := (hs5.cell (p := ⟨w2.heap.size, 1, none⟩) l_s_4).trans c_s1_4
  have l_s_5 : w2.heap.size < w5.heap.size := Nat.lt_of_lt_of_le l_s_4 z5
  have c_i0_5 : w5.cell? ⟨w4.heap.size, 0, none⟩ = some (.slice (some ⟨g4, 0, none⟩) n c_g4) := (hb5.cell (p := ⟨w4.heap.size, 0, none⟩) (by go_size)).trans (by simp [go_sem])
  have c_i1_5 : w5.cell? ⟨w4.heap.size, 1, none⟩ = some (.bool own) := (hb5.cell (p := ⟨w4.heap.size, 1, none⟩) (by go_size)).trans (by simp [go_sem])
  have l_i_5 : w4.heap.size < w5.heap.size := Nat.lt_of_lt_of_le (by go_size) hb5.size
  have HA_a_5 := hide (HA_a_4.out.all hs5)
  have HA_s_5 := hide (HA_s_4.out.all hs5)
  have HA_x_5 := hide (HA_x_4.out.all hs5)
  have HA_i_5 := hide (HA_i_4.out.all hs5)
  clear c_s0_4 c_s1_4 l_s_4 HA_a_4 HA_s_4 HA_x_4 HA_i_4 hb5 hs5
  go_wp2_with fail
  refine (toIntS_new _ _ _ f _ hn2 (by first | exact (HS_A.out.below HW5.out) | exact Src.alloc (HS_A.out.below HW5.out) _ | exact Src.alloc (Src.alloc (HS_A.out.below HW5.out) _) _ | exact Src.drew (HS_A.out.below HW5.out))).mono ?_
  rintro e w6 ⟨g6, rfl, lo_g6, ha_r, hb6⟩
  try simp only [World.size_alloc] at lo_g6
  have hs6 : Below w5.heap.size w5 w6 := (by go_grown : Below w5.heap.size w5 _).trans (hb6.mono (by go_size))
  have z6 : w5.heap.size ≤ w6.heap.size := hs6.size
  have HW6 := hide (HW5.out.trans (hs6.mono HW5.out.size))
  have c_s0_6 : w6.cell? ⟨w2.heap.size, 0, none⟩ = some (.slice (some ⟨g2, 0, none⟩) n c_g2) := (hs6.cell (p := ⟨w2.heap.size, 0, none⟩) l_s_5).trans c_s0_5
  have c_s1_6 : w6.cell? ⟨w2.heap.size, 1, none⟩ = some (.bool own) := (hs6.cell (p := ⟨w2.heap.size, 1, none⟩) l_s_5).trans c_s1_5
  have l_s_6 : w2.heap.size < w6.heap.size := Nat.lt_of_lt_of_le l_s_5 z6
  have c_i0_6 : w6.cell? ⟨w4.heap.size, 0, none⟩ = some (.slice (some ⟨g4, 0, none⟩) n c_g4) := (hs6.cell (p := ⟨w4.heap.size, 0, none⟩) l_i_5).trans c_i0_5
  have c_i1_6 : w6.cell? ⟨w4.heap.size, 1, none⟩ = some (.bool own) := (hs6.cell (p := ⟨w4.heap.size, 1, none⟩) l_i_5).trans c_i1_5
  have l_i_6 : w4.heap.size < w6.heap.size := Nat.lt_of_lt_of_le l_i_5 z6
  have HA_a_6 := hide (HA_a_5.out.all hs6)
  have HA_s_6 := hide (HA_s_5.out.all hs6)
  have HA_x_6 := hide (HA_x_5.out.all hs6)
  have HA_i_6 := hide (HA_i_5.out.all hs6)
  have HA_z_6 := hide ha_r
  have hi_z_6 : g6 < w6.heap.size := ha_r.lt
  clear c_s0_5 c_s1_5 l_s_5 c_i0_5 c_i1_5 l_i_5 HA_a_5 HA_s_5 HA_x_5 HA_i_5 ha_r hb6 hs6
  go_wp2_with fail
  refine (eqIntS_below _ _ _ _ _ f _ hn2 (by first | exact Src.of_arr HA_x_6.out | exact Src.of_arr (HA_x_6.out.alloc _) | exact Src.of_arr ((HA_x_6.out.alloc _).alloc _) | exact Src.of_arr HA_x_6.out.drew) (by first | exact Src.of_arr HA_z_6.out | exact Src.of_arr (HA_z_6.out.alloc _) | exact Src.of_arr ((HA_z_6.out.alloc _).alloc _) | exact Src.of_arr HA_z_6.out.drew)).mono ?_
  rintro e w7 ⟨rfl, hb7⟩
  have hs7 : Below w6.heap.size w6 w7 := (by go_grown : Below w6.heap.size w6 _).trans (hb7.mono (by go_size))
  have z7 : w6.heap.size ≤ w7.heap.size := hs7.size
  have HW7 := hide (HW6.out.trans (hs7.mono HW6.out.size))
  have c_s0_7 : w7.cell? ⟨w2.heap.size, 0, none⟩ = some (.slice (some ⟨g2, 0, none⟩) n c_g2) := (hs7.cell (p := ⟨w2.heap.size, 0, none⟩) l_s_6).trans c_s0_6
  have c_s1_7 : w7.cell? ⟨w2.heap.size, 1, none⟩ = some (.bool own) := (hs7.cell (p := ⟨w2.heap.size, 1, none⟩) l_s_6).trans c_s1_6
  have l_s_7 : w2.heap.size < w7.heap.size := Nat.lt_of_lt_of_le l_s_6 z7
  have c_i0_7 : w7.cell? ⟨w4.heap.size, 0, none⟩ = some (.slice (some ⟨g4, 0, none⟩) n c_g4) := (hs7.cell (p := ⟨w4.heap.size, 0, none⟩) l_i_6).trans c_i0_6
  have c_i1_7 : w7.cell? ⟨w4.heap.size, 1, none⟩ = some (.bool own) := (hs7.cell (p := ⟨w4.heap.size, 1, none⟩) l_i_6).trans c_i1_6
  have l_i_7 : w4.heap.size < w7.heap.size := Nat.lt_of_lt_of_le l_i_6 z7
  have HA_a_7 := hide (HA_a_6.out.all hs7)
  have HA_s_7 := hide (HA_s_6.out.all hs7)
  have HA_x_7 := hide (HA_x_6.out.all hs7)
  have HA_i_7 := hide (HA_i_6.out.all hs7)
  have HA_z_7 := hide (HA_z_6.out.all hs7)
  clear c_s0_6 c_s1_6 l_s_6 c_i0_6 c_i1_6 l_i_6 HA_a_6 HA_s_6 HA_x_6 HA_i_6 HA_z_6 hb7 hs7
  go_wp2_with fail
  refine (markIntS_arr _ _ _ f _ _ hn2 (by omega) (by omega) (by first | exact HA_x_7.out | exact HA_x_7.out.alloc _ | exact (HA_x_7.out.alloc _).alloc _ | exact HA_x_7.out.drew)).mono ?_
  rintro e w8 ⟨rfl, ha_m, hb8⟩
  have hs8 : w7.grownBy w8 (some g3) := grownBy_trans (grownBy_of_below (by go_grown) _) hb8
  have z8 : w7.heap.size ≤ w8.heap.size := hs8.size
  have HW8 := hide (HW7.out.grown hs8 HW7.out.size (fun k hk => by injection hk with hk; have := HW7.out.size; omega))
  have c_s0_8 : w8.cell? ⟨w2.heap.size, 0, none⟩ = some (.slice (some ⟨g2, 0, none⟩) n c_g2) := World.grownBy.cell hs8 c_s0_7 (by intro h; injection h with h; simp at h; omega)
  have c_s1_8 : w8.cell? ⟨w2.heap.size, 1, none⟩ = some (.bool own) := World.grownBy.cell hs8 c_s1_7 (by intro h; injection h with h; simp at h; omega)
  have l_s_8 : w2.heap.size < w8.heap.size := Nat.lt_of_lt_of_le l_s_7 z8
  have c_i0_8 : w8.cell? ⟨w4.heap.size, 0, none⟩ = some (.slice (some ⟨g4, 0, none⟩) n c_g4) := World.grownBy.cell hs8 c_i0_7 (by intro h; injection h with h; simp at h; omega)
  have c_i1_8 : w8.cell? ⟨w4.heap.size, 1, none⟩ = some (.bool own) := World.grownBy.cell hs8 c_i1_7 (by intro h; injection h with h; simp at h; omega)
  have l_i_8 : w4.heap.size < w8.heap.size := Nat.lt_of_lt_of_le l_i_7 z8
  have HA_a_8 := hide (HA_a_7.out.of_block (hs8.block g1 (HA_a_7.out.lt) (by intro h; injection h with h; omega)))
  have HA_s_8 := hide (HA_s_7.out.of_block (hs8.block g2 (HA_s_7.out.lt) (by intro h; injection h with h; omega)))
  have HA_i_8 := hide (HA_i_7.out.of_block (hs8.block g4 (HA_i_7.out.lt) (by intro h; injection h with h; omega)))
  have HA_z_8 := hide (HA_z_7.out.of_block (hs8.block g6 (HA_z_7.out.lt) (by intro h; injection h with h; omega)))
  have HA_x_8 := hide ha_m
  have hi_x_8 : g3 < w8.heap.size := ha_m.lt
  clear c_s0_7 c_s1_7 l_s_7 c_i0_7 c_i1_7 l_i_7 HA_a_7 HA_s_7 HA_i_7 HA_z_7 ha_m hb8 hs8
  go_wp2_with fail
  refine (eqGraph_true _ _ _ _ _ f2 _ _ hn2 (by first | exact Src.of_arr HA_i_8.out | exact Src.of_arr (HA_i_8.out.alloc _) | exact Src.of_arr ((HA_i_8.out.alloc _).alloc _) | exact Src.of_arr HA_i_8.out.drew) (by first | exact Src.of_arr HA_s_8.out | exact Src.of_arr (HA_s_8.out.alloc _) | exact Src.of_arr ((HA_s_8.out.alloc _).alloc _) | exact Src.of_arr HA_s_8.out.drew)).mono ?_
  rintro e w9 ⟨rfl, hb9⟩
  have hs9 : Below w8.heap.size w8 w9 := (by go_grown : Below w8.heap.size w8 _).trans (hb9.mono (by go_size))
  have z9 : w8.heap.size ≤ w9.heap.size := hs9.size
  have HW9 := hide (HW8.out.trans (hs9.mono HW8.out.size))
  have c_s0_9 : w9.cell? ⟨w2.heap.size, 0, none⟩ = some (.slice (some ⟨g2, 0, none⟩) n c_g2) := (hs9.cell (p := ⟨w2.heap.size, 0, none⟩) l_s_8).trans c_s0_8
  have c_s1_9 : w9.cell? ⟨w2.heap.size, 1, none⟩ = some (.bool own) := (hs9.cell (p := ⟨w2.heap.size, 1, none⟩) l_s_8).trans c_s1_8
  have l_s_9 : w2.heap.size < w9.heap.size := Nat.lt_of_lt_of_le l_s_8 z9
  have c_i0_9 : w9.cell? ⟨w4.heap.size, 0, none⟩ = some (.slice (some ⟨g4, 0, none⟩) n c_g4) := (hs9.cell (p := ⟨w4.heap.size, 0, none⟩) l_i_8).trans c_i0_8
  have c_i1_9 : w9.cell? ⟨w4.heap.size, 1, none⟩ = some (.bool own) := (hs9.cell (p := ⟨w4.heap.size, 1, none⟩) l_i_8).trans c_i1_8
  have l_i_9 : w4.heap.size < w9.heap.size := Nat.lt_of_lt_of_le l_i_8 z9
  have HA_a_9 := hide (HA_a_8.out.all hs9)
  have HA_s_9 := hide (HA_s_8.out.all hs9)
  have HA_x_9 := hide (HA_x_8.out.all hs9)
  have HA_i_9 := hide (HA_i_8.out.all hs9)
  have HA_z_9 := hide (HA_z_8.out.all hs9)
  clear c_s0_8 c_s1_8 l_s_8 c_i0_8 c_i1_8 l_i_8 HA_a_8 HA_s_8 HA_x_8 HA_i_8 HA_z_8 hb9 hs9
  go_wp2_with fail
  refine (markGraph_arr _ _ _ f2 _ _ _ hn2 (by omega) (by omega) (by first | exact HA_i_9.out | exact HA_i_9.out.alloc _ | exact (HA_i_9.out.alloc _).alloc _ | exact HA_i_9.out.drew)).mono ?_
  rintro e w10 ⟨rfl, ha_n, hb10⟩
  have hs10 : w9.grownBy w10 (some g4) := grownBy_trans (grownBy_of_below (by go_grown) _) hb10
  have z10 : w9.heap.size ≤ w10.heap.size := hs10.size
  have HW10 := hide (HW9.out.grown hs10 HW9.out.size (fun k hk => by injection hk with hk; have := HW9.out.size; omega))
  have c_s0_10 : w10.cell? ⟨w2.heap.size, 0, none⟩ = some (.slice (some ⟨g2, 0, none⟩) n c_g2) := World.grownBy.cell hs10 c_s0_9 (by intro h; injection h with h; simp at h; omega)
  have c_s1_10 : w10.cell? ⟨w2.heap.size, 1, none⟩ = some (.bool own) := World.grownBy.cell hs10 c_s1_9 (by intro h; injection h with h; simp at h; omega)
  have l_s_10 : w2.heap.size < w10.heap.size := Nat.lt_of_lt_of_le l_s_9 z10
  have c_i0_10 : w10.cell? ⟨w4.heap.size, 0, none⟩ = some (.slice (some ⟨g4, 0, none⟩) n c_g4) := World.grownBy.cell hs10 c_i0_9 (by intro h; injection h with h; simp at h; omega)
  have c_i1_10 : w10.cell? ⟨w4.heap.size, 1, none⟩ = some (.bool own) := World.grownBy.cell hs10 c_i1_9 (by intro h; injection h with h; simp at h; omega)
  have l_i_10 : w4.heap.size < w10.heap.size := Nat.lt_of_lt_of_le l_i_9 z10
  have HA_a_10 := hide (HA_a_9.out.of_block (hs10.block g1 (HA_a_9.out.lt) (by intro h; injection h with h; omega)))
  have HA_s_10 := hide (HA_s_9.out.of_block (hs10.block g2 (HA_s_9.out.lt) (by intro h; injection h with h; omega)))
  have HA_x_10 := hide (HA_x_9.out.of_block (hs10.block g3 (HA_x_9.out.lt) (by intro h; injection h with h; omega)))
  have HA_z_10 := hide (HA_z_9.out.of_block (hs10.block g6 (HA_z_9.out.lt) (by intro h; injection h with h; omega)))
  have HA_i_10 := hide ha_n
  have hi_i_10 : g4 < w10.heap.size := ha_n.lt
  clear c_s0_9 c_s1_9 l_s_9 c_i0_9 c_i1_9 l_i_9 HA_a_9 HA_s_9 HA_x_9 HA_z_9 ha_n hb10 hs10
  go_wp2_with fail
  refine (heldGraph_any _ _ _ _ _ _ hn2 (by omega) (by omega) (by first | exact Src.of_arr HA_i_10.out | exact Src.of_arr (HA_i_10.out.alloc _) | exact Src.of_arr ((HA_i_10.out.alloc _).alloc _) | exact Src.of_arr HA_i_10.out.drew)).mono ?_
  rintro e w11 ⟨rfl, hb11⟩
  have hs11 : Below w10.heap.size w10 w11 := (by go_grown : Below w10.heap.size w10 _).trans (hb11.mono (by go_size))
  have z11 : w10.heap.size ≤ w11.heap.size := hs11.size
  have HW11 := hide (HW10.out.trans (hs11.mono HW10.out.size))
  have c_s0_11 : w11.cell? ⟨w2.heap.size, 0, none⟩ = some (.slice (some ⟨g2, 0, none⟩) n c_g2) := (hs11.cell (p := ⟨w2.heap.size, 0, none⟩) l_s_10).trans c_s0_10
  have c_s1_11 : w11.cell? ⟨w2.heap.size, 1, none⟩ = some (.bool own) := (hs11.cell (p := ⟨w2.heap.size, 1, none⟩) l_s_10).trans c_s1_10
  have l_s_11 : w2.heap.size < w11.heap.size := Nat.lt_of_lt_of_le l_s_10 z11
  have c_i0_11 : w11.cell? ⟨w4.heap.size, 0, none⟩ = some (.slice (some ⟨g4, 0, none⟩) n c_g4) := (hs11.cell (p := ⟨w4.heap.size, 0, none⟩) l_i_10).trans c_i0_10
  have c_i1_11 : w11.cell? ⟨w4.heap.size, 1, none⟩ = some (.bool own) := (hs11.cell (p := ⟨w4.heap.size, 1, none⟩) l_i_10).trans c_i1_10
  have l_i_11 : w4.heap.size < w11.heap.size := Nat.lt_of_lt_of_le l_i_10 z11
  have HA_a_11 := hide (HA_a_10.out.all hs11)
  have HA_s_11 := hide (HA_s_10.out.all hs11)
  have HA_x_11 := hide (HA_x_10.out.all hs11)
  have HA_i_11 := hide (HA_i_10.out.all hs11)
  have HA_z_11 := hide (HA_z_10.out.all hs11)
  clear c_s0_10 c_s1_10 l_s_10 c_i0_10 c_i1_10 l_i_10 HA_a_10 HA_s_10 HA_x_10 HA_i_10 HA_z_10 hb11 hs11
  go_wp2_with fail
  refine (toIntS_new _ _ _ f _ hn2 (by first | exact (HS_A.out.below HW11.out) | exact Src.alloc (HS_A.out.below HW11.out) _ | exact Src.alloc (Src.alloc (HS_A.out.below HW11.out) _) _ | exact Src.drew (HS_A.out.below HW11.out))).mono ?_
  rintro e w12 ⟨g12, rfl, lo_g12, ha_r, hb12⟩
  try simp only [World.size_alloc] at lo_g12
  have hs12 : Below w11.heap.size w11 w12 := (by go_grown : Below w11.heap.size w11 _).trans (hb12.mono (by go_size))
  have z12 : w11.heap.size ≤ w12.heap.size := hs12.size
  have HW12 := hide (HW11.out.trans (hs12.mono HW11.out.size))
  have c_s0_12 : w12.cell? ⟨w2.heap.size, 0, none⟩ = some (.slice (some ⟨g2, 0, none⟩) n c_g2) := (hs12.cell (p := ⟨w2.heap.size, 0, none⟩) l_s_11).trans c_s0_11
  have c_s1_12 : w12.cell? ⟨w2.heap.size, 1, none⟩ = some (.bool own) := (hs12.cell (p := ⟨w2.heap.size, 1, none⟩) l_s_11).trans c_s1_11
  have l_s_12 : w2.heap.size < w12.heap.size := Nat.lt_of_lt_of_le l_s_11 z12
  have c_i0_12 : w12.cell? ⟨w4.heap.size, 0, none⟩ = some (.slice (some ⟨g4, 0, none⟩) n c_g4) := (hs12.cell (p := ⟨w4.heap.size, 0, none⟩) l_i_11).trans c_i0_11
  have c_i1_12 : w12.cell? ⟨w4.heap.size, 1, none⟩ = some (.bool own) := (hs12.cell (p := ⟨w4.heap.size, 1, none⟩) l_i_11).trans c_i1_11
  have l_i_12 : w4.heap.size < w12.heap.size := Nat.lt_of_lt_of_le l_i_11 z12
  have HA_a_12 := hide (HA_a_11.out.all hs12)
  have HA_s_12 := hide (HA_s_11.out.all hs12)
  have HA_x_12 := hide (HA_x_11.out.all hs12)
  have HA_i_12 := hide (HA_i_11.out.all hs12)
  have HA_z_12 := hide (HA_z_11.out.all hs12)
  have HA_q_12 := hide ha_r
  have hi_q_12 : g12 < w12.heap.size := ha_r.lt
  clear c_s0_11 c_s1_11 l_s_11 c_i0_11 c_i1_11 l_i_11 HA_a_11 HA_s_11 HA_x_11 HA_i_11 HA_z_11 ha_r hb12 hs12
  go_wp2_with fail
  refine (HIM.out _ _ _ (by first | exact Src.of_arr HA_q_12.out | exact Src.of_arr (HA_q_12.out.alloc _) | exact Src.of_arr ((HA_q_12.out.alloc _).alloc _) | exact Src.of_arr HA_q_12.out.drew)).mono ?_
  rintro e w13 ⟨g13, c_g13, rfl, lo_g13, ha_r, hb13⟩
  try simp only [World.size_alloc] at lo_g13
  have hs13 : Below w12.heap.size w12 w13 := (by go_grown : Below w12.heap.size w12 _).trans (hb13.mono (by go_size))
  have z13 : w12.heap.size ≤ w13.heap.size := hs13.size
  have HW13 := hide (HW12.out.trans (hs13.mono HW12.out.size))
  have c_s0_13 : w13.cell? ⟨w2.heap.size, 0, none⟩ = some (.slice (some ⟨g2, 0, none⟩) n c_g2) := (hs13.cell (p := ⟨w2.heap.size, 0, none⟩) l_s_12).trans c_s0_12
  have c_s1_13 : w13.cell? ⟨w2.heap.size, 1, none⟩ = some (.bool own) := (hs13.cell (p := ⟨w2.heap.size, 1, none⟩) l_s_12).trans c_s1_12
  have l_s_13 : w2.heap.size < w13.heap.size := Nat.lt_of_lt_of_le l_s_12 z13
  have c_i0_13 : w13.cell? ⟨w4.heap.size, 0, none⟩ = some (.slice (some ⟨g4, 0, none⟩) n c_g4) := (hs13.cell (p := ⟨w4.heap.size, 0, none⟩) l_i_12).trans c_i0_12
  have c_i1_13 : w13.cell? ⟨w4.heap.size, 1, none⟩ = some (.bool own) := (hs13.cell (p := ⟨w4.heap.size, 1, none⟩) l_i_12).trans c_i1_12
  have l_i_13 : w4.heap.size < w13.heap.size := Nat.lt_of_lt_of_le l_i_12 z13
  have HA_a_13 := hide (HA_a_12.out.all hs13)
  have HA_s_13 := hide (HA_s_12.out.all hs13)
  have HA_x_13 := hide (HA_x_12.out.all hs13)
  have HA_i_13 := hide (HA_i_12.out.all hs13)
  have HA_z_13 := hide (HA_z_12.out.all hs13)
  have HA_q_13 := hide (HA_q_12.out.all hs13)
  have HA_j_13 := hide ha_r
  have hi_j_13 : g13 < w13.heap.size := ha_r.lt
  clear c_s0_12 c_s1_12 l_s_12 c_i0_12 c_i1_12 l_i_12 HA_a_12 HA_s_12 HA_x_12 HA_i_12 HA_z_12 HA_q_12 ha_r hb13 hs13
  go_wp2_with fail
  refine (eqGraph_true _ _ _ _ _ f2 _ _ hn2 (by first | exact Src.of_arr HA_j_13.out | exact Src.of_arr (HA_j_13.out.alloc _) | exact Src.of_arr ((HA_j_13.out.alloc _).alloc _) | exact Src.of_arr HA_j_13.out.drew) (by first | exact Src.of_arr HA_s_13.out | exact Src.of_arr (HA_s_13.out.alloc _) | exact Src.of_arr ((HA_s_13.out.alloc _).alloc _) | exact Src.of_arr HA_s_13.out.drew)).mono ?_
  rintro e w14 ⟨rfl, hb14⟩
  have hs14 : Below w13.heap.size w13 w14 := (by go_grown : Below w13.heap.size w13 _).trans (hb14.mono (by go_size))
  have z14 : w13.heap.size ≤ w14.heap.size := hs14.size
  have HW14 := hide (HW13.out.trans (hs14.mono HW13.out.size))
  have c_s0_14 : w14.cell? ⟨w2.heap.size, 0, none⟩ = some (.slice (some ⟨g2, 0, none⟩) n c_g2) := (hs14.cell (p := ⟨w2.heap.size, 0, none⟩) l_s_13).trans c_s0_13
  have c_s1_14 : w14.cell? ⟨w2.heap.size, 1, none⟩ = some (.bool own) := (hs14.cell (p := ⟨w2.heap.size, 1, none⟩) l_s_13).trans c_s1_13
  have l_s_14 : w2.heap.size < w14.heap.size := Nat.lt_of_lt_of_le l_s_13 z14
  have c_i0_14 : w14.cell? ⟨w4.heap.size, 0, none⟩ = some (.slice (some ⟨g4, 0, none⟩) n c_g4) := (hs14.cell (p := ⟨w4.heap.size, 0, none⟩) l_i_13).trans c_i0_13
  have c_i1_14 : w14.cell? ⟨w4.heap.size, 1, none⟩ = some (.bool own) := (hs14.cell (p := ⟨w4.heap.size, 1, none⟩) l_i_13).trans c_i1_13
  have l_i_14 : w4.heap.size < w14.heap.size := Nat.lt_of_lt_of_le l_i_13 z14
  have c_j0_14 : w14.cell? ⟨w13.heap.size, 0, none⟩ = some (.slice (some ⟨g13, 0, none⟩) n c_g13) := (hb14.cell (p := ⟨w13.heap.size, 0, none⟩) (by go_size)).trans (by simp [go_sem])
  have c_j1_14 : w14.cell? ⟨w13.heap.size, 1, none⟩ = some (.bool own) := (hb14.cell (p := ⟨w13.heap.size, 1, none⟩) (by go_size)).trans (by simp [go_sem])
  have l_j_14 : w13.heap.size < w14.heap.size := Nat.lt_of_lt_of_le (by go_size) hb14.size
  have HA_a_14 := hide (HA_a_13.out.all hs14)
  have HA_s_14 := hide (HA_s_13.out.all hs14)
  have HA_x_14 := hide (HA_x_13.out.all hs14)
  have HA_i_14 := hide (HA_i_13.out.all hs14)
  have HA_z_14 := hide (HA_z_13.out.all hs14)
  have HA_q_14 := hide (HA_q_13.out.all hs14)
  have HA_j_14 := hide (HA_j_13.out.all hs14)
  clear c_s0_13 c_s1_13 l_s_13 c_i0_13 c_i1_13 l_i_13 HA_a_13 HA_s_13 HA_x_13 HA_i_13 HA_z_13 HA_q_13 HA_j_13 hb14 hs14
  go_wp2_with fail
  refine (heldGraph_any _ _ _ _ _ _ hn2 (by omega) (by omega) (by first | exact Src.of_arr HA_i_14.out | exact Src.of_arr (HA_i_14.out.alloc _) | exact Src.of_arr ((HA_i_14.out.alloc _).alloc _) | exact Src.of_arr HA_i_14.out.drew)).mono ?_
  rintro e w15 ⟨rfl, hb15⟩
  have hs15 : Below w14.heap.size w14 w15 := (by go_grown : Below w14.heap.size w14 _).trans (hb15.mono (by go_size))
  have z15 : w14.heap.size ≤ w15.heap.size := hs15.size
  have HW15 := hide (HW14.out.trans (hs15.mono HW14.out.size))
  have c_s0_15 : w15.cell? ⟨w2.heap.size, 0, none⟩ = some (.slice (some ⟨g2, 0, none⟩) n c_g2) := (hs15.cell (p := ⟨w2.heap.size, 0, none⟩) l_s_14).trans c_s0_14
  have c_s1_15 : w15.cell? ⟨w2.heap.size, 1, none⟩ = some (.bool own) := (hs15.cell (p := ⟨w2.heap.size, 1, none⟩) l_s_14).trans c_s1_14
  have l_s_15 : w2.heap.size < w15.heap.size := Nat.lt_of_lt_of_le l_s_14 z15
  have c_i0_15 : w15.cell? ⟨w4.heap.size, 0, none⟩ = some (.slice (some ⟨g4, 0, none⟩) n c_g4) := (hs15.cell (p := ⟨w4.heap.size, 0, none⟩) l_i_14).trans c_i0_14
  have c_i1_15 : w15.cell? ⟨w4.heap.size, 1, none⟩ = some (.bool own) := (hs15.cell (p := ⟨w4.heap.size, 1, none⟩) l_i_14).trans c_i1_14
  have l_i_15 : w4.heap.size < w15.heap.size := Nat.lt_of_lt_of_le l_i_14 z15
  have c_j0_15 : w15.cell? ⟨w13.heap.size, 0, none⟩ = some (.slice (some ⟨g13, 0, none⟩) n c_g13) := (hs15.cell (p := ⟨w13.heap.size, 0, none⟩) l_j_14).trans c_j0_14
  have c_j1_15 : w15.cell? ⟨w13.heap.size, 1, none⟩ = some (.bool own) := (hs15.cell (p := ⟨w13.heap.size, 1, none⟩) l_j_14).trans c_j1_14
  have l_j_15 : w13.heap.size < w15.heap.size := Nat.lt_of_lt_of_le l_j_14 z15
  have HA_a_15 := hide (HA_a_14.out.all hs15)
  have HA_s_15 := hide (HA_s_14.out.all hs15)
  have HA_x_15 := hide (HA_x_14.out.all hs15)
  have HA_i_15 := hide (HA_i_14.out.all hs15)
  have HA_z_15 := hide (HA_z_14.out.all hs15)
  have HA_q_15 := hide (HA_q_14.out.all hs15)
  have HA_j_15 := hide (HA_j_14.out.all hs15)
  clear c_s0_14 c_s1_14 l_s_14 c_i0_14 c_i1_14 l_i_14 c_j0_14 c_j1_14 l_j_14 HA_a_14 HA_s_14 HA_x_14 HA_i_14 HA_z_14 HA_q_14 HA_j_14 hb15 hs15
  go_wp2
  go_ret
  exact ⟨rfl, by have h := HW15.out; have hz := h.size; go_grown⟩
theorem lawFrom_big (A : Option Addr) (n c : Nat) (own : Bool) (w : World) (hn : n ≤ 9223372036854775807) (hbig : 1048576 < n) :
    Calls Try.prog 5 #[.slice A n c, .bool own] w fun e w' => e = .returned (.bool true) ∧ Below w.heap.size w w' := by
  have hbig' : (1048576 : Int) < n := by omega
  go_enter Try.func5, Try.ntmps5
  go_wp2
  go_ret
  exact ⟨rfl, by go_grown⟩
theorem lawFromParents (A : Option Addr) (n c : Nat) (f : Nat → Int) (own : Bool) (w : World) (hn : n ≤ 9223372036854775807) (hs : Src w A n (iv f)) :
    Calls Try.prog 5 #[.slice A n c, .bool own] w fun e w' => e = .returned (.bool true) ∧ Below w.heap.size w w' := by
  by_cases hbig : 1048576 < n
  · exact lawFrom_big A n c own w hn hbig
  · cases hz : inB n 1 16
    · exact lawFrom_no A n c f own w (by omega) (hide fun A c w _ => fpSpec_size A n c own w hz) (hide fun A c w _ => fpImpl_size A n c own w hz) (hide hs)
    · by_cases hk : okP f n = true
      · exact lawFrom_ok A n c f _ own w (by omega) (hide fun A c w hs => (fpSpec_any A n c f own w hz hs).mono fun e w' h => by unfold FPost at h; rwa [if_pos hk] at h) (hide fun A c w hs => (fpImpl_any A n c f own w hz hs).mono fun e w' h => by unfold FPost at h; rwa [if_pos hk] at h) (hide hs)
      · exact lawFrom_no A n c f own w (by omega) (hide fun A c w hs => (fpSpec_any A n c f own w hz hs).mono fun e w' h => by unfold FPost at h; rwa [if_neg hk] at h) (hide fun A c w hs => (fpImpl_any A n c f own w hz hs).mono fun e w' h => by unfold FPost at h; rwa [if_neg hk] at h) (hide hs)
end Go.Proofs.Ytmcimfblhpflnaa
