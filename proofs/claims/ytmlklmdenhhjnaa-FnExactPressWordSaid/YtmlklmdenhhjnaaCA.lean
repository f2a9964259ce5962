import Derived.Test.YtmlklmdenhhjnaaBZ
import Derived.Test.YtmlklmdenhhjnaaZB
import Derived.Deep.RegionHeld3
namespace Go.Proofs.Ytmlklmdenhhjnaa
open Go.RowKit
set_option maxHeartbeats 2000000
theorem lawPress_no (A : Option Addr) (n c : Nat) (f : Nat → Int) (own : Bool) (s i : Int) (w : World) (hn2 : n ≤ 1048576) (HN : Hid ((setB n f s && inB i 0 (n - 1)) = false)) (HS_A : Hid (Src w A n (iv f))) :
    Calls Try.prog 7 #[.agg #[.slice A n c, .bool own], .int .i64 s, .int .i64 i] w fun e w' => e = .returned (.bool true) ∧ Below w.heap.size w w' := by
  go_enter Try.func7, Try.ntmps7
  go_wp2_with fail
  refine (szGraph_ok _ _ _ _ _ _ (by omega) (by omega)).mono ?_
  rintro e w1 ⟨rfl, hb1⟩
  have hs1 : Below w.heap.size w w1 := (by go_grown : Below w.heap.size w _).trans (hb1.mono (by go_size))
  have z1 : w.heap.size ≤ w1.heap.size := hs1.size
  have HW1 := hide hs1
  have c_aG0_1 : w1.cell? ⟨w.heap.size, 0, none⟩ = some (.slice A n c) := (hb1.cell (p := ⟨w.heap.size, 0, none⟩) (by go_size)).trans (by simp [go_sem])
  have c_aG1_1 : w1.cell? ⟨w.heap.size, 1, none⟩ = some (.bool own) := (hb1.cell (p := ⟨w.heap.size, 1, none⟩) (by go_size)).trans (by simp [go_sem])
  have l_aG_1 : w.heap.size < w1.heap.size := Nat.lt_of_lt_of_le (by go_size) hb1.size
  clear  hb1 hs1
  go_wp2_with fail
  refine (toGraph_any _ _ _ f _ _ hn2 (by first | exact (HS_A.out.below HW1.out) | exact Src.alloc (HS_A.out.below HW1.out) _ | exact Src.alloc (Src.alloc (HS_A.out.below HW1.out) _) _ | exact Src.drew (HS_A.out.below HW1.out))).mono ?_
  rintro e w2 ⟨g2, rfl, lo_g2, ha2, hb2⟩
  try simp only [World.size_alloc] at lo_g2
  have hs2 : Below w1.heap.size w1 w2 := (by go_grown : Below w1.heap.size w1 _).trans (hb2.mono (by go_size))
  have z2 : w1.heap.size ≤ w2.heap.size := hs2.size
  have HW2 := hide (HW1.out.trans (hs2.mono HW1.out.size))
  have c_aG0_2 : w2.cell? ⟨w.heap.size, 0, none⟩ = some (.slice A n c) := (hs2.cell (p := ⟨w.heap.size, 0, none⟩) l_aG_1).trans c_aG0_1
  have c_aG1_2 : w2.cell? ⟨w.heap.size, 1, none⟩ = some (.bool own) := (hs2.cell (p := ⟨w.heap.size, 1, none⟩) l_aG_1).trans c_aG1_1
  have l_aG_2 : w.heap.size < w2.heap.size := Nat.lt_of_lt_of_le l_aG_1 z2
  have HA_t_2 := hide ha2
  have hi_t_2 : g2 < w2.heap.size := ha2.lt
  clear c_aG0_1 c_aG1_1 l_aG_1 ha2 hb2 hs2
  go_wp2_with fail
  refine (pressSpec_no _ _ _ f _ _ _ _ hn2 HN.out (by first | exact HA_t_2.out | exact HA_t_2.out.alloc _ | exact (HA_t_2.out.alloc _).alloc _ | exact HA_t_2.out.drew)).mono ?_
  rintro e w3 ⟨rfl, hb3⟩
  have hs3 : Below w2.heap.size w2 w3 := (by go_grown : Below w2.heap.size w2 _).trans (hb3.mono (by go_size))
  have z3 : w2.heap.size ≤ w3.heap.size := hs3.size
  have HW3 := hide (HW2.out.trans (hs3.mono HW2.out.size))
  have c_aG0_3 : w3.cell? ⟨w.heap.size, 0, none⟩ = some (.slice A n c) := (hs3.cell (p := ⟨w.heap.size, 0, none⟩) l_aG_2).trans c_aG0_2
  have c_aG1_3 : w3.cell? ⟨w.heap.size, 1, none⟩ = some (.bool own) := (hs3.cell (p := ⟨w.heap.size, 1, none⟩) l_aG_2).trans c_aG1_2
  have l_aG_3 : w.heap.size < w3.heap.size := Nat.lt_of_lt_of_le l_aG_2 z3
  have HA_t_3 := hide (HA_t_2.out.all hs3)
  clear c_aG0_2 c_aG1_2 l_aG_2 HA_t_2 hb3 hs3
  go_wp2_with fail
  refine (toGraph_any _ _ _ f _ _ hn2 (by first | exact (HS_A.out.below HW3.out) | exact Src.alloc (HS_A.out.below HW3.out) _ | exact Src.alloc (Src.alloc (HS_A.out.below HW3.out) _) _ | exact Src.drew (HS_A.out.below HW3.out))).mono ?_
  rintro e w4 ⟨g4, rfl, lo_g4, ha4, hb4⟩
  try simp only [World.size_alloc] at lo_g4
  have hs4 : Below w3.heap.size w3 w4 := (by go_grown : Below w3.heap.size w3 _).trans (hb4.mono (by go_size))
  have z4 : w3.heap.size ≤ w4.heap.size := hs4.size
  have HW4 := hide (HW3.out.trans (hs4.mono HW3.out.size))
  have c_aG0_4 : w4.cell? ⟨w.heap.size, 0, none⟩ = some (.slice A n c) := (hs4.cell (p := ⟨w.heap.size, 0, none⟩) l_aG_3).trans c_aG0_3
  have c_aG1_4 : w4.cell? ⟨w.heap.size, 1, none⟩ = some (.bool own) := (hs4.cell (p := ⟨w.heap.size, 1, none⟩) l_aG_3).trans c_aG1_3
  have l_aG_4 : w.heap.size < w4.heap.size := Nat.lt_of_lt_of_le l_aG_3 z4
  have HA_t_4 := hide (HA_t_3.out.all hs4)
  have HA_x_4 := hide ha4
  have hi_x_4 : g4 < w4.heap.size := ha4.lt
  clear c_aG0_3 c_aG1_3 l_aG_3 HA_t_3 ha4 hb4 hs4
  go_wp2_with fail
  refine (pressImpl_no _ _ _ f _ _ _ _ hn2 HN.out (by first | exact HA_x_4.out | exact HA_x_4.out.alloc _ | exact (HA_x_4.out.alloc _).alloc _ | exact HA_x_4.out.drew)).mono ?_
  rintro e w5 ⟨rfl, hb5⟩
  have hs5 : Below w4.heap.size w4 w5 := (by go_grown : Below w4.heap.size w4 _).trans (hb5.mono (by go_size))
  have z5 : w4.heap.size ≤ w5.heap.size := hs5.size
  have HW5 := hide (HW4.out.trans (hs5.mono HW4.out.size))
  have c_aG0_5 : w5.cell? ⟨w.heap.size, 0, none⟩ = some (.slice A n c) := (hs5.cell (p := ⟨w.heap.size, 0, none⟩) l_aG_4).trans c_aG0_4
  have c_aG1_5 : w5.cell? ⟨w.heap.size, 1, none⟩ = some (.bool own) := (hs5.cell (p := ⟨w.heap.size, 1, none⟩) l_aG_4).trans c_aG1_4
  have l_aG_5 : w.heap.size < w5.heap.size := Nat.lt_of_lt_of_le l_aG_4 z5
  have c_x0_5 : w5.cell? ⟨w4.heap.size, 0, none⟩ = some (.slice (some ⟨g4, 0, none⟩) n n) := (hb5.cell (p := ⟨w4.heap.size, 0, none⟩) (by go_size)).trans (by simp [go_sem])
  have c_x1_5 : w5.cell? ⟨w4.heap.size, 1, none⟩ = some (.bool own) := (hb5.cell (p := ⟨w4.heap.size, 1, none⟩) (by go_size)).trans (by simp [go_sem])
  have l_x_5 : w4.heap.size < w5.heap.size := Nat.lt_of_lt_of_le (by go_size) hb5.size
  have HA_t_5 := hide (HA_t_4.out.all hs5)
  have HA_x_5 := hide (HA_x_4.out.all hs5)
  clear c_aG0_4 c_aG1_4 l_aG_4 HA_t_4 HA_x_4 hb5 hs5
  go_wp2_with fail
  have KK : Hid (w5.drew.cell? ⟨w4.heap.size, 0, none⟩ = some (.slice (some ⟨g4, 0, none⟩) n n) ∧ w5.drew.cell? ⟨w4.heap.size, 1, none⟩ = some (.bool own) ∧ w5.drew.cell? ⟨w.heap.size, 0, none⟩ = some (.slice A n c) ∧ w5.drew.cell? ⟨w.heap.size, 1, none⟩ = some (.bool own)) := hide ⟨c_x0_5, c_x1_5, c_aG0_5, c_aG1_5⟩
  go_region_held3 (fun w' => w'.cell? ⟨w4.heap.size, 0, none⟩ = some (.slice (some ⟨g4, 0, none⟩) n n) ∧ w'.cell? ⟨w4.heap.size, 1, none⟩ = some (.bool own) ∧ w'.cell? ⟨w.heap.size, 0, none⟩ = some (.slice A n c) ∧ w'.cell? ⟨w.heap.size, 1, none⟩ = some (.bool own)) (first | exact KK.out | exact four_below (by assumption) KK.out | exact four_below (by assumption) (four_below (by assumption) KK.out)) (first | (go_at_call 19; refine (toGraph_any _ _ _ f _ _ hn2 (by exact Src.drew (HS_A.out.below HW5.out))).mono ?_; rintro e w6 ⟨g6, rfl, lo_g6, ha_r, hb6⟩; have HA_r := hide ha_r; clear ha_r) | (go_at_call 21; refine (eqGraph_true _ _ _ _ _ f _ _ hn2 (by exact Src.of_arr ((HA_x_5.out.drew).all hb6)) (by exact Src.of_arr HA_r.out)).mono ?_; rintro e w7 ⟨rfl, hb7⟩))
  have hbr : Below w5.heap.size w5 w7 := (Below.drew (Below.refl _ _)).trans (Below.trans hb6 (hb7.mono hb6.size))
  clear KK HA_r lo_g6 hb6 hb7
  have hb7 := hbr
  clear hbr
  have hs7 : Below w5.heap.size w5 w7 := (by go_grown : Below w5.heap.size w5 _).trans (hb7.mono (by go_size))
  have z7 : w5.heap.size ≤ w7.heap.size := hs7.size
  have HW7 := hide (HW5.out.trans (hs7.mono HW5.out.size))
  have c_aG0_7 : w7.cell? ⟨w.heap.size, 0, none⟩ = some (.slice A n c) := (hs7.cell (p := ⟨w.heap.size, 0, none⟩) l_aG_5).trans c_aG0_5
  have c_aG1_7 : w7.cell? ⟨w.heap.size, 1, none⟩ = some (.bool own) := (hs7.cell (p := ⟨w.heap.size, 1, none⟩) l_aG_5).trans c_aG1_5
  have l_aG_7 : w.heap.size < w7.heap.size := Nat.lt_of_lt_of_le l_aG_5 z7
  have c_x0_7 : w7.cell? ⟨w4.heap.size, 0, none⟩ = some (.slice (some ⟨g4, 0, none⟩) n n) := (hs7.cell (p := ⟨w4.heap.size, 0, none⟩) l_x_5).trans c_x0_5
  have c_x1_7 : w7.cell? ⟨w4.heap.size, 1, none⟩ = some (.bool own) := (hs7.cell (p := ⟨w4.heap.size, 1, none⟩) l_x_5).trans c_x1_5
  have l_x_7 : w4.heap.size < w7.heap.size := Nat.lt_of_lt_of_le l_x_5 z7
  have HA_t_7 := hide (HA_t_5.out.all hs7)
  have HA_x_7 := hide (HA_x_5.out.all hs7)
  clear c_aG0_5 c_aG1_5 l_aG_5 c_x0_5 c_x1_5 l_x_5 HA_t_5 HA_x_5 hb7 hs7
  go_wp2
  go_ret
  exact ⟨rfl, by have h := HW7.out; have hz := h.size; go_grown⟩
theorem lawPress_ok (A : Option Addr) (n c : Nat) (F : Nat → Nat) (own : Bool) (s i : Nat) (w : World) (hn2 : n ≤ 1048576) (hn16 : n ≤ 16) (hs : s < 2 ^ n) (hi : i < n) (HF : Hid (∀ j, j < n → F j < 2 ^ n)) (HT : Hid (setB n (nv F) s = true)) (HU : Hid (butB n (nv F) i = true)) (HG : Hid (goodB n (nv F) = true)) (HI : Hid (inB s 0 (2 ^ n - 1) = true)) (HS_A : Hid (Src w A n (iv (nv F)))) :
    Calls Try.prog 7 #[.agg #[.slice A n c, .bool own], .int .i64 s, .int .i64 i] w fun e w' => e = .returned (.bool true) ∧ Below w.heap.size w w' := by
  go_enter Try.func7, Try.ntmps7
  go_wp2_with fail
  refine (szGraph_ok _ _ _ _ _ _ (by omega) (by omega)).mono ?_
  rintro e w1 ⟨rfl, hb1⟩
  have hs1 : Below w.heap.size w w1 := (by go_grown : Below w.heap.size w _).trans (hb1.mono (by go_size))
  have z1 : w.heap.size ≤ w1.heap.size := hs1.size
  have HW1 := hide hs1
  have c_aG0_1 : w1.cell? ⟨w.heap.size, 0, none⟩ = some (.slice A n c) := (hb1.cell (p := ⟨w.heap.size, 0, none⟩) (by go_size)).trans (by simp [go_sem])
  have c_aG1_1 : w1.cell? ⟨w.heap.size, 1, none⟩ = some (.bool own) := (hb1.cell (p := ⟨w.heap.size, 1, none⟩) (by go_size)).trans (by simp [go_sem])
  have l_aG_1 : w.heap.size < w1.heap.size := Nat.lt_of_lt_of_le (by go_size) hb1.size
  clear  hb1 hs1
  go_wp2_with fail
  refine (toGraph_any _ _ _ (nv F) _ _ hn2 (by first | exact (HS_A.out.below HW1.out) | exact Src.alloc (HS_A.out.below HW1.out) _ | exact Src.alloc (Src.alloc (HS_A.out.below HW1.out) _) _ | exact Src.drew (HS_A.out.below HW1.out))).mono ?_
  rintro e w2 ⟨g2, rfl, lo_g2, ha2, hb2⟩
  try simp only [World.size_alloc] at lo_g2
  have hs2 : Below w1.heap.size w1 w2 := (by go_grown : Below w1.heap.size w1 _).trans (hb2.mono (by go_size))
  have z2 : w1.heap.size ≤ w2.heap.size := hs2.size
  have HW2 := hide (HW1.out.trans (hs2.mono HW1.out.size))
  have c_aG0_2 : w2.cell? ⟨w.heap.size, 0, none⟩ = some (.slice A n c) := (hs2.cell (p := ⟨w.heap.size, 0, none⟩) l_aG_1).trans c_aG0_1
  have c_aG1_2 : w2.cell? ⟨w.heap.size, 1, none⟩ = some (.bool own) := (hs2.cell (p := ⟨w.heap.size, 1, none⟩) l_aG_1).trans c_aG1_1
  have l_aG_2 : w.heap.size < w2.heap.size := Nat.lt_of_lt_of_le l_aG_1 z2
  have HA_t_2 := hide ha2
  have hi_t_2 : g2 < w2.heap.size := ha2.lt
  clear c_aG0_1 c_aG1_1 l_aG_1 ha2 hb2 hs2
  go_wp2_with fail
  refine (pressSpec_ok _ _ _ F _ _ _ _ hn16 hs hi HF.out HT.out HU.out (by first | exact HA_t_2.out | exact HA_t_2.out.alloc _ | exact (HA_t_2.out.alloc _).alloc _ | exact HA_t_2.out.drew)).mono ?_
  rintro e w3 ⟨rfl, hb3⟩
  have hs3 : Below w2.heap.size w2 w3 := (by go_grown : Below w2.heap.size w2 _).trans (hb3.mono (by go_size))
  have z3 : w2.heap.size ≤ w3.heap.size := hs3.size
  have HW3 := hide (HW2.out.trans (hs3.mono HW2.out.size))
  have c_aG0_3 : w3.cell? ⟨w.heap.size, 0, none⟩ = some (.slice A n c) := (hs3.cell (p := ⟨w.heap.size, 0, none⟩) l_aG_2).trans c_aG0_2
  have c_aG1_3 : w3.cell? ⟨w.heap.size, 1, none⟩ = some (.bool own) := (hs3.cell (p := ⟨w.heap.size, 1, none⟩) l_aG_2).trans c_aG1_2
  have l_aG_3 : w.heap.size < w3.heap.size := Nat.lt_of_lt_of_le l_aG_2 z3
  have HA_t_3 := hide (HA_t_2.out.all hs3)
  clear c_aG0_2 c_aG1_2 l_aG_2 HA_t_2 hb3 hs3
  go_wp2_with fail
  refine (toGraph_any _ _ _ (nv F) _ _ hn2 (by first | exact (HS_A.out.below HW3.out) | exact Src.alloc (HS_A.out.below HW3.out) _ | exact Src.alloc (Src.alloc (HS_A.out.below HW3.out) _) _ | exact Src.drew (HS_A.out.below HW3.out))).mono ?_
  rintro e w4 ⟨g4, rfl, lo_g4, ha4, hb4⟩
  try simp only [World.size_alloc] at lo_g4
  have hs4 : Below w3.heap.size w3 w4 := (by go_grown : Below w3.heap.size w3 _).trans (hb4.mono (by go_size))
  have z4 : w3.heap.size ≤ w4.heap.size := hs4.size
  have HW4 := hide (HW3.out.trans (hs4.mono HW3.out.size))
  have c_aG0_4 : w4.cell? ⟨w.heap.size, 0, none⟩ = some (.slice A n c) := (hs4.cell (p := ⟨w.heap.size, 0, none⟩) l_aG_3).trans c_aG0_3
  have c_aG1_4 : w4.cell? ⟨w.heap.size, 1, none⟩ = some (.bool own) := (hs4.cell (p := ⟨w.heap.size, 1, none⟩) l_aG_3).trans c_aG1_3
  have l_aG_4 : w.heap.size < w4.heap.size := Nat.lt_of_lt_of_le l_aG_3 z4
  have HA_t_4 := hide (HA_t_3.out.all hs4)
  have HA_x_4 := hide ha4
  have hi_x_4 : g4 < w4.heap.size := ha4.lt
  clear c_aG0_3 c_aG1_3 l_aG_3 HA_t_3 ha4 hb4 hs4
  go_wp2_with fail
  refine (pressImpl_ok _ _ _ F _ _ _ _ hn16 hs hi HF.out HG.out HI.out (by first | exact HA_x_4.out | exact HA_x_4.out.alloc _ | exact (HA_x_4.out.alloc _).alloc _ | exact HA_x_4.out.drew)).mono ?_
  rintro e w5 ⟨rfl, hb5⟩
  have hs5 : Below w4.heap.size w4 w5 := (by go_grown : Below w4.heap.size w4 _).trans (hb5.mono (by go_size))
  have z5 : w4.heap.size ≤ w5.heap.size := hs5.size
  have HW5 := hide (HW4.out.trans (hs5.mono HW4.out.size))
  have c_aG0_5 : w5.cell? ⟨w.heap.size, 0, none⟩ = some (.slice A n c) := (hs5.cell (p := ⟨w.heap.size, 0, none⟩) l_aG_4).trans c_aG0_4
  have c_aG1_5 : w5.cell? ⟨w.heap.size, 1, none⟩ = some (.bool own) := (hs5.cell (p := ⟨w.heap.size, 1, none⟩) l_aG_4).trans c_aG1_4
  have l_aG_5 : w.heap.size < w5.heap.size := Nat.lt_of_lt_of_le l_aG_4 z5
  have c_x0_5 : w5.cell? ⟨w4.heap.size, 0, none⟩ = some (.slice (some ⟨g4, 0, none⟩) n n) := (hb5.cell (p := ⟨w4.heap.size, 0, none⟩) (by go_size)).trans (by simp [go_sem])
  have c_x1_5 : w5.cell? ⟨w4.heap.size, 1, none⟩ = some (.bool own) := (hb5.cell (p := ⟨w4.heap.size, 1, none⟩) (by go_size)).trans (by simp [go_sem])
  have l_x_5 : w4.heap.size < w5.heap.size := Nat.lt_of_lt_of_le (by go_size) hb5.size
  have HA_t_5 := hide (HA_t_4.out.all hs5)
  have HA_x_5 := hide (HA_x_4.out.all hs5)
  clear c_aG0_4 c_aG1_4 l_aG_4 HA_t_4 HA_x_4 hb5 hs5
  go_wp2_with fail
  have KK : Hid (w5.drew.cell? ⟨w4.heap.size, 0, none⟩ = some (.slice (some ⟨g4, 0, none⟩) n n) ∧ w5.drew.cell? ⟨w4.heap.size, 1, none⟩ = some (.bool own) ∧ w5.drew.cell? ⟨w.heap.size, 0, none⟩ = some (.slice A n c) ∧ w5.drew.cell? ⟨w.heap.size, 1, none⟩ = some (.bool own)) := hide ⟨c_x0_5, c_x1_5, c_aG0_5, c_aG1_5⟩
  go_region_held3 (fun w' => w'.cell? ⟨w4.heap.size, 0, none⟩ = some (.slice (some ⟨g4, 0, none⟩) n n) ∧ w'.cell? ⟨w4.heap.size, 1, none⟩ = some (.bool own) ∧ w'.cell? ⟨w.heap.size, 0, none⟩ = some (.slice A n c) ∧ w'.cell? ⟨w.heap.size, 1, none⟩ = some (.bool own)) (first | exact KK.out | exact four_below (by assumption) KK.out | exact four_below (by assumption) (four_below (by assumption) KK.out)) (first | (go_at_call 19; refine (toGraph_any _ _ _ (nv F) _ _ hn2 (by exact Src.drew (HS_A.out.below HW5.out))).mono ?_; rintro e w6 ⟨g6, rfl, lo_g6, ha_r, hb6⟩; have HA_r := hide ha_r; clear ha_r) | (go_at_call 21; refine (eqGraph_true _ _ _ _ _ (nv F) _ _ hn2 (by exact Src.of_arr ((HA_x_5.out.drew).all hb6)) (by exact Src.of_arr HA_r.out)).mono ?_; rintro e w7 ⟨rfl, hb7⟩))
  have hbr : Below w5.heap.size w5 w7 := (Below.drew (Below.refl _ _)).trans (Below.trans hb6 (hb7.mono hb6.size))
  clear KK HA_r lo_g6 hb6 hb7
  have hb7 := hbr
  clear hbr
  have hs7 : Below w5.heap.size w5 w7 := (by go_grown : Below w5.heap.size w5 _).trans (hb7.mono (by go_size))
  have z7 : w5.heap.size ≤ w7.heap.size := hs7.size
  have HW7 := hide (HW5.out.trans (hs7.mono HW5.out.size))
  have c_aG0_7 : w7.cell? ⟨w.heap.size, 0, none⟩ = some (.slice A n c) := (hs7.cell (p := ⟨w.heap.size, 0, none⟩) l_aG_5).trans c_aG0_5
  have c_aG1_7 : w7.cell? ⟨w.heap.size, 1, none⟩ = some (.bool own) := (hs7.cell (p := ⟨w.heap.size, 1, none⟩) l_aG_5).trans c_aG1_5
  have l_aG_7 : w.heap.size < w7.heap.size := Nat.lt_of_lt_of_le l_aG_5 z7
  have c_x0_7 : w7.cell? ⟨w4.heap.size, 0, none⟩ = some (.slice (some ⟨g4, 0, none⟩) n n) := (hs7.cell (p := ⟨w4.heap.size, 0, none⟩) l_x_5).trans c_x0_5
  have c_x1_7 : w7.cell? ⟨w4.heap.size, 1, none⟩ = some (.bool own) := (hs7.cell (p := ⟨w4.heap.size, 1, none⟩) l_x_5).trans c_x1_5
  have l_x_7 : w4.heap.size < w7.heap.size := Nat.lt_of_lt_of_le l_x_5 z7
  have HA_t_7 := hide (HA_t_5.out.all hs7)
  have HA_x_7 := hide (HA_x_5.out.all hs7)
  clear c_aG0_5 c_aG1_5 l_aG_5 c_x0_5 c_x1_5 l_x_5 HA_t_5 HA_x_5 hb7 hs7
  go_wp2
  go_ret
  exact ⟨rfl, by have h := HW7.out; have hz := h.size; go_grown⟩
theorem lawPress_big (A : Option Addr) (n c : Nat) (own : Bool) (s i : Int) (w : World) (hn : n ≤ 9223372036854775807) (hbig : 1048576 < n) :
    Calls Try.prog 7 #[.agg #[.slice A n c, .bool own], .int .i64 s, .int .i64 i] w fun e w' => e = .returned (.bool true) ∧ Below w.heap.size w w' := by
  have hbig' : (1048576 : Int) < n := by omega
  go_enter Try.func7, Try.ntmps7
  go_wp2_with (go_at_call 17; refine (szGraph_big _ _ _ _ _ _ hn hbig' (by omega) (by omega)).mono ?_; rintro e w' ⟨rfl, hb⟩)
  go_ret
  exact ⟨rfl, (by go_grown : Below w.heap.size w _).trans (hb.mono (by simp))⟩

theorem lawPress (A : Option Addr) (n c : Nat) (f : Nat → Int) (own : Bool) (s i : Int) (w : World) (hn : n ≤ 9223372036854775807) (hs : Src w A n (iv f)) :
    Calls Try.prog 7 #[.agg #[.slice A n c, .bool own], .int .i64 s, .int .i64 i] w fun e w' => e = .returned (.bool true) ∧ Below w.heap.size w w' := by
  by_cases hbig : 1048576 < n
  · exact lawPress_big A n c own s i w hn hbig
  · cases hb : setB n f s && inB i 0 (n - 1)
    · exact lawPress_no A n c f own s i w (by omega) (hide hb) (hide hs)
    · simp only [setB, Bool.and_eq_true] at hb
      obtain ⟨⟨hg, hin⟩, hi⟩ := hb
      obtain ⟨F, he, h2, h16, hG⟩ := good_nat (goodB_iff.1 hg)
      have hgn := goodB_yes hG
      have hin' := hin
      have hi' := hi
      simp only [inB, decide_eq_true_eq] at hi hin
      obtain ⟨k, rfl⟩ : ∃ k : Nat, i = k := ⟨i.toNat, by omega⟩
      obtain ⟨t, rfl⟩ : ∃ t : Nat, s = t := ⟨s.toNat, by omega⟩
      have ht : t < 2 ^ n := by have := hin.2; rw [← pow_nat] at this; omega
      exact lawPress_ok A n c F own t k w (by omega) hG.n16 ht (by omega) (hide h2) (hide (by simp [setB, hgn, hin'])) (hide (by simp [butB, hgn, hi'])) (hide hgn) (hide hin') (hide (hs.nat he))
theorem lawWord_no (A : Option Addr) (n c : Nat) (f : Nat → Int) (own : Bool) (s : Int) (B : Option Addr) (m mc : Nat) (v : Nat → Int) (w : World) (hn2 : n ≤ 1048576) (hm2 : m ≤ 1048576) (HN : Hid ((setB n f s && wordB n m v) = false)) (HS_A : Hid (Src w A n (iv f))) (HS_V : Hid (Src w B m (iv v))) :
    Calls Try.prog 8 #[.agg #[.slice A n c, .bool own], .int .i64 s, .slice B m mc] w fun e w' => e = .returned (.bool true) ∧ Below w.heap.size w w' := by
  go_enter Try.func8, Try.ntmps8
  go_wp2_with fail
  refine (szGraph_ok _ _ _ _ _ _ (by omega) (by omega)).mono ?_
  rintro e w1 ⟨rfl, hb1⟩
  have hs1 : Below w.heap.size w w1 := (by go_grown : Below w.heap.size w _).trans (hb1.mono (by go_size))
  have z1 : w.heap.size ≤ w1.heap.size := hs1.size
  have HW1 := hide hs1
  have c_aG0_1 : w1.cell? ⟨w.heap.size, 0, none⟩ = some (.slice A n c) := (hb1.cell (p := ⟨w.heap.size, 0, none⟩) (by go_size)).trans (by simp [go_sem])
  have c_aG1_1 : w1.cell? ⟨w.heap.size, 1, none⟩ = some (.bool own) := (hb1.cell (p := ⟨w.heap.size, 1, none⟩) (by go_size)).trans (by simp [go_sem])
  have l_aG_1 : w.heap.size < w1.heap.size := Nat.lt_of_lt_of_le (by go_size) hb1.size
  clear  hb1 hs1
  go_wp2_with fail
  refine (toGraph_any _ _ _ f _ _ hn2 (by first | exact (HS_A.out.below HW1.out) | exact Src.alloc (HS_A.out.below HW1.out) _ | exact Src.alloc (Src.alloc (HS_A.out.below HW1.out) _) _ | exact Src.drew (HS_A.out.below HW1.out))).mono ?_
  rintro e w2 ⟨g2, rfl, lo_g2, ha2, hb2⟩
  try simp only [World.size_alloc] at lo_g2
  have hs2 : Below w1.heap.size w1 w2 := (by go_grown : Below w1.heap.size w1 _).trans (hb2.mono (by go_size))
  have z2 : w1.heap.size ≤ w2.heap.size := hs2.size
  have HW2 := hide (HW1.out.trans (hs2.mono HW1.out.size))
  have c_aG0_2 : w2.cell? ⟨w.heap.size, 0, none⟩ = some (.slice A n c) := (hs2.cell (p := ⟨w.heap.size, 0, none⟩) l_aG_1).trans c_aG0_1
  have c_aG1_2 : w2.cell? ⟨w.heap.size, 1, none⟩ = some (.bool own) := (hs2.cell (p := ⟨w.heap.size, 1, none⟩) l_aG_1).trans c_aG1_1
  have l_aG_2 : w.heap.size < w2.heap.size := Nat.lt_of_lt_of_le l_aG_1 z2
  have HA_t_2 := hide ha2
  have hi_t_2 : g2 < w2.heap.size := ha2.lt
  clear c_aG0_1 c_aG1_1 l_aG_1 ha2 hb2 hs2
  go_wp2_with fail
  refine (toIntS_new _ _ _ v _ hm2 (by first | exact (HS_V.out.below HW2.out) | exact Src.alloc (HS_V.out.below HW2.out) _ | exact Src.alloc (Src.alloc (HS_V.out.below HW2.out) _) _ | exact Src.drew (HS_V.out.below HW2.out))).mono ?_
  rintro e w3 ⟨g3, c_g3, rfl, lo_g3, ha3, hb3⟩
  try simp only [World.size_alloc] at lo_g3
  have hs3 : Below w2.heap.size w2 w3 := (by go_grown : Below w2.heap.size w2 _).trans (hb3.mono (by go_size))
  have z3 : w2.heap.size ≤ w3.heap.size := hs3.size
  have HW3 := hide (HW2.out.trans (hs3.mono HW2.out.size))
  have c_aG0_3 : w3.cell? ⟨w.heap.size, 0, none⟩ = some (.slice A n c) := (hs3.cell (p := ⟨w.heap.size, 0, none⟩) l_aG_2).trans c_aG0_2
  have c_aG1_3 : w3.cell? ⟨w.heap.size, 1, none⟩ = some (.bool own) := (hs3.cell (p := ⟨w.heap.size, 1, none⟩) l_aG_2).trans c_aG1_2
  have l_aG_3 : w.heap.size < w3.heap.size := Nat.lt_of_lt_of_le l_aG_2 z3
  have HA_t_3 := hide (HA_t_2.out.all hs3)
  have HA_u_3 := hide ha3
  have hi_u_3 : g3 < w3.heap.size := ha3.lt
  clear c_aG0_2 c_aG1_2 l_aG_2 HA_t_2 ha3 hb3 hs3
  go_wp2_with fail
  refine (wordSpec_no _ _ _ f _ _ _ _ _ v _ hn2 hm2 HN.out (by first | exact HA_t_3.out | exact HA_t_3.out.alloc _ | exact (HA_t_3.out.alloc _).alloc _ | exact HA_t_3.out.drew) (by first | exact Src.of_arr HA_u_3.out | exact Src.of_arr (HA_u_3.out.alloc _) | exact Src.of_arr ((HA_u_3.out.alloc _).alloc _) | exact Src.of_arr HA_u_3.out.drew)).mono ?_
  rintro e w4 ⟨rfl, hb4⟩
  have hs4 : Below w3.heap.size w3 w4 := (by go_grown : Below w3.heap.size w3 _).trans (hb4.mono (by go_size))
  have z4 : w3.heap.size ≤ w4.heap.size := hs4.size
  have HW4 := hide (HW3.out.trans (hs4.mono HW3.out.size))
  have c_aG0_4 : w4.cell? ⟨w.heap.size, 0, none⟩ = some (.slice A n c) := (hs4.cell (p := ⟨w.heap.size, 0, none⟩) l_aG_3).trans c_aG0_3
  have c_aG1_4 : w4.cell? ⟨w.heap.size, 1, none⟩ = some (.bool own) := (hs4.cell (p := ⟨w.heap.size, 1, none⟩) l_aG_3).trans c_aG1_3
  have l_aG_4 : w.heap.size < w4.heap.size := Nat.lt_of_lt_of_le l_aG_3 z4
  have HA_t_4 := hide (HA_t_3.out.all hs4)
  have HA_u_4 := hide (HA_u_3.out.all hs4)
  clear c_aG0_3 c_aG1_3 l_aG_3 HA_t_3 HA_u_3 hb4 hs4
  go_wp2_with fail
  refine (toGraph_any _ _ _ f _ _ hn2 (by first | exact (HS_A.out.below HW4.out) | exact Src.alloc (HS_A.out.below HW4.out) _ | exact Src.alloc (Src.alloc (HS_A.out.below HW4.out) _) _ | exact Src.drew (HS_A.out.below HW4.out))).mono ?_
  rintro e w5 ⟨g5, rfl, lo_g5, ha5, hb5⟩
  try simp only [World.size_alloc] at lo_g5
  have hs5 : Below w4.heap.size w4 w5 := (by go_grown : Below w4.heap.size w4 _).trans (hb5.mono (by go_size))
  have z5 : w4.heap.size ≤ w5.heap.size := hs5.size
  have HW5 := hide (HW4.out.trans (hs5.mono HW4.out.size))
  have c_aG0_5 : w5.cell? ⟨w.heap.size, 0, none⟩ = some (.slice A n c) := (hs5.cell (p := ⟨w.heap.size, 0, none⟩) l_aG_4).trans c_aG0_4
  have c_aG1_5 : w5.cell? ⟨w.heap.size, 1, none⟩ = some (.bool own) := (hs5.cell (p := ⟨w.heap.size, 1, none⟩) l_aG_4).trans c_aG1_4
  have l_aG_5 : w.heap.size < w5.heap.size := Nat.lt_of_lt_of_le l_aG_4 z5
  have HA_t_5 := hide (HA_t_4.out.all hs5)
  have HA_u_5 := hide (HA_u_4.out.all hs5)
  have HA_x_5 := hide ha5
  have hi_x_5 : g5 < w5.heap.size := ha5.lt
  clear c_aG0_4 c_aG1_4 l_aG_4 HA_t_4 HA_u_4 ha5 hb5 hs5
  go_wp2_with fail
  refine (toIntS_new _ _ _ v _ hm2 (by first | exact (HS_V.out.below HW5.out) | exact Src.alloc (HS_V.out.below HW5.out) _ | exact Src.alloc (Src.alloc (HS_V.out.below HW5.out) _) _ | exact Src.drew (HS_V.out.below HW5.out))).mono ?_
  rintro e w6 ⟨g6, c_g6, rfl, lo_g6, ha6, hb6⟩
  try simp only [World.size_alloc] at lo_g6
  have hs6 : Below w5.heap.size w5 w6 := (by go_grown : Below w5.heap.size w5 _).trans (hb6.mono (by go_size))
  have z6 : w5.heap.size ≤ w6.heap.size := hs6.size
  have HW6 := hide (HW5.out.trans (hs6.mono HW5.out.size))
  have c_aG0_6 : w6.cell? ⟨w.heap.size, 0, none⟩ = some (.slice A n c) := (hs6.cell (p := ⟨w.heap.size, 0, none⟩) l_aG_5).trans c_aG0_5
  have c_aG1_6 : w6.cell? ⟨w.heap.size, 1, none⟩ = some (.bool own) := (hs6.cell (p := ⟨w.heap.size, 1, none⟩) l_aG_5).trans c_aG1_5
  have l_aG_6 : w.heap.size < w6.heap.size := Nat.lt_of_lt_of_le l_aG_5 z6
  have c_x0_6 : w6.cell? ⟨w5.heap.size, 0, none⟩ = some (.slice (some ⟨g5, 0, none⟩) n n) := (hb6.cell (p := ⟨w5.heap.size, 0, none⟩) (by go_size)).trans (by simp [go_sem])
  have c_x1_6 : w6.cell? ⟨w5.heap.size, 1, none⟩ = some (.bool own) := (hb6.cell (p := ⟨w5.heap.size, 1, none⟩) (by go_size)).trans (by simp [go_sem])
  have l_x_6 : w5.heap.size < w6.heap.size := Nat.lt_of_lt_of_le (by go_size) hb6.size
  have HA_t_6 := hide (HA_t_5.out.all hs6)
  have HA_u_6 := hide (HA_u_5.out.all hs6)
  have HA_x_6 := hide (HA_x_5.out.all hs6)
  have HA_y_6 := hide ha6
  have hi_y_6 : g6 < w6.heap.size := ha6.lt
  clear c_aG0_5 c_aG1_5 l_aG_5 HA_t_5 HA_u_5 HA_x_5 ha6 hb6 hs6
  go_wp2_with fail
  refine (wordImpl_no _ _ _ f _ _ _ _ _ v _ hn2 hm2 HN.out (by first | exact HA_x_6.out | exact HA_x_6.out.alloc _ | exact (HA_x_6.out.alloc _).alloc _ | exact HA_x_6.out.drew) (by first | exact Src.of_arr HA_y_6.out | exact Src.of_arr (HA_y_6.out.alloc _) | exact Src.of_arr ((HA_y_6.out.alloc _).alloc _) | exact Src.of_arr HA_y_6.out.drew)).mono ?_
  rintro e w7 ⟨rfl, hb7⟩
  have hs7 : Below w6.heap.size w6 w7 := (by go_grown : Below w6.heap.size w6 _).trans (hb7.mono (by go_size))
  have z7 : w6.heap.size ≤ w7.heap.size := hs7.size
  have HW7 := hide (HW6.out.trans (hs7.mono HW6.out.size))
  have c_aG0_7 : w7.cell? ⟨w.heap.size, 0, none⟩ = some (.slice A n c) := (hs7.cell (p := ⟨w.heap.size, 0, none⟩) l_aG_6).trans c_aG0_6
  have c_aG1_7 : w7.cell? ⟨w.heap.size, 1, none⟩ = some (.bool own) := (hs7.cell (p := ⟨w.heap.size, 1, none⟩) l_aG_6).trans c_aG1_6
  have l_aG_7 : w.heap.size < w7.heap.size := Nat.lt_of_lt_of_le l_aG_6 z7
  have c_x0_7 : w7.cell? ⟨w5.heap.size, 0, none⟩ = some (.slice (some ⟨g5, 0, none⟩) n n) := (hs7.cell (p := ⟨w5.heap.size, 0, none⟩) l_x_6).trans c_x0_6
  have c_x1_7 : w7.cell? ⟨w5.heap.size, 1, none⟩ = some (.bool own) := (hs7.cell (p := ⟨w5.heap.size, 1, none⟩) l_x_6).trans c_x1_6
  have l_x_7 : w5.heap.size < w7.heap.size := Nat.lt_of_lt_of_le l_x_6 z7
  have HA_t_7 := hide (HA_t_6.out.all hs7)
  have HA_u_7 := hide (HA_u_6.out.all hs7)
  have HA_x_7 := hide (HA_x_6.out.all hs7)
  have HA_y_7 := hide (HA_y_6.out.all hs7)
  clear c_aG0_6 c_aG1_6 l_aG_6 c_x0_6 c_x1_6 l_x_6 HA_t_6 HA_u_6 HA_x_6 HA_y_6 hb7 hs7
  go_wp2_with fail
  have KK : Hid (w7.drew.cell? ⟨w5.heap.size, 0, none⟩ = some (.slice (some ⟨g5, 0, none⟩) n n) ∧ w7.drew.cell? ⟨w5.heap.size, 1, none⟩ = some (.bool own) ∧ w7.drew.cell? ⟨w.heap.size, 0, none⟩ = some (.slice A n c) ∧ w7.drew.cell? ⟨w.heap.size, 1, none⟩ = some (.bool own)) := hide ⟨c_x0_7, c_x1_7, c_aG0_7, c_aG1_7⟩
  go_region_held3 (fun w' => w'.cell? ⟨w5.heap.size, 0, none⟩ = some (.slice (some ⟨g5, 0, none⟩) n n) ∧ w'.cell? ⟨w5.heap.size, 1, none⟩ = some (.bool own) ∧ w'.cell? ⟨w.heap.size, 0, none⟩ = some (.slice A n c) ∧ w'.cell? ⟨w.heap.size, 1, none⟩ = some (.bool own)) (first | exact KK.out | exact four_below (by assumption) KK.out | exact four_below (by assumption) (four_below (by assumption) KK.out)) (first | (go_at_call 19; refine (toGraph_any _ _ _ f _ _ hn2 (by exact Src.drew (HS_A.out.below HW7.out))).mono ?_; rintro e w8 ⟨g8, rfl, lo_g8, ha_r, hb8⟩; have HA_r := hide ha_r; clear ha_r) | (go_at_call 21; refine (eqGraph_true _ _ _ _ _ f _ _ hn2 (by exact Src.of_arr ((HA_x_7.out.drew).all hb8)) (by exact Src.of_arr HA_r.out)).mono ?_; rintro e w9 ⟨rfl, hb9⟩))
  have hbr : Below w7.heap.size w7 w9 := (Below.drew (Below.refl _ _)).trans (Below.trans hb8 (hb9.mono hb8.size))
  clear KK HA_r lo_g8 hb8 hb9
  have hb9 := hbr
  clear hbr
  have hs9 : Below w7.heap.size w7 w9 := (by go_grown : Below w7.heap.size w7 _).trans (hb9.mono (by go_size))
  have z9 : w7.heap.size ≤ w9.heap.size := hs9.size
  have HW9 := hide (HW7.out.trans (hs9.mono HW7.out.size))
  have c_aG0_9 : w9.cell? ⟨w.heap.size, 0, none⟩ = some (.slice A n c) := (hs9.cell (p := ⟨w.heap.size, 0, none⟩) l_aG_7).trans c_aG0_7
  have c_aG1_9 : w9.cell? ⟨w.heap.size, 1, none⟩ = some (.bool own) := (hs9.cell (p := ⟨w.heap.size, 1, none⟩) l_aG_7).trans c_aG1_7
  have l_aG_9 : w.heap.size < w9.heap.size := Nat.lt_of_lt_of_le l_aG_7 z9
  have c_x0_9 : w9.cell? ⟨w5.heap.size, 0, none⟩ = some (.slice (some ⟨g5, 0, none⟩) n n) := (hs9.cell (p := ⟨w5.heap.size, 0, none⟩) l_x_7).trans c_x0_7
  have c_x1_9 : w9.cell? ⟨w5.heap.size, 1, none⟩ = some (.bool own) := (hs9.cell (p := ⟨w5.heap.size, 1, none⟩) l_x_7).trans c_x1_7
  have l_x_9 : w5.heap.size < w9.heap.size := Nat.lt_of_lt_of_le l_x_7 z9
  have HA_t_9 := hide (HA_t_7.out.all hs9)
  have HA_u_9 := hide (HA_u_7.out.all hs9)
  have HA_x_9 := hide (HA_x_7.out.all hs9)
  have HA_y_9 := hide (HA_y_7.out.all hs9)
  clear c_aG0_7 c_aG1_7 l_aG_7 c_x0_7 c_x1_7 l_x_7 HA_t_7 HA_u_7 HA_x_7 HA_y_7 hb9 hs9
  go_wp2_with fail
  refine (toIntS_new _ _ _ v _ hm2 (by first | exact (HS_V.out.below HW9.out) | exact Src.alloc (HS_V.out.below HW9.out) _ | exact Src.alloc (Src.alloc (HS_V.out.below HW9.out) _) _ | exact Src.drew (HS_V.out.below HW9.out))).mono ?_
  rintro e w10 ⟨g10, c_g10, rfl, lo_g10, ha10, hb10⟩
  try simp only [World.size_alloc] at lo_g10
  have hs10 : Below w9.heap.size w9 w10 := (by go_grown : Below w9.heap.size w9 _).trans (hb10.mono (by go_size))
  have z10 : w9.heap.size ≤ w10.heap.size := hs10.size
  have HW10 := hide (HW9.out.trans (hs10.mono HW9.out.size))
  have c_aG0_10 : w10.cell? ⟨w.heap.size, 0, none⟩ = some (.slice A n c) := (hs10.cell (p := ⟨w.heap.size, 0, none⟩) l_aG_9).trans c_aG0_9
  have c_aG1_10 : w10.cell? ⟨w.heap.size, 1, none⟩ = some (.bool own) := (hs10.cell (p := ⟨w.heap.size, 1, none⟩) l_aG_9).trans c_aG1_9
  have l_aG_10 : w.heap.size < w10.heap.size := Nat.lt_of_lt_of_le l_aG_9 z10
  have c_x0_10 : w10.cell? ⟨w5.heap.size, 0, none⟩ = some (.slice (some ⟨g5, 0, none⟩) n n) := (hs10.cell (p := ⟨w5.heap.size, 0, none⟩) l_x_9).trans c_x0_9
  have c_x1_10 : w10.cell? ⟨w5.heap.size, 1, none⟩ = some (.bool own) := (hs10.cell (p := ⟨w5.heap.size, 1, none⟩) l_x_9).trans c_x1_9
  have l_x_10 : w5.heap.size < w10.heap.size := Nat.lt_of_lt_of_le l_x_9 z10
  have HA_t_10 := hide (HA_t_9.out.all hs10)
  have HA_u_10 := hide (HA_u_9.out.all hs10)
  have HA_x_10 := hide (HA_x_9.out.all hs10)
  have HA_y_10 := hide (HA_y_9.out.all hs10)
  have HA_z_10 := hide ha10
  have hi_z_10 : g10 < w10.heap.size := ha10.lt
  clear c_aG0_9 c_aG1_9 l_aG_9 c_x0_9 c_x1_9 l_x_9 HA_t_9 HA_u_9 HA_x_9 HA_y_9 ha10 hb10 hs10
  go_wp2_with fail
  refine (eqIntS_below _ _ _ _ _ v _ hm2 (by first | exact Src.of_arr HA_y_10.out | exact Src.of_arr (HA_y_10.out.alloc _) | exact Src.of_arr ((HA_y_10.out.alloc _).alloc _) | exact Src.of_arr HA_y_10.out.drew) (by first | exact Src.of_arr HA_z_10.out | exact Src.of_arr (HA_z_10.out.alloc _) | exact Src.of_arr ((HA_z_10.out.alloc _).alloc _) | exact Src.of_arr HA_z_10.out.drew)).mono ?_
  rintro e w11 ⟨rfl, hb11⟩
  have hs11 : Below w10.heap.size w10 w11 := (by go_grown : Below w10.heap.size w10 _).trans (hb11.mono (by go_size))
  have z11 : w10.heap.size ≤ w11.heap.size := hs11.size
  have HW11 := hide (HW10.out.trans (hs11.mono HW10.out.size))
  have c_aG0_11 : w11.cell? ⟨w.heap.size, 0, none⟩ = some (.slice A n c) := (hs11.cell (p := ⟨w.heap.size, 0, none⟩) l_aG_10).trans c_aG0_10
  have c_aG1_11 : w11.cell? ⟨w.heap.size, 1, none⟩ = some (.bool own) := (hs11.cell (p := ⟨w.heap.size, 1, none⟩) l_aG_10).trans c_aG1_10
  have l_aG_11 : w.heap.size < w11.heap.size := Nat.lt_of_lt_of_le l_aG_10 z11
  have c_x0_11 : w11.cell? ⟨w5.heap.size, 0, none⟩ = some (.slice (some ⟨g5, 0, none⟩) n n) := (hs11.cell (p := ⟨w5.heap.size, 0, none⟩) l_x_10).trans c_x0_10
  have c_x1_11 : w11.cell? ⟨w5.heap.size, 1, none⟩ = some (.bool own) := (hs11.cell (p := ⟨w5.heap.size, 1, none⟩) l_x_10).trans c_x1_10
  have l_x_11 : w5.heap.size < w11.heap.size := Nat.lt_of_lt_of_le l_x_10 z11
  have HA_t_11 := hide (HA_t_10.out.all hs11)
  have HA_u_11 := hide (HA_u_10.out.all hs11)
  have HA_x_11 := hide (HA_x_10.out.all hs11)
  have HA_y_11 := hide (HA_y_10.out.all hs11)
  have HA_z_11 := hide (HA_z_10.out.all hs11)
  clear c_aG0_10 c_aG1_10 l_aG_10 c_x0_10 c_x1_10 l_x_10 HA_t_10 HA_u_10 HA_x_10 HA_y_10 HA_z_10 hb11 hs11
  go_wp2
  go_ret
  exact ⟨rfl, by have h := HW11.out; have hz := h.size; go_grown⟩
theorem lawWord_ok (A : Option Addr) (n c : Nat) (F : Nat → Nat) (own : Bool) (s : Nat) (B : Option Addr) (m mc : Nat) (V : Nat → Nat) (w : World) (hn2 : n ≤ 1048576) (hm2 : m ≤ 1048576) (hn16 : n ≤ 16) (hm200 : m ≤ 200) (hs : s < 2 ^ n) (HF : Hid (∀ j, j < n → F j < 2 ^ n)) (HV : Hid (∀ j, j < m → V j < n)) (HT : Hid (setB n (nv F) s = true)) (HL : Hid (allB m (nv V) 0 (n - 1) = true)) (HG : Hid (goodB n (nv F) = true)) (HI : Hid (inB s 0 (2 ^ n - 1) = true)) (HW : Hid (wordB n m (nv V) = true)) (HS_A : Hid (Src w A n (iv (nv F)))) (HS_V : Hid (Src w B m (iv (nv V)))) :
    Calls Try.prog 8 #[.agg #[.slice A n c, .bool own], .int .i64 s, .slice B m mc] w fun e w' => e = .returned (.bool true) ∧ Below w.heap.size w w' := by
  go_enter Try.func8, Try.ntmps8
  go_wp2_with fail
  refine (szGraph_ok _ _ _ _ _ _ (by omega) (by omega)).mono ?_
  rintro e w1 ⟨rfl, hb1⟩
  have hs1 : Below w.heap.size w w1 := (by go_grown : Below w.heap.size w _).trans (hb1.mono (by go_size))
  have z1 : w.heap.size ≤ w1.heap.size := hs1.size
  have HW1 := hide hs1
  have c_aG0_1 : w1.cell? ⟨w.heap.size, 0, none⟩ = some (.slice A n c) := (hb1.cell (p := ⟨w.heap.size, 0, none⟩) (by go_size)).trans (by simp [go_sem])
  have c_aG1_1 : w1.cell? ⟨w.heap.size, 1, none⟩ = some (.bool own) := (hb1.cell (p := ⟨w.heap.size, 1, none⟩) (by go_size)).trans (by simp [go_sem])
  have l_aG_1 : w.heap.size < w1.heap.size := Nat.lt_of_lt_of_le (by go_size) hb1.size
  clear  hb1 hs1
  go_wp2_with fail
  refine (toGraph_any _ _ _ (nv F) _ _ hn2 (by first | exact (HS_A.out.below HW1.out) | exact Src.alloc (HS_A.out.below HW1.out) _ | exact Src.alloc (Src.alloc (HS_A.out.below HW1.out) _) _ | exact Src.drew (HS_A.out.below HW1.out))).mono ?_
  rintro e w2 ⟨g2, rfl, lo_g2, ha2, hb2⟩
  try simp only [World.size_alloc] at lo_g2
  have hs2 : Below w1.heap.size w1 w2 := (by go_grown : Below w1.heap.size w1 _).trans (hb2.mono (by go_size))
  have z2 : w1.heap.size ≤ w2.heap.size := hs2.size
  have HW2 := hide (HW1.out.trans (hs2.mono HW1.out.size))
  have c_aG0_2 : w2.cell? ⟨w.heap.size, 0, none⟩ = some (.slice A n c) := (hs2.cell (p := ⟨w.heap.size, 0, none⟩) l_aG_1).trans c_aG0_1
  have c_aG1_2 : w2.cell? ⟨w.heap.size, 1, none⟩ = some (.bool own) := (hs2.cell (p := ⟨w.heap.size, 1, none⟩) l_aG_1).trans c_aG1_1
  have l_aG_2 : w.heap.size < w2.heap.size := Nat.lt_of_lt_of_le l_aG_1 z2
  have HA_t_2 := hide ha2
  have hi_t_2 : g2 < w2.heap.size := ha2.lt
  clear c_aG0_1 c_aG1_1 l_aG_1 ha2 hb2 hs2
  go_wp2_with fail
  refine (toIntS_new _ _ _ (nv V) _ hm2 (by first | exact (HS_V.out.below HW2.out) | exact Src.alloc (HS_V.out.below HW2.out) _ | exact Src.alloc (Src.alloc (HS_V.out.below HW2.out) _) _ | exact Src.drew (HS_V.out.below HW2.out))).mono ?_
  rintro e w3 ⟨g3, c_g3, rfl, lo_g3, ha3, hb3⟩
  try simp only [World.size_alloc] at lo_g3
  have hs3 : Below w2.heap.size w2 w3 := (by go_grown : Below w2.heap.size w2 _).trans (hb3.mono (by go_size))
  have z3 : w2.heap.size ≤ w3.heap.size := hs3.size
  have HW3 := hide (HW2.out.trans (hs3.mono HW2.out.size))
  have c_aG0_3 : w3.cell? ⟨w.heap.size, 0, none⟩ = some (.slice A n c) := (hs3.cell (p := ⟨w.heap.size, 0, none⟩) l_aG_2).trans c_aG0_2
  have c_aG1_3 : w3.cell? ⟨w.heap.size, 1, none⟩ = some (.bool own) := (hs3.cell (p := ⟨w.heap.size, 1, none⟩) l_aG_2).trans c_aG1_2
  have l_aG_3 : w.heap.size < w3.heap.size := Nat.lt_of_lt_of_le l_aG_2 z3
  have HA_t_3 := hide (HA_t_2.out.all hs3)
  have HA_u_3 := hide ha3
  have hi_u_3 : g3 < w3.heap.size := ha3.lt
  clear c_aG0_2 c_aG1_2 l_aG_2 HA_t_2 ha3 hb3 hs3
  go_wp2_with fail
  refine (wordSpec_ok _ _ _ F _ _ _ _ _ V _ hn16 hm200 hs HF.out HV.out HT.out HL.out (by first | exact HA_t_3.out | exact HA_t_3.out.alloc _ | exact (HA_t_3.out.alloc _).alloc _ | exact HA_t_3.out.drew) (by first | exact Src.of_arr HA_u_3.out | exact Src.of_arr (HA_u_3.out.alloc _) | exact Src.of_arr ((HA_u_3.out.alloc _).alloc _) | exact Src.of_arr HA_u_3.out.drew)).mono ?_
  rintro e w4 ⟨rfl, hb4⟩
  have hs4 : Below w3.heap.size w3 w4 := (by go_grown : Below w3.heap.size w3 _).trans (hb4.mono (by go_size))
  have z4 : w3.heap.size ≤ w4.heap.size := hs4.size
  have HW4 := hide (HW3.out.trans (hs4.mono HW3.out.size))
  have c_aG0_4 : w4.cell? ⟨w.heap.size, 0, none⟩ = some (.slice A n c) := (hs4.cell (p := ⟨w.heap.size, 0, none⟩) l_aG_3).trans c_aG0_3
  have c_aG1_4 : w4.cell? ⟨w.heap.size, 1, none⟩ = some (.bool own) := (hs4.cell (p := ⟨w.heap.size, 1, none⟩) l_aG_3).trans c_aG1_3
  have l_aG_4 : w.heap.size < w4.heap.size := Nat.lt_of_lt_of_le l_aG_3 z4
  have HA_t_4 := hide (HA_t_3.out.all hs4)
  have HA_u_4 := hide (HA_u_3.out.all hs4)
  clear c_aG0_3 c_aG1_3 l_aG_3 HA_t_3 HA_u_3 hb4 hs4
  go_wp2_with fail
  refine (toGraph_any _ _ _ (nv F) _ _ hn2 (by first | exact (HS_A.out.below HW4.out) | exact Src.alloc (HS_A.out.below HW4.out) _ | exact Src.alloc (Src.alloc (HS_A.out.below HW4.out) _) _ | exact Src.drew (HS_A.out.below HW4.out))).mono ?_
  rintro e w5 ⟨g5, rfl, lo_g5, ha5, hb5⟩
  try simp only [World.size_alloc] at lo_g5
  have hs5 : Below w4.heap.size w4 w5 := (by go_grown : Below w4.heap.size w4 _).trans (hb5.mono (by go_size))
  have z5 : w4.heap.size ≤ w5.heap.size := hs5.size
  have HW5 := hide (HW4.out.trans (hs5.mono HW4.out.size))
  have c_aG0_5 : w5.cell? ⟨w.heap.size, 0, none⟩ = some (.slice A n c) := (hs5.cell (p := ⟨w.heap.size, 0, none⟩) l_aG_4).trans c_aG0_4
  have c_aG1_5 : w5.cell? ⟨w.heap.size, 1, none⟩ = some (.bool own) := (hs5.cell (p := ⟨w.heap.size, 1, none⟩) l_aG_4).trans c_aG1_4
  have l_aG_5 : w.heap.size < w5.heap.size := Nat.lt_of_lt_of_le l_aG_4 z5
  have HA_t_5 := hide (HA_t_4.out.all hs5)
  have HA_u_5 := hide (HA_u_4.out.all hs5)
  have HA_x_5 := hide ha5
  have hi_x_5 : g5 < w5.heap.size := ha5.lt
  clear c_aG0_4 c_aG1_4 l_aG_4 HA_t_4 HA_u_4 ha5 hb5 hs5
  go_wp2_with fail
  refine (toIntS_new _ _ _ (nv V) _ hm2 (by first | exact (HS_V.out.below HW5.out) | exact Src.alloc (HS_V.out.below HW5.out) _ | exact Src.alloc (Src.alloc (HS_V.out.below HW5.out) _) _ | exact Src.drew (HS_V.out.below HW5.out))).mono ?_
  rintro e w6 ⟨g6, c_g6, rfl, lo_g6, ha6, hb6⟩
  try simp only [World.size_alloc] at lo_g6
  have hs6 : Below w5.heap.size w5 w6 := (by go_grown : Below w5.heap.size w5 _).trans (hb6.mono (by go_size))
  have z6 : w5.heap.size ≤ w6.heap.size := hs6.size
  have HW6 := hide (HW5.out.trans (hs6.mono HW5.out.size))
  have c_aG0_6 : w6.cell? ⟨w.heap.size, 0, none⟩ = some (.slice A n c) := (hs6.cell (p := ⟨w.heap.size, 0, none⟩) l_aG_5).trans c_aG0_5
  have c_aG1_6 : w6.cell? ⟨w.heap.size, 1, none⟩ = some (.bool own) := (hs6.cell (p := ⟨w.heap.size, 1, none⟩) l_aG_5).trans c_aG1_5
  have l_aG_6 : w.heap.size < w6.heap.size := Nat.lt_of_lt_of_le l_aG_5 z6
  have c_x0_6 : w6.cell? ⟨w5.heap.size, 0, none⟩ = some (.slice (some ⟨g5, 0, none⟩) n n) := (hb6.cell (p := ⟨w5.heap.size, 0, none⟩) (by go_size)).trans (by simp [go_sem])
  have c_x1_6 : w6.cell? ⟨w5.heap.size, 1, none⟩ = some (.bool own) := (hb6.cell (p := ⟨w5.heap.size, 1, none⟩) (by go_size)).trans (by simp [go_sem])
  have l_x_6 : w5.heap.size < w6.heap.size := Nat.lt_of_lt_of_le (by go_size) hb6.size
  have HA_t_6 := hide (HA_t_5.out.all hs6)
  have HA_u_6 := hide (HA_u_5.out.all hs6)
  have HA_x_6 := hide (HA_x_5.out.all hs6)
  have HA_y_6 := hide ha6
  have hi_y_6 : g6 < w6.heap.size := ha6.lt
  clear c_aG0_5 c_aG1_5 l_aG_5 HA_t_5 HA_u_5 HA_x_5 ha6 hb6 hs6
  go_wp2_with fail
  refine (wordImpl_ok _ _ _ F _ _ _ _ _ V _ hn16 hm200 hs HF.out HV.out HG.out HI.out HW.out (by first | exact HA_x_6.out | exact HA_x_6.out.alloc _ | exact (HA_x_6.out.alloc _).alloc _ | exact HA_x_6.out.drew) (by first | exact Src.of_arr HA_y_6.out | exact Src.of_arr (HA_y_6.out.alloc _) | exact Src.of_arr ((HA_y_6.out.alloc _).alloc _) | exact Src.of_arr HA_y_6.out.drew)).mono ?_
  rintro e w7 ⟨rfl, hb7⟩
  have hs7 : Below w6.heap.size w6 w7 := (by go_grown : Below w6.heap.size w6 _).trans (hb7.mono (by go_size))
  have z7 : w6.heap.size ≤ w7.heap.size := hs7.size
  have HW7 := hide (HW6.out.trans (hs7.mono HW6.out.size))
  have c_aG0_7 : w7.cell? ⟨w.heap.size, 0, none⟩ = some (.slice A n c) := (hs7.cell (p := ⟨w.heap.size, 0, none⟩) l_aG_6).trans c_aG0_6
  have c_aG1_7 : w7.cell? ⟨w.heap.size, 1, none⟩ = some (.bool own) := (hs7.cell (p := ⟨w.heap.size, 1, none⟩) l_aG_6).trans c_aG1_6
  have l_aG_7 : w.heap.size < w7.heap.size := Nat.lt_of_lt_of_le l_aG_6 z7
  have c_x0_7 : w7.cell? ⟨w5.heap.size, 0, none⟩ = some (.slice (some ⟨g5, 0, none⟩) n n) := (hs7.cell (p := ⟨w5.heap.size, 0, none⟩) l_x_6).trans c_x0_6
  have c_x1_7 : w7.cell? ⟨w5.heap.size, 1, none⟩ = some (.bool own) := (hs7.cell (p := ⟨w5.heap.size, 1, none⟩) l_x_6).trans c_x1_6
  have l_x_7 : w5.heap.size < w7.heap.size := Nat.lt_of_lt_of_le l_x_6 z7
  have HA_t_7 := hide (HA_t_6.out.all hs7)
  have HA_u_7 := hide (HA_u_6.out.all hs7)
  have HA_x_7 := hide (HA_x_6.out.all hs7)
  have HA_y_7 := hide (HA_y_6.out.all hs7)
  clear c_aG0_6 c_aG1_6 l_aG_6 c_x0_6 c_x1_6 l_x_6 HA_t_6 HA_u_6 HA_x_6 HA_y_6 hb7 hs7
  go_wp2_with fail
  have KK : Hid (w7.drew.cell? ⟨w5.heap.size, 0, none⟩ = some (.slice (some ⟨g5, 0, none⟩) n n) ∧ w7.drew.cell? ⟨w5.heap.size, 1, none⟩ = some (.bool own) ∧ w7.drew.cell? ⟨w.heap.size, 0, none⟩ = some (.slice A n c) ∧ w7.drew.cell? ⟨w.heap.size, 1, none⟩ = some (.bool own)) := hide ⟨c_x0_7, c_x1_7, c_aG0_7, c_aG1_7⟩
  go_region_held3 (fun w' => w'.cell? ⟨w5.heap.size, 0, none⟩ = some (.slice (some ⟨g5, 0, none⟩) n n) ∧ w'.cell? ⟨w5.heap.size, 1, none⟩ = some (.bool own) ∧ w'.cell? ⟨w.heap.size, 0, none⟩ = some (.slice A n c) ∧ w'.cell? ⟨w.heap.size, 1, none⟩ = some (.bool own)) (first | exact KK.out | exact four_below (by assumption) KK.out | exact four_below (by assumption) (four_below (by assumption) KK.out)) (first | (go_at_call 19; refine (toGraph_any _ _ _ (nv F) _ _ hn2 (by exact Src.drew (HS_A.out.below HW7.out))).mono ?_; rintro e w8 ⟨g8, rfl, lo_g8, ha_r, hb8⟩; have HA_r := hide ha_r; clear ha_r) | (go_at_call 21; refine (eqGraph_true _ _ _ _ _ (nv F) _ _ hn2 (by exact Src.of_arr ((HA_x_7.out.drew).all hb8)) (by exact Src.of_arr HA_r.out)).mono ?_; rintro e w9 ⟨rfl, hb9⟩))
  have hbr : Below w7.heap.size w7 w9 := (Below.drew (Below.refl _ _)).trans (Below.trans hb8 (hb9.mono hb8.size))
  clear KK HA_r lo_g8 hb8 hb9
  have hb9 := hbr
  clear hbr
  have hs9 : Below w7.heap.size w7 w9 := (by go_grown : Below w7.heap.size w7 _).trans (hb9.mono (by go_size))
  have z9 : w7.heap.size ≤ w9.heap.size := hs9.size
  have HW9 := hide (HW7.out.trans (hs9.mono HW7.out.size))
  have c_aG0_9 : w9.cell? ⟨w.heap.size, 0, none⟩ = some (.slice A n c) := (hs9.cell (p := ⟨w.heap.size, 0, none⟩) l_aG_7).trans c_aG0_7
  have c_aG1_9 : w9.cell? ⟨w.heap.size, 1, none⟩ = some (.bool own) := (hs9.cell (p := ⟨w.heap.size, 1, none⟩) l_aG_7).trans c_aG1_7
  have l_aG_9 : w.heap.size < w9.heap.size := Nat.lt_of_lt_of_le l_aG_7 z9
  have c_x0_9 : w9.cell? ⟨w5.heap.size, 0, none⟩ = some (.slice (some ⟨g5, 0, none⟩) n n) := (hs9.cell (p := ⟨w5.heap.size, 0, none⟩) l_x_7).trans c_x0_7
  have c_x1_9 : w9.cell? ⟨w5.heap.size, 1, none⟩ = some (.bool own) := (hs9.cell (p := ⟨w5.heap.size, 1, none⟩) l_x_7).trans c_x1_7
  have l_x_9 : w5.heap.size < w9.heap.size := Nat.lt_of_lt_of_le l_x_7 z9
  have HA_t_9 := hide (HA_t_7.out.all hs9)
  have HA_u_9 := hide (HA_u_7.out.all hs9)
  have HA_x_9 := hide (HA_x_7.out.all hs9)
  have HA_y_9 := hide (HA_y_7.out.all hs9)
  clear c_aG0_7 c_aG1_7 l_aG_7 c_x0_7 c_x1_7 l_x_7 HA_t_7 HA_u_7 HA_x_7 HA_y_7 hb9 hs9
  go_wp2_with fail
  refine (toIntS_new _ _ _ (nv V) _ hm2 (by first | exact (HS_V.out.below HW9.out) | exact Src.alloc (HS_V.out.below HW9.out) _ | exact Src.alloc (Src.alloc (HS_V.out.below HW9.out) _) _ | exact Src.drew (HS_V.out.below HW9.out))).mono ?_
  rintro e w10 ⟨g10, c_g10, rfl, lo_g10, ha10, hb10⟩
  try simp only [World.size_alloc] at lo_g10
  have hs10 : Below w9.heap.size w9 w10 := (by go_grown : Below w9.heap.size w9 _).trans (hb10.mono (by go_size))
  have z10 : w9.heap.size ≤ w10.heap.size := hs10.size
  have HW10 := hide (HW9.out.trans (hs10.mono HW9.out.size))
  have c_aG0_10 : w10.cell? ⟨w.heap.size, 0, none⟩ = some (.slice A n c) := (hs10.cell (p := ⟨w.heap.size, 0, none⟩) l_aG_9).trans c_aG0_9
  have c_aG1_10 : w10.cell? ⟨w.heap.size, 1, none⟩ = some (.bool own) := (hs10.cell (p := ⟨w.heap.size, 1, none⟩) l_aG_9).trans c_aG1_9
  have l_aG_10 : w.heap.size < w10.heap.size := Nat.lt_of_lt_of_le l_aG_9 z10
  have c_x0_10 : w10.cell? ⟨w5.heap.size, 0, none⟩ = some (.slice (some ⟨g5, 0, none⟩) n n) := (hs10.cell (p := ⟨w5.heap.size, 0, none⟩) l_x_9).trans c_x0_9
  have c_x1_10 : w10.cell? ⟨w5.heap.size, 1, none⟩ = some (.bool own) := (hs10.cell (p := ⟨w5.heap.size, 1, none⟩) l_x_9).trans c_x1_9
  have l_x_10 : w5.heap.size < w10.heap.size := Nat.lt_of_lt_of_le l_x_9 z10
  have HA_t_10 := hide (HA_t_9.out.all hs10)
  have HA_u_10 := hide (HA_u_9.out.all hs10)
  have HA_x_10 := hide (HA_x_9.out.all hs10)
  have HA_y_10 := hide (HA_y_9.out.all hs10)
  have HA_z_10 := hide ha10
  have hi_z_10 : g10 < w10.heap.size := ha10.lt
  clear c_aG0_9 c_aG1_9 l_aG_9 c_x0_9 c_x1_9 l_x_9 HA_t_9 HA_u_9 HA_x_9 HA_y_9 ha10 hb10 hs10
  go_wp2_with fail
  refine (eqIntS_below _ _ _ _ _ (nv V) _ hm2 (by first | exact Src.of_arr HA_y_10.out | exact Src.of_arr (HA_y_10.out.alloc _) | exact Src.of_arr ((HA_y_10.out.alloc _).alloc _) | exact Src.of_arr HA_y_10.out.drew) (by first | exact Src.of_arr HA_z_10.out | exact Src.of_arr (HA_z_10.out.alloc _) | exact Src.of_arr ((HA_z_10.out.alloc _).alloc _) | exact Src.of_arr HA_z_10.out.drew)).mono ?_
  rintro e w11 ⟨rfl, hb11⟩
  have hs11 : Below w10.heap.size w10 w11 := (by go_grown : Below w10.heap.size w10 _).trans (hb11.mono (by go_size))
  have z11 : w10.heap.size ≤ w11.heap.size := hs11.size
  have HW11 := hide (HW10.out.trans (hs11.mono HW10.out.size))
  have c_aG0_11 : w11.cell? ⟨w.heap.size, 0, none⟩ = some (.slice A n c) := (hs11.cell (p := ⟨w.heap.size, 0, none⟩) l_aG_10).trans c_aG0_10
  have c_aG1_11 : w11.cell? ⟨w.heap.size, 1, none⟩ = some (.bool own) := (hs11.cell (p := ⟨w.heap.size, 1, none⟩) l_aG_10).trans c_aG1_10
  have l_aG_11 : w.heap.size < w11.heap.size := Nat.lt_of_lt_of_le l_aG_10 z11
  have c_x0_11 : w11.cell? ⟨w5.heap.size, 0, none⟩ = some (.slice (some ⟨g5, 0, none⟩) n n) := (hs11.cell (p := ⟨w5.heap.size, 0, none⟩) l_x_10).trans c_x0_10
  have c_x1_11 : w11.cell? ⟨w5.heap.size, 1, none⟩ = some (.bool own) := (hs11.cell (p := ⟨w5.heap.size, 1, none⟩) l_x_10).trans c_x1_10
  have l_x_11 : w5.heap.size < w11.heap.size := Nat.lt_of_lt_of_le l_x_10 z11
  have HA_t_11 := hide (HA_t_10.out.all hs11)
  have HA_u_11 := hide (HA_u_10.out.all hs11)
  have HA_x_11 := hide (HA_x_10.out.all hs11)
  have HA_y_11 := hide (HA_y_10.out.all hs11)
  have HA_z_11 := hide (HA_z_10.out.all hs11)
  clear c_aG0_10 c_aG1_10 l_aG_10 c_x0_10 c_x1_10 l_x_10 HA_t_10 HA_u_10 HA_x_10 HA_y_10 HA_z_10 hb11 hs11
  go_wp2
  go_ret
  exact ⟨rfl, by have h := HW11.out; have hz := h.size; go_grown⟩
theorem lawWord_bigm (A : Option Addr) (n c : Nat) (own : Bool) (s : Int) (B : Option Addr) (m mc : Nat) (w : World) (hm : m ≤ 9223372036854775807) (hbig : 1048576 < m) :
    Calls Try.prog 8 #[.agg #[.slice A n c, .bool own], .int .i64 s, .slice B m mc] w fun e w' => e = .returned (.bool true) ∧ Below w.heap.size w w' := by
  have hbig' : (1048576 : Int) < m := by omega
  go_enter Try.func8, Try.ntmps8
  go_wp2
  go_ret
  exact ⟨rfl, by go_grown⟩
theorem lawWord_bign (A : Option Addr) (n c : Nat) (own : Bool) (s : Int) (B : Option Addr) (m mc : Nat) (w : World) (hm : m ≤ 1048576) (hn : n ≤ 9223372036854775807) (hbig : 1048576 < n) :
    Calls Try.prog 8 #[.agg #[.slice A n c, .bool own], .int .i64 s, .slice B m mc] w fun e w' => e = .returned (.bool true) ∧ Below w.heap.size w w' := by
  have hbig' : (1048576 : Int) < n := by omega
  go_enter Try.func8, Try.ntmps8
  go_wp2_with (go_at_call 17; refine (szGraph_big _ _ _ _ _ _ hn hbig' (by omega) (by omega)).mono ?_; rintro e w' ⟨rfl, hb⟩)
  go_ret
  exact ⟨rfl, (by go_grown : Below w.heap.size w _).trans (hb.mono (by simp))⟩
theorem lawWord (A : Option Addr) (n c : Nat) (f : Nat → Int) (own : Bool) (s : Int) (B : Option Addr) (m mc : Nat) (v : Nat → Int) (w : World) (hn : n ≤ 9223372036854775807) (hs : Src w A n (iv f)) (hm : m ≤ 9223372036854775807) (hv : Src w B m (iv v)) :
    Calls Try.prog 8 #[.agg #[.slice A n c, .bool own], .int .i64 s, .slice B m mc] w fun e w' => e = .returned (.bool true) ∧ Below w.heap.size w w' := by
  by_cases hbm : 1048576 < m
  · exact lawWord_bigm A n c own s B m mc w hm hbm
  · by_cases hbig : 1048576 < n
    · exact lawWord_bign A n c own s B m mc w (by omega) hn hbig
    · cases hb : setB n f s && wordB n m v
      · exact lawWord_no A n c f own s B m mc v w (by omega) (by omega) (hide hb) (hide hs) (hide hv)
      · have hw := hb
        simp only [setB, wordB, Bool.and_eq_true, decide_eq_true_eq] at hb
        obtain ⟨⟨hg, hin⟩, hm2, hall⟩ := hb
        obtain ⟨F, he, h2, h16, hG⟩ := good_nat (goodB_iff.1 hg)
        have hgn := goodB_yes hG
        have hin' := hin
        simp only [inB, decide_eq_true_eq] at hin
        simp only [allB, decide_eq_true_eq] at hall
        obtain ⟨t, rfl⟩ : ∃ t : Nat, s = t := ⟨s.toNat, by omega⟩
        have ht : t < 2 ^ n := by have := hin.2; rw [← pow_nat] at this; omega
        have hve : ∀ k, k < m → v k = nv (fun k => (v k).toNat) k := fun k hk => by have := hall k hk; simp only [nv]; omega
        have hvn : ∀ k, k < m → (v k).toNat < n := fun k hk => by have := hall k hk; omega
        have hall' : allB m (nv (fun k => (v k).toNat)) 0 (n - 1) = true := by
          simp only [allB, decide_eq_true_eq]
          intro k hk
          rw [← hve k hk]; exact hall k hk
        exact lawWord_ok A n c F own t B m mc (fun k => (v k).toNat) w (by omega) (by omega) hG.n16 hm2 ht (hide h2) (hide hvn) (hide (by simp [setB, hgn, hin'])) (hide hall') (hide hgn) (hide hin') (hide (by simp [wordB, hm2, hall'])) (hide (hs.nat he)) (hide (hv.nat hve))
end Go.Proofs.Ytmlklmdenhhjnaa
