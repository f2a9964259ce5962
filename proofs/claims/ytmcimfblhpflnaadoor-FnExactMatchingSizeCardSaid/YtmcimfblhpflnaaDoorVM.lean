import Derived.Test.YtmcimfblhpflnaaDoorVL
import Derived.Test.YtmcimfblhpflnaaDoorH
import Derived.Test.YtmcimfblhpflnaaDoorZB
import Derived.Deep.RegionHeld3
namespace Go.Proofs.YtmcimfblhpflnaaDoor
open Go.RowKit
set_option maxHeartbeats 4000000
theorem Tab.more {w : World} (o : Obj) (h : Tab w) : Tab (w.alloc o) := h.below ((Below.refl _ _).alloc (Nat.le_refl _) _)
theorem lawMatchingSize_no (A : Option Addr) (n c : Nat) (f : Nat → Int) (own : Bool) (w : World) (hn2 : n ≤ 1048576) (HG : Hid (goodB n f = false)) (HT : Hid (Tab w)) (hw1 : 1 < w.heap.size) (HS_A : Hid (Src w A n (iv f))) :
    Calls Tryd.prog 9 #[.agg #[.slice A n c, .bool own]] w fun e w' => e = .returned (.bool true) ∧ Below w.heap.size w w' := by
  go_enter Tryd.func9, Tryd.ntmps9
  go_wp2_with fail
  refine (szGraph_ok _ _ _ _ _ _ (by omega) (by omega)).mono ?_
  rintro e w1 ⟨rfl, hb1⟩
  have hs1 : Below w.heap.size w w1 := (by go_grown : Below w.heap.size w _).trans (hb1.mono (by go_size))
  have z1 : w.heap.size ≤ w1.heap.size := hs1.size
  have HW1 := hide hs1
  have c_aG0_1 : w1.cell? ⟨w.heap.size, 0, none⟩ = some (.slice A n c) := (hb1.cell (p := ⟨w.heap.size, 0, none⟩) (by go_size)).trans (by simp [go_sem])
  have c_aG1_1 : w1.cell? ⟨w.heap.size, 1, none⟩ = some (.bool own) := (hb1.cell (p := ⟨w.heap.size, 1, none⟩) (by go_size)).trans (by simp [go_sem])
  have l_aG_1 : w.heap.size < w1.heap.size := Nat.lt_of_lt_of_le (by go_size) hb1.size
  clear  hb1 hs1
  go_wp2_with fail
  refine (toGraph_any _ _ _ f _ _ hn2 (by first | exact (HS_A.out.below HW1.out) | exact Src.alloc (HS_A.out.below HW1.out) _ | exact Src.alloc (Src.alloc (HS_A.out.below HW1.out) _) _ | exact Src.drew (HS_A.out.below HW1.out))).mono ?_
  rintro e w2 ⟨g2, rfl, lo_g2, ha2, hb2⟩
  try simp only [World.size_alloc] at lo_g2
  have hs2 : Below w1.heap.size w1 w2 := (by go_grown : Below w1.heap.size w1 _).trans (hb2.mono (by go_size))
  have z2 : w1.heap.size ≤ w2.heap.size := hs2.size
  have HW2 := hide (HW1.out.trans (hs2.mono HW1.out.size))
  have c_aG0_2 : w2.cell? ⟨w.heap.size, 0, none⟩ = some (.slice A n c) := (hs2.cell (p := ⟨w.heap.size, 0, none⟩) l_aG_1).trans c_aG0_1
  have c_aG1_2 : w2.cell? ⟨w.heap.size, 1, none⟩ = some (.bool own) := (hs2.cell (p := ⟨w.heap.size, 1, none⟩) l_aG_1).trans c_aG1_1
  have l_aG_2 : w.heap.size < w2.heap.size := Nat.lt_of_lt_of_le l_aG_1 z2
  have HA_t_2 := hide ha2
  have hi_t_2 : g2 < w2.heap.size := ha2.lt
  clear c_aG0_1 c_aG1_1 l_aG_1 ha2 hb2 hs2
  go_wp2_with fail
  refine (mszSpec_no _ _ _ f own _ hn2 HG.out (by first | exact HA_t_2.out | exact HA_t_2.out.alloc _ | exact (HA_t_2.out.alloc _).alloc _ | exact HA_t_2.out.drew)).mono ?_
  rintro e w3 ⟨rfl, hb3⟩
  have hs3 : Below w2.heap.size w2 w3 := (by go_grown : Below w2.heap.size w2 _).trans (hb3.mono (by go_size))
  have z3 : w2.heap.size ≤ w3.heap.size := hs3.size
  have HW3 := hide (HW2.out.trans (hs3.mono HW2.out.size))
  have c_aG0_3 : w3.cell? ⟨w.heap.size, 0, none⟩ = some (.slice A n c) := (hs3.cell (p := ⟨w.heap.size, 0, none⟩) l_aG_2).trans c_aG0_2
  have c_aG1_3 : w3.cell? ⟨w.heap.size, 1, none⟩ = some (.bool own) := (hs3.cell (p := ⟨w.heap.size, 1, none⟩) l_aG_2).trans c_aG1_2
  have l_aG_3 : w.heap.size < w3.heap.size := Nat.lt_of_lt_of_le l_aG_2 z3
  have HA_t_3 := hide (HA_t_2.out.all hs3)
  clear c_aG0_2 c_aG1_2 l_aG_2 HA_t_2 hb3 hs3
  go_wp2_with fail
  refine (toGraph_any _ _ _ f _ _ hn2 (by first | exact (HS_A.out.below HW3.out) | exact Src.alloc (HS_A.out.below HW3.out) _ | exact Src.alloc (Src.alloc (HS_A.out.below HW3.out) _) _ | exact Src.drew (HS_A.out.below HW3.out))).mono ?_
  rintro e w4 ⟨g4, rfl, lo_g4, ha4, hb4⟩
  try simp only [World.size_alloc] at lo_g4
  have hs4 : Below w3.heap.size w3 w4 := (by go_grown : Below w3.heap.size w3 _).trans (hb4.mono (by go_size))
  have z4 : w3.heap.size ≤ w4.heap.size := hs4.size
  have HW4 := hide (HW3.out.trans (hs4.mono HW3.out.size))
  have c_aG0_4 : w4.cell? ⟨w.heap.size, 0, none⟩ = some (.slice A n c) := (hs4.cell (p := ⟨w.heap.size, 0, none⟩) l_aG_3).trans c_aG0_3
  have c_aG1_4 : w4.cell? ⟨w.heap.size, 1, none⟩ = some (.bool own) := (hs4.cell (p := ⟨w.heap.size, 1, none⟩) l_aG_3).trans c_aG1_3
  have l_aG_4 : w.heap.size < w4.heap.size := Nat.lt_of_lt_of_le l_aG_3 z4
  have HA_t_4 := hide (HA_t_3.out.all hs4)
  have HA_x_4 := hide ha4
  have hi_x_4 : g4 < w4.heap.size := ha4.lt
  clear c_aG0_3 c_aG1_3 l_aG_3 HA_t_3 ha4 hb4 hs4
  go_wp2_with fail
  refine (mszImpl_no _ _ _ f own _ hn2 HG.out (by first | exact HA_x_4.out | exact HA_x_4.out.alloc _ | exact (HA_x_4.out.alloc _).alloc _ | exact HA_x_4.out.drew) (by first | exact (HT.out.below' HW4.out hw1) | exact Tab.more _ (HT.out.below' HW4.out hw1) | exact Tab.more _ (Tab.more _ (HT.out.below' HW4.out hw1))) (by first | omega | (simp; omega))).mono ?_
  rintro e w5 ⟨rfl, hb5⟩
  have hs5 : Below w4.heap.size w4 w5 := (by go_grown : Below w4.heap.size w4 _).trans (hb5.mono (by go_size))
  have z5 : w4.heap.size ≤ w5.heap.size := hs5.size
  have HW5 := hide (HW4.out.trans (hs5.mono HW4.out.size))
  have c_aG0_5 : w5.cell? ⟨w.heap.size, 0, none⟩ = some (.slice A n c) := (hs5.cell (p := ⟨w.heap.size, 0, none⟩) l_aG_4).trans c_aG0_4
  have c_aG1_5 : w5.cell? ⟨w.heap.size, 1, none⟩ = some (.bool own) := (hs5.cell (p := ⟨w.heap.size, 1, none⟩) l_aG_4).trans c_aG1_4
  have l_aG_5 : w.heap.size < w5.heap.size := Nat.lt_of_lt_of_le l_aG_4 z5
  have c_x0_5 : w5.cell? ⟨w4.heap.size, 0, none⟩ = some (.slice (some ⟨g4, 0, none⟩) n n) := (hb5.cell (p := ⟨w4.heap.size, 0, none⟩) (by go_size)).trans (by simp [go_sem])
  have c_x1_5 : w5.cell? ⟨w4.heap.size, 1, none⟩ = some (.bool own) := (hb5.cell (p := ⟨w4.heap.size, 1, none⟩) (by go_size)).trans (by simp [go_sem])
  have l_x_5 : w4.heap.size < w5.heap.size := Nat.lt_of_lt_of_le (by go_size) hb5.size
  have HA_t_5 := hide (HA_t_4.out.all hs5)
  have HA_x_5 := hide (HA_x_4.out.all hs5)
  clear c_aG0_4 c_aG1_4 l_aG_4 HA_t_4 HA_x_4 hb5 hs5
  go_wp2_with fail
  have KK : Hid (w5.drew.cell? ⟨w4.heap.size, 0, none⟩ = some (.slice (some ⟨g4, 0, none⟩) n n) ∧ w5.drew.cell? ⟨w4.heap.size, 1, none⟩ = some (.bool own) ∧ w5.drew.cell? ⟨w.heap.size, 0, none⟩ = some (.slice A n c) ∧ w5.drew.cell? ⟨w.heap.size, 1, none⟩ = some (.bool own)) := hide ⟨c_x0_5, c_x1_5, c_aG0_5, c_aG1_5⟩
  go_region_held3 (fun w' => w'.cell? ⟨w4.heap.size, 0, none⟩ = some (.slice (some ⟨g4, 0, none⟩) n n) ∧ w'.cell? ⟨w4.heap.size, 1, none⟩ = some (.bool own) ∧ w'.cell? ⟨w.heap.size, 0, none⟩ = some (.slice A n c) ∧ w'.cell? ⟨w.heap.size, 1, none⟩ = some (.bool own)) (first | exact KK.out | exact four_below (by assumption) KK.out | exact four_below (by assumption) (four_below (by assumption) KK.out)) (first | (go_at_call 16; refine (toGraph_any _ _ _ f _ _ hn2 (by exact Src.drew (HS_A.out.below HW5.out))).mono ?_; rintro e w6 ⟨g6, rfl, lo_g6, ha_r, hb6⟩; have HA_r := hide ha_r; clear ha_r) | (go_at_call 19; refine (eqGraph_true _ _ _ _ _ f _ _ hn2 (by exact Src.of_arr ((HA_x_5.out.drew).all hb6)) (by exact Src.of_arr HA_r.out)).mono ?_; rintro e w7 ⟨rfl, hb7⟩))
  have hbr : Below w5.heap.size w5 w7 := (Below.drew (Below.refl _ _)).trans (Below.trans hb6 (hb7.mono hb6.size))
  clear KK HA_r lo_g6 hb6 hb7
  have hb7 := hbr
  clear hbr
  have hs7 : Below w5.heap.size w5 w7 := (by go_grown : Below w5.heap.size w5 _).trans (hb7.mono (by go_size))
  have z7 : w5.heap.size ≤ w7.heap.size := hs7.size
  have HW7 := hide (HW5.out.trans (hs7.mono HW5.out.size))
  have c_aG0_7 : w7.cell? ⟨w.heap.size, 0, none⟩ = some (.slice A n c) := (hs7.cell (p := ⟨w.heap.size, 0, none⟩) l_aG_5).trans c_aG0_5
  have c_aG1_7 : w7.cell? ⟨w.heap.size, 1, none⟩ = some (.bool own) := (hs7.cell (p := ⟨w.heap.size, 1, none⟩) l_aG_5).trans c_aG1_5
  have l_aG_7 : w.heap.size < w7.heap.size := Nat.lt_of_lt_of_le l_aG_5 z7
  have c_x0_7 : w7.cell? ⟨w4.heap.size, 0, none⟩ = some (.slice (some ⟨g4, 0, none⟩) n n) := (hs7.cell (p := ⟨w4.heap.size, 0, none⟩) l_x_5).trans c_x0_5
  have c_x1_7 : w7.cell? ⟨w4.heap.size, 1, none⟩ = some (.bool own) := (hs7.cell (p := ⟨w4.heap.size, 1, none⟩) l_x_5).trans c_x1_5
  have l_x_7 : w4.heap.size < w7.heap.size := Nat.lt_of_lt_of_le l_x_5 z7
  have HA_t_7 := hide (HA_t_5.out.all hs7)
  have HA_x_7 := hide (HA_x_5.out.all hs7)
  clear c_aG0_5 c_aG1_5 l_aG_5 c_x0_5 c_x1_5 l_x_5 HA_t_5 HA_x_5 hb7 hs7
  go_wp2
  go_ret
  exact ⟨rfl, by have h := HW7.out; have hz := h.size; go_grown⟩
theorem lawMatchingSize_ok (A : Option Addr) (n c : Nat) (F : Nat → Nat) (own : Bool) (v : Int) (b : Bool) (HV : Hid (mszOut F n = .tuple #[.int .i64 v, .bool b])) (w : World) (hn2 : n ≤ 1048576) (hn16 : n ≤ 16) (HG : Hid (goodB n (nv F) = true)) (HT : Hid (Tab w)) (hw1 : 1 < w.heap.size) (HS_A : Hid (Src w A n (iv (nv F)))) :
    Calls Tryd.prog 9 #[.agg #[.slice A n c, .bool own]] w fun e w' => e = .returned (.bool true) ∧ Below w.heap.size w w' := by
  go_enter Tryd.func9, Tryd.ntmps9
  go_wp2_with fail
  refine (szGraph_ok _ _ _ _ _ _ (by omega) (by omega)).mono ?_
  rintro e w1 ⟨rfl, hb1⟩
  have hs1 : Below w.heap.size w w1 := (by go_grown : Below w.heap.size w _).trans (hb1.mono (by go_size))
  have z1 : w.heap.size ≤ w1.heap.size := hs1.size
  have HW1 := hide hs1
  have c_aG0_1 : w1.cell? ⟨w.heap.size, 0, none⟩ = some (.slice A n c) := (hb1.cell (p := ⟨w.heap.size, 0, none⟩) (by go_size)).trans (by simp [go_sem])
  have c_aG1_1 : w1.cell? ⟨w.heap.size, 1, none⟩ = some (.bool own) := (hb1.cell (p := ⟨w.heap.size, 1, none⟩) (by go_size)).trans (by simp [go_sem])
  have l_aG_1 : w.heap.size < w1.heap.size := Nat.lt_of_lt_of_le (by go_size) hb1.size
  clear  hb1 hs1
  go_wp2_with fail
  refine (toGraph_any _ _ _ (nv F) _ _ hn2 (by first | exact (HS_A.out.below HW1.out) | exact Src.alloc (HS_A.out.below HW1.out) _ | exact Src.alloc (Src.alloc (HS_A.out.below HW1.out) _) _ | exact Src.drew (HS_A.out.below HW1.out))).mono ?_
  rintro e w2 ⟨g2, rfl, lo_g2, ha2, hb2⟩
  try simp only [World.size_alloc] at lo_g2
  have hs2 : Below w1.heap.size w1 w2 := (by go_grown : Below w1.heap.size w1 _).trans (hb2.mono (by go_size))
  have z2 : w1.heap.size ≤ w2.heap.size := hs2.size
  have HW2 := hide (HW1.out.trans (hs2.mono HW1.out.size))
  have c_aG0_2 : w2.cell? ⟨w.heap.size, 0, none⟩ = some (.slice A n c) := (hs2.cell (p := ⟨w.heap.size, 0, none⟩) l_aG_1).trans c_aG0_1
  have c_aG1_2 : w2.cell? ⟨w.heap.size, 1, none⟩ = some (.bool own) := (hs2.cell (p := ⟨w.heap.size, 1, none⟩) l_aG_1).trans c_aG1_1
  have l_aG_2 : w.heap.size < w2.heap.size := Nat.lt_of_lt_of_le l_aG_1 z2
  have HA_t_2 := hide ha2
  have hi_t_2 : g2 < w2.heap.size := ha2.lt
  clear c_aG0_1 c_aG1_1 l_aG_1 ha2 hb2 hs2
  go_wp2_with fail
  refine (mszSpec_v _ _ _ F own _ _ _ HV.out hn16 HG.out (by first | exact HA_t_2.out | exact HA_t_2.out.alloc _ | exact (HA_t_2.out.alloc _).alloc _ | exact HA_t_2.out.drew)).mono ?_
  rintro e w3 ⟨rfl, hb3⟩
  have hs3 : Below w2.heap.size w2 w3 := (by go_grown : Below w2.heap.size w2 _).trans (hb3.mono (by go_size))
  have z3 : w2.heap.size ≤ w3.heap.size := hs3.size
  have HW3 := hide (HW2.out.trans (hs3.mono HW2.out.size))
  have c_aG0_3 : w3.cell? ⟨w.heap.size, 0, none⟩ = some (.slice A n c) := (hs3.cell (p := ⟨w.heap.size, 0, none⟩) l_aG_2).trans c_aG0_2
  have c_aG1_3 : w3.cell? ⟨w.heap.size, 1, none⟩ = some (.bool own) := (hs3.cell (p := ⟨w.heap.size, 1, none⟩) l_aG_2).trans c_aG1_2
  have l_aG_3 : w.heap.size < w3.heap.size := Nat.lt_of_lt_of_le l_aG_2 z3
  have HA_t_3 := hide (HA_t_2.out.all hs3)
  clear c_aG0_2 c_aG1_2 l_aG_2 HA_t_2 hb3 hs3
  go_wp2_with fail
  refine (toGraph_any _ _ _ (nv F) _ _ hn2 (by first | exact (HS_A.out.below HW3.out) | exact Src.alloc (HS_A.out.below HW3.out) _ | exact Src.alloc (Src.alloc (HS_A.out.below HW3.out) _) _ | exact Src.drew (HS_A.out.below HW3.out))).mono ?_
  rintro e w4 ⟨g4, rfl, lo_g4, ha4, hb4⟩
  try simp only [World.size_alloc] at lo_g4
  have hs4 : Below w3.heap.size w3 w4 := (by go_grown : Below w3.heap.size w3 _).trans (hb4.mono (by go_size))
  have z4 : w3.heap.size ≤ w4.heap.size := hs4.size
  have HW4 := hide (HW3.out.trans (hs4.mono HW3.out.size))
  have c_aG0_4 : w4.cell? ⟨w.heap.size, 0, none⟩ = some (.slice A n c) := (hs4.cell (p := ⟨w.heap.size, 0, none⟩) l_aG_3).trans c_aG0_3
  have c_aG1_4 : w4.cell? ⟨w.heap.size, 1, none⟩ = some (.bool own) := (hs4.cell (p := ⟨w.heap.size, 1, none⟩) l_aG_3).trans c_aG1_3
  have l_aG_4 : w.heap.size < w4.heap.size := Nat.lt_of_lt_of_le l_aG_3 z4
  have HA_t_4 := hide (HA_t_3.out.all hs4)
  have HA_x_4 := hide ha4
  have hi_x_4 : g4 < w4.heap.size := ha4.lt
  clear c_aG0_3 c_aG1_3 l_aG_3 HA_t_3 ha4 hb4 hs4
  go_wp2_with fail
  refine (mszImpl_v _ _ _ F own _ _ _ HV.out hn16 HG.out (by first | exact HA_x_4.out | exact HA_x_4.out.alloc _ | exact (HA_x_4.out.alloc _).alloc _ | exact HA_x_4.out.drew) (by first | exact (HT.out.below' HW4.out hw1) | exact Tab.more _ (HT.out.below' HW4.out hw1) | exact Tab.more _ (Tab.more _ (HT.out.below' HW4.out hw1))) (by first | omega | (simp; omega))).mono ?_
  rintro e w5 ⟨rfl, hb5⟩
  have hs5 : Below w4.heap.size w4 w5 := (by go_grown : Below w4.heap.size w4 _).trans (hb5.mono (by go_size))
  have z5 : w4.heap.size ≤ w5.heap.size := hs5.size
  have HW5 := hide (HW4.out.trans (hs5.mono HW4.out.size))
  have c_aG0_5 : w5.cell? ⟨w.heap.size, 0, none⟩ = some (.slice A n c) := (hs5.cell (p := ⟨w.heap.size, 0, none⟩) l_aG_4).trans c_aG0_4
  have c_aG1_5 : w5.cell? ⟨w.heap.size, 1, none⟩ = some (.bool own) := (hs5.cell (p := ⟨w.heap.size, 1, none⟩) l_aG_4).trans c_aG1_4
  have l_aG_5 : w.heap.size < w5.heap.size := Nat.lt_of_lt_of_le l_aG_4 z5
  have c_x0_5 : w5.cell? ⟨w4.heap.size, 0, none⟩ = some (.slice (some ⟨g4, 0, none⟩) n n) := (hb5.cell (p := ⟨w4.heap.size, 0, none⟩) (by go_size)).trans (by simp [go_sem])
  have c_x1_5 : w5.cell? ⟨w4.heap.size, 1, none⟩ = some (.bool own) := (hb5.cell (p := ⟨w4.heap.size, 1, none⟩) (by go_size)).trans (by simp [go_sem])
  have l_x_5 : w4.heap.size < w5.heap.size := Nat.lt_of_lt_of_le (by go_size) hb5.size
  have HA_t_5 := hide (HA_t_4.out.all hs5)
  have HA_x_5 := hide (HA_x_4.out.all hs5)
  clear c_aG0_4 c_aG1_4 l_aG_4 HA_t_4 HA_x_4 hb5 hs5
  go_wp2_with fail
  have KK : Hid (w5.drew.cell? ⟨w4.heap.size, 0, none⟩ = some (.slice (some ⟨g4, 0, none⟩) n n) ∧ w5.drew.cell? ⟨w4.heap.size, 1, none⟩ = some (.bool own) ∧ w5.drew.cell? ⟨w.heap.size, 0, none⟩ = some (.slice A n c) ∧ w5.drew.cell? ⟨w.heap.size, 1, none⟩ = some (.bool own)) := hide ⟨c_x0_5, c_x1_5, c_aG0_5, c_aG1_5⟩
  go_region_held3 (fun w' => w'.cell? ⟨w4.heap.size, 0, none⟩ = some (.slice (some ⟨g4, 0, none⟩) n n) ∧ w'.cell? ⟨w4.heap.size, 1, none⟩ = some (.bool own) ∧ w'.cell? ⟨w.heap.size, 0, none⟩ = some (.slice A n c) ∧ w'.cell? ⟨w.heap.size, 1, none⟩ = some (.bool own)) (first | exact KK.out | exact four_below (by assumption) KK.out | exact four_below (by assumption) (four_below (by assumption) KK.out)) (first | (go_at_call 16; refine (toGraph_any _ _ _ (nv F) _ _ hn2 (by exact Src.drew (HS_A.out.below HW5.out))).mono ?_; rintro e w6 ⟨g6, rfl, lo_g6, ha_r, hb6⟩; have HA_r := hide ha_r; clear ha_r) | (go_at_call 19; refine (eqGraph_true _ _ _ _ _ (nv F) _ _ hn2 (by exact Src.of_arr ((HA_x_5.out.drew).all hb6)) (by exact Src.of_arr HA_r.out)).mono ?_; rintro e w7 ⟨rfl, hb7⟩))
  have hbr : Below w5.heap.size w5 w7 := (Below.drew (Below.refl _ _)).trans (Below.trans hb6 (hb7.mono hb6.size))
  clear KK HA_r lo_g6 hb6 hb7
  have hb7 := hbr
  clear hbr
  have hs7 : Below w5.heap.size w5 w7 := (by go_grown : Below w5.heap.size w5 _).trans (hb7.mono (by go_size))
  have z7 : w5.heap.size ≤ w7.heap.size := hs7.size
  have HW7 := hide (HW5.out.trans (hs7.mono HW5.out.size))
  have c_aG0_7 : w7.cell? ⟨w.heap.size, 0, none⟩ = some (.slice A n c) := (hs7.cell (p := ⟨w.heap.size, 0, none⟩) l_aG_5).trans c_aG0_5
  have c_aG1_7 : w7.cell? ⟨w.heap.size, 1, none⟩ = some (.bool own) := (hs7.cell (p := ⟨w.heap.size, 1, none⟩) l_aG_5).trans c_aG1_5
  have l_aG_7 : w.heap.size < w7.heap.size := Nat.lt_of_lt_of_le l_aG_5 z7
  have c_x0_7 : w7.cell? ⟨w4.heap.size, 0, none⟩ = some (.slice (some ⟨g4, 0, none⟩) n n) := (hs7.cell (p := ⟨w4.heap.size, 0, none⟩) l_x_5).trans c_x0_5
  have c_x1_7 : w7.cell? ⟨w4.heap.size, 1, none⟩ = some (.bool own) := (hs7.cell (p := ⟨w4.heap.size, 1, none⟩) l_x_5).trans c_x1_5
  have l_x_7 : w4.heap.size < w7.heap.size := Nat.lt_of_lt_of_le l_x_5 z7
  have HA_t_7 := hide (HA_t_5.out.all hs7)
  have HA_x_7 := hide (HA_x_5.out.all hs7)
  clear c_aG0_5 c_aG1_5 l_aG_5 c_x0_5 c_x1_5 l_x_5 HA_t_5 HA_x_5 hb7 hs7
  go_wp2
  go_ret
  exact ⟨rfl, by have h := HW7.out; have hz := h.size; go_grown⟩
theorem lawMatchingSize_big (A : Option Addr) (n c : Nat) (own : Bool) (w : World) (hn : n ≤ 9223372036854775807) (hbig : 1048576 < n) :
    Calls Tryd.prog 9 #[.agg #[.slice A n c, .bool own]] w fun e w' => e = .returned (.bool true) ∧ Below w.heap.size w w' := by
  have hbig' : (1048576 : Int) < n := by omega
  go_enter Tryd.func9, Tryd.ntmps9
  go_wp2_with (go_at_call 14; refine (szGraph_big _ _ _ _ _ _ hn hbig' (by omega) (by omega)).mono ?_; rintro e w' ⟨rfl, hb⟩)
  go_ret
  exact ⟨rfl, (by go_grown : Below w.heap.size w _).trans (hb.mono (by simp))⟩
theorem lawMatchingSize (A : Option Addr) (n c : Nat) (f : Nat → Int) (own : Bool) (w : World) (hn : n ≤ 9223372036854775807) (hs : Src w A n (iv f)) (hT : Tab w) :
    Calls Tryd.prog 9 #[.agg #[.slice A n c, .bool own]] w fun e w' => e = .returned (.bool true) ∧ Below w.heap.size w w' := by
  by_cases hbig : 1048576 < n
  · exact lawMatchingSize_big A n c own w hn hbig
  · cases hno : goodB n f
    · exact lawMatchingSize_no A n c f own w (by omega) (hide hno) (hide hT) hT.lt (hide hs)
    · obtain ⟨F, he, h2, h16, hG⟩ := good_nat (goodB_iff.1 hno)
      have h1 : n ≤ 16 := hG.2.1
      obtain ⟨v, b, hv⟩ := mszOut_two F n
      exact lawMatchingSize_ok A n c F own v b (hide hv) w (by omega) h1 (hide (goodB_yes hG)) (hide hT) hT.lt (hide (hs.nat he))
end Go.Proofs.YtmcimfblhpflnaaDoor
