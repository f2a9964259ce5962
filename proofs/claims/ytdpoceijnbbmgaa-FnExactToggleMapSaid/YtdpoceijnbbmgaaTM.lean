/-
The statement of ToggleMap, walked.
-/
import Derived.Test.YtdpoceijnbbmgaaTG8
namespace Go.Proofs.Ytdpoceijnbbmgaa
open Go.RowKit
set_option maxHeartbeats 4000000
theorem tmSpec_no (g n c : Nat) (f : Nat → Int) (own : Bool) (w : World) (hn : n ≤ 1048576) (hgd : goodB n f = false) (ha : Arr w 3 g n (iv f)) :
    Calls Try.prog 9 #[.agg #[.slice (some ⟨g, 0, none⟩) n c, .bool own]] w (NoRes w) := by
  have HA := hide ha
  have HG := hide hgd
  clear ha hgd
  go_enter Try.func9, Try.ntmps9
  go_wp2_with fail
  refine (grGood_any _ _ _ f _ _ hn (by first | exact HA.out | exact HA.out.alloc _)).mono ?_
  rintro e w1 ⟨rfl, hb1⟩
  rw [HG.out]
  have HB := hide hb1
  clear hb1
  go_wp2
  go_ret2
  exact ⟨rfl, (by go_grown : Below w.heap.size w _).trans (HB.out.mono (by simp))⟩
theorem tmSpec_ok (g n c : Nat) (F : Nat → Nat) (own : Bool) (w : World) (h1 : 1 ≤ n) (hn : n ≤ 16) (hF : ∀ k, k < n → F k < 65536) (hgd : goodB n (nv F) = true) (ha : Arr w 3 g n (iv (nv F))) :
    Calls Try.prog 9 #[.agg #[.slice (some ⟨g, 0, none⟩) n c, .bool own]] w (ArrRes w n (nv (tog F own))) := by
  have HA := hide ha
  have HG := hide hgd
  have HF := hide hF
  clear ha hgd hF
  go_enter Try.func9, Try.ntmps9
  go_wp2_with fail
  refine (grGood_any _ _ _ (nv F) _ _ (by omega) (by first | exact HA.out | exact HA.out.alloc _)).mono ?_
  rintro e w1 ⟨rfl, hb1⟩
  rw [HG.out]
  have hb0 : Below w.heap.size w w1 := (by go_grown : Below w.heap.size w _).trans (hb1.mono (by simp))
  have HB := hide hb0
  have HA2 := hide (HA.out.all hb0)
  have hc0 : ∀ a b, w1.cell? ⟨w.heap.size, a, b⟩ = w1.cell? ⟨w.heap.size, a, b⟩ := fun _ _ => rfl
  have hp := (Arr.box w 28 (.slice (some ⟨g, 0, none⟩) n c) (.bool own))
  try have c0 : w1.cell? ⟨w.heap.size, 0, none⟩ = some (.slice (some ⟨g, 0, none⟩) n c) := (hp.all hb1).cell (k := 0) (by omega)
  try have c1 : w1.cell? ⟨w.heap.size, 1, none⟩ = some (.bool own) := (hp.all hb1).cell (k := 1) (by omega)
  clear hb1 hb0 hc0 hp
  go_wp2_with fail
  refine (prMap_any _ _ _ F own _ h1 hn HF.out HA2.out).mono ?_
  rintro e w2 ⟨g2, d, rfl, hlo, ha2, hb2⟩
  have hz := HB.out.size
  have HB2 := hide (HB.out.trans (hb2.mono hz))
  have HA3 := hide ha2
  clear ha2 hb2
  go_wp2
  go_ret2
  exact ⟨g2, d, rfl, by omega, HA3.out, HB2.out⟩
theorem tmImpl_no (g n c : Nat) (f : Nat → Int) (own : Bool) (w : World) (hn : n ≤ 1048576) (hgd : goodB n f = false) (ha : Arr w 3 g n (iv f)) :
    Calls Try.prog 11 #[.agg #[.slice (some ⟨g, 0, none⟩) n c, .bool own]] w (NoRes w) := by
  have HA := hide ha
  have HG := hide hgd
  clear ha hgd
  go_enter Try.func11, Try.ntmps11
  go_wp2_with fail
  refine (isGraph_any _ _ _ f _ _ hn (by first | exact HA.out | exact HA.out.alloc _)).mono ?_
  rintro e w1 ⟨rfl, hb1⟩
  rw [HG.out]
  have HB := hide hb1
  clear hb1
  go_wp2
  go_ret2
  exact ⟨rfl, (by go_grown : Below w.heap.size w _).trans (HB.out.mono (by simp))⟩
theorem tmImpl_ok (g n c : Nat) (F : Nat → Nat) (own : Bool) (w : World) (h1 : 1 ≤ n) (hn : n ≤ 16) (hF : ∀ k, k < n → F k < 65536) (hgd : goodB n (nv F) = true) (ha : Arr w 3 g n (iv (nv F))) :
    Calls Try.prog 11 #[.agg #[.slice (some ⟨g, 0, none⟩) n c, .bool own]] w (ArrRes w n (nv (tog F own))) := by
  have HA := hide ha
  have HG := hide hgd
  have HF := hide hF
  clear ha hgd hF
  go_enter Try.func11, Try.ntmps11
  go_wp2_with fail
  refine (isGraph_any _ _ _ (nv F) _ _ (by omega) (by first | exact HA.out | exact HA.out.alloc _)).mono ?_
  rintro e w1 ⟨rfl, hb1⟩
  rw [HG.out]
  have hb0 : Below w.heap.size w w1 := (by go_grown : Below w.heap.size w _).trans (hb1.mono (by simp))
  have HB := hide hb0
  have HA2 := hide (HA.out.all hb0)
  have hc0 : ∀ a b, w1.cell? ⟨w.heap.size, a, b⟩ = w1.cell? ⟨w.heap.size, a, b⟩ := fun _ _ => rfl
  have hp := (Arr.box w 28 (.slice (some ⟨g, 0, none⟩) n c) (.bool own))
  try have c0 : w1.cell? ⟨w.heap.size, 0, none⟩ = some (.slice (some ⟨g, 0, none⟩) n c) := (hp.all hb1).cell (k := 0) (by omega)
  try have c1 : w1.cell? ⟨w.heap.size, 1, none⟩ = some (.bool own) := (hp.all hb1).cell (k := 1) (by omega)
  clear hb1 hb0 hc0 hp
  go_wp2_with fail
  refine (allToggles_any _ _ _ F own _ hn HF.out HA2.out).mono ?_
  rintro e w2 ⟨g2, d, rfl, hlo, ha2, hb2⟩
  have hz := HB.out.size
  have HB2 := hide (HB.out.trans (hb2.mono hz))
  have HA3 := hide ha2
  clear ha2 hb2
  go_wp2
  go_ret2
  exact ⟨g2, d, rfl, by omega, HA3.out, HB2.out⟩
theorem lawTM_arr (A : Option Addr) (n c : Nat) (f : Nat → Int) (own : Bool)  (m : Nat) (R : Nat → Int) (hm : m ≤ 1048576) (w : World) (hn2 : n ≤ 1048576) (HSP : Hid (∀ (g c : Nat) (w : World), Arr w 3 g n (iv f) → Calls Try.prog 9 #[.agg #[.slice (some ⟨g, 0, none⟩) n c, .bool own]] w (ArrRes w m R))) (HIM : Hid (∀ (g c : Nat) (w : World), Arr w 3 g n (iv f) → Calls Try.prog 11 #[.agg #[.slice (some ⟨g, 0, none⟩) n c, .bool own]] w (ArrRes w m R))) (HS_A : Hid (Src w A n (iv f))) :
    Calls Try.prog 3 #[.agg #[.slice A n c, .bool own]] w fun e w' => e = .returned (.bool true) ∧ Below w.heap.size w w' := by
  go_enter Try.func3, Try.ntmps3
  go_wp2_with fail
  refine (szGraph_ok _ _ _ _ _ _ (by omega) (by omega)).mono ?_
  rintro e w1 ⟨rfl, hb1⟩
  have hs1 : Below w.heap.size w w1 := (by go_grown : Below w.heap.size w _).trans (hb1.mono (by go_size))
  have z1 : w.heap.size ≤ w1.heap.size := hs1.size
  have HW1 := hide hs1
  have c_aG0_1 : w1.cell? ⟨w.heap.size, 0, none⟩ = some (.slice A n c) := (hb1.cell (p := ⟨w.heap.size, 0, none⟩) (by go_size)).trans (by simp [go_sem])
  have c_aG1_1 : w1.cell? ⟨w.heap.size, 1, none⟩ = some (.bool own) := (hb1.cell (p := ⟨w.heap.size, 1, none⟩) (by go_size)).trans (by simp [go_sem])
  have l_aG_1 : w.heap.size < w1.heap.size := Nat.lt_of_lt_of_le (by go_size) hb1.size
  clear  hb1 hs1
  go_wp2_with fail
  refine (toGraph_any _ _ _ f _ _ hn2 (by first | exact (HS_A.out.below HW1.out) | exact Src.alloc (HS_A.out.below HW1.out) _ | exact Src.alloc (Src.alloc (HS_A.out.below HW1.out) _) _ | exact Src.drew (HS_A.out.below HW1.out))).mono ?_
  rintro e w2 ⟨g2, rfl, lo_g2, ha2, hb2⟩
  try simp only [World.size_alloc] at lo_g2
  have hs2 : Below w1.heap.size w1 w2 := (by go_grown : Below w1.heap.size w1 _).trans (hb2.mono (by go_size))
  have z2 : w1.heap.size ≤ w2.heap.size := hs2.size
  have HW2 := hide (HW1.out.trans (hs2.mono HW1.out.size))
  have c_aG0_2 : w2.cell? ⟨w.heap.size, 0, none⟩ = some (.slice A n c) := (hs2.cell (p := ⟨w.heap.size, 0, none⟩) l_aG_1).trans c_aG0_1
  have c_aG1_2 : w2.cell? ⟨w.heap.size, 1, none⟩ = some (.bool own) := (hs2.cell (p := ⟨w.heap.size, 1, none⟩) l_aG_1).trans c_aG1_1
  have l_aG_2 : w.heap.size < w2.heap.size := Nat.lt_of_lt_of_le l_aG_1 z2
  have HA_t_2 := hide ha2
  have hi_t_2 : g2 < w2.heap.size := ha2.lt
  clear c_aG0_1 c_aG1_1 l_aG_1 ha2 hb2 hs2
  go_wp2_with fail
  refine (HSP.out _ _ _ (by first | exact HA_t_2.out | exact HA_t_2.out.alloc _ | exact (HA_t_2.out.alloc _).alloc _ | exact HA_t_2.out.drew)).mono ?_
  rintro e w3 ⟨g3, c_g3, rfl, lo_g3, ha_g3, hb3⟩
  try simp only [World.size_alloc] at lo_g3
  have hs3 : Below w2.heap.size w2 w3 := (by go_grown : Below w2.heap.size w2 _).trans (hb3.mono (by go_size))
  have z3 : w2.heap.size ≤ w3.heap.size := hs3.size
  have HW3 := hide (HW2.out.trans (hs3.mono HW2.out.size))
  have c_aG0_3 : w3.cell? ⟨w.heap.size, 0, none⟩ = some (.slice A n c) := (hs3.cell (p := ⟨w.heap.size, 0, none⟩) l_aG_2).trans c_aG0_2
  have c_aG1_3 : w3.cell? ⟨w.heap.size, 1, none⟩ = some (.bool own) := (hs3.cell (p := ⟨w.heap.size, 1, none⟩) l_aG_2).trans c_aG1_2
  have l_aG_3 : w.heap.size < w3.heap.size := Nat.lt_of_lt_of_le l_aG_2 z3
  have HA_t_3 := hide (HA_t_2.out.all hs3)
  have HA_s_3 := hide ha_g3
  have hi_s_3 : g3 < w3.heap.size := ha_g3.lt
  clear c_aG0_2 c_aG1_2 l_aG_2 HA_t_2 ha_g3 hb3 hs3
  go_wp2_with fail
  refine (toGraph_any _ _ _ f _ _ hn2 (by first | exact (HS_A.out.below HW3.out) | exact Src.alloc (HS_A.out.below HW3.out) _ | exact Src.alloc (Src.alloc (HS_A.out.below HW3.out) _) _ | exact Src.drew (HS_A.out.below HW3.out))).mono ?_
  rintro e w4 ⟨g4, rfl, lo_g4, ha4, hb4⟩
  try simp only [World.size_alloc] at lo_g4
  have hs4 : Below w3.heap.size w3 w4 := (by go_grown : Below w3.heap.size w3 _).trans (hb4.mono (by go_size))
  have z4 : w3.heap.size ≤ w4.heap.size := hs4.size
  have HW4 := hide (HW3.out.trans (hs4.mono HW3.out.size))
  have c_aG0_4 : w4.cell? ⟨w.heap.size, 0, none⟩ = some (.slice A n c) := (hs4.cell (p := ⟨w.heap.size, 0, none⟩) l_aG_3).trans c_aG0_3
  have c_aG1_4 : w4.cell? ⟨w.heap.size, 1, none⟩ = some (.bool own) := (hs4.cell (p := ⟨w.heap.size, 1, none⟩) l_aG_3).trans c_aG1_3
  have l_aG_4 : w.heap.size < w4.heap.size := Nat.lt_of_lt_of_le l_aG_3 z4
  have HA_t_4 := hide (HA_t_3.out.all hs4)
  have HA_s_4 := hide (HA_s_3.out.all hs4)
  have HA_x_4 := hide ha4
  have hi_x_4 : g4 < w4.heap.size := ha4.lt
  clear c_aG0_3 c_aG1_3 l_aG_3 HA_t_3 HA_s_3 ha4 hb4 hs4
  go_wp2_with fail
  refine (HIM.out _ _ _ (by first | exact HA_x_4.out | exact HA_x_4.out.alloc _ | exact (HA_x_4.out.alloc _).alloc _ | exact HA_x_4.out.drew)).mono ?_
  rintro e w5 ⟨g5, c_g5, rfl, lo_g5, ha_g5, hb5⟩
  try simp only [World.size_alloc] at lo_g5
  have hs5 : Below w4.heap.size w4 w5 := (by go_grown : Below w4.heap.size w4 _).trans (hb5.mono (by go_size))
  have z5 : w4.heap.size ≤ w5.heap.size := hs5.size
  have HW5 := hide (HW4.out.trans (hs5.mono HW4.out.size))
  have c_aG0_5 : w5.cell? ⟨w.heap.size, 0, none⟩ = some (.slice A n c) := (hs5.cell (p := ⟨w.heap.size, 0, none⟩) l_aG_4).trans c_aG0_4
  have c_aG1_5 : w5.cell? ⟨w.heap.size, 1, none⟩ = some (.bool own) := (hs5.cell (p := ⟨w.heap.size, 1, none⟩) l_aG_4).trans c_aG1_4
  have l_aG_5 : w.heap.size < w5.heap.size := Nat.lt_of_lt_of_le l_aG_4 z5
  have c_x0_5 : w5.cell? ⟨w4.heap.size, 0, none⟩ = some (.slice (some ⟨g4, 0, none⟩) n n) := (hb5.cell (p := ⟨w4.heap.size, 0, none⟩) (by go_size)).trans (by simp [go_sem])
  have c_x1_5 : w5.cell? ⟨w4.heap.size, 1, none⟩ = some (.bool own) := (hb5.cell (p := ⟨w4.heap.size, 1, none⟩) (by go_size)).trans (by simp [go_sem])
  have l_x_5 : w4.heap.size < w5.heap.size := Nat.lt_of_lt_of_le (by go_size) hb5.size
  have HA_t_5 := hide (HA_t_4.out.all hs5)
  have HA_s_5 := hide (HA_s_4.out.all hs5)
  have HA_x_5 := hide (HA_x_4.out.all hs5)
  have HA_i_5 := hide ha_g5
  have hi_i_5 : g5 < w5.heap.size := ha_g5.lt
  clear c_aG0_4 c_aG1_4 l_aG_4 HA_t_4 HA_s_4 HA_x_4 ha_g5 hb5 hs5
  go_wp2_with fail
  refine (eqIntS_below _ _ _ _ _ R _ hm (by first | exact Src.of_arr HA_i_5.out | exact Src.of_arr (HA_i_5.out.alloc _) | exact Src.of_arr ((HA_i_5.out.alloc _).alloc _) | exact Src.of_arr HA_i_5.out.drew) (by first | exact Src.of_arr HA_s_5.out | exact Src.of_arr (HA_s_5.out.alloc _) | exact Src.of_arr ((HA_s_5.out.alloc _).alloc _) | exact Src.of_arr HA_s_5.out.drew)).mono ?_
  rintro e w6 ⟨rfl, hb6⟩
  have hs6 : Below w5.heap.size w5 w6 := (by go_grown : Below w5.heap.size w5 _).trans (hb6.mono (by go_size))
  have z6 : w5.heap.size ≤ w6.heap.size := hs6.size
  have HW6 := hide (HW5.out.trans (hs6.mono HW5.out.size))
  have c_aG0_6 : w6.cell? ⟨w.heap.size, 0, none⟩ = some (.slice A n c) := (hs6.cell (p := ⟨w.heap.size, 0, none⟩) l_aG_5).trans c_aG0_5
  have c_aG1_6 : w6.cell? ⟨w.heap.size, 1, none⟩ = some (.bool own) := (hs6.cell (p := ⟨w.heap.size, 1, none⟩) l_aG_5).trans c_aG1_5
  have l_aG_6 : w.heap.size < w6.heap.size := Nat.lt_of_lt_of_le l_aG_5 z6
  have c_x0_6 : w6.cell? ⟨w4.heap.size, 0, none⟩ = some (.slice (some ⟨g4, 0, none⟩) n n) := (hs6.cell (p := ⟨w4.heap.size, 0, none⟩) l_x_5).trans c_x0_5
  have c_x1_6 : w6.cell? ⟨w4.heap.size, 1, none⟩ = some (.bool own) := (hs6.cell (p := ⟨w4.heap.size, 1, none⟩) l_x_5).trans c_x1_5
  have l_x_6 : w4.heap.size < w6.heap.size := Nat.lt_of_lt_of_le l_x_5 z6
  have HA_t_6 := hide (HA_t_5.out.all hs6)
  have HA_s_6 := hide (HA_s_5.out.all hs6)
  have HA_x_6 := hide (HA_x_5.out.all hs6)
  have HA_i_6 := hide (HA_i_5.out.all hs6)
  clear c_aG0_5 c_aG1_5 l_aG_5 c_x0_5 c_x1_5 l_x_5 HA_t_5 HA_s_5 HA_x_5 HA_i_5 hb6 hs6
  go_wp2_with fail
  have KK : Hid (w6.drew.cell? ⟨w4.heap.size, 0, none⟩ = some (.slice (some ⟨g4, 0, none⟩) n n) ∧ w6.drew.cell? ⟨w4.heap.size, 1, none⟩ = some (.bool own) ∧ w6.drew.cell? ⟨w.heap.size, 0, none⟩ = some (.slice A n c) ∧ w6.drew.cell? ⟨w.heap.size, 1, none⟩ = some (.bool own)) := hide ⟨c_x0_6, c_x1_6, c_aG0_6, c_aG1_6⟩
  go_region_held3 (fun w' => w'.cell? ⟨w4.heap.size, 0, none⟩ = some (.slice (some ⟨g4, 0, none⟩) n n) ∧ w'.cell? ⟨w4.heap.size, 1, none⟩ = some (.bool own) ∧ w'.cell? ⟨w.heap.size, 0, none⟩ = some (.slice A n c) ∧ w'.cell? ⟨w.heap.size, 1, none⟩ = some (.bool own)) (first | exact KK.out | exact four_below (by assumption) KK.out | exact four_below (by assumption) (four_below (by assumption) KK.out)) (first | (go_at_call 10; refine (toGraph_any _ _ _ f _ _ hn2 (by exact Src.drew (HS_A.out.below HW6.out))).mono ?_; rintro e w7 ⟨g7, rfl, lo_g7, ha_r, hb7⟩; have HA_r := hide ha_r; clear ha_r) | (go_at_call 13; refine (eqGraph_true _ _ _ _ _ f _ _ hn2 (by exact Src.of_arr ((HA_x_6.out.drew).all hb7)) (by exact Src.of_arr HA_r.out)).mono ?_; rintro e w8 ⟨rfl, hb8⟩))
  have hbr : Below w6.heap.size w6 w8 := (Below.drew (Below.refl _ _)).trans (Below.trans hb7 (hb8.mono hb7.size))
  clear KK HA_r lo_g7 hb7 hb8
  have hb8 := hbr
  clear hbr
  have hs8 : Below w6.heap.size w6 w8 := (by go_grown : Below w6.heap.size w6 _).trans (hb8.mono (by go_size))
  have z8 : w6.heap.size ≤ w8.heap.size := hs8.size
  have HW8 := hide (HW6.out.trans (hs8.mono HW6.out.size))
  have c_aG0_8 : w8.cell? ⟨w.heap.size, 0, none⟩ = some (.slice A n c) := (hs8.cell (p := ⟨w.heap.size, 0, none⟩) l_aG_6).trans c_aG0_6
  have c_aG1_8 : w8.cell? ⟨w.heap.size, 1, none⟩ = some (.bool own) := (hs8.cell (p := ⟨w.heap.size, 1, none⟩) l_aG_6).trans c_aG1_6
  have l_aG_8 : w.heap.size < w8.heap.size := Nat.lt_of_lt_of_le l_aG_6 z8
  have c_x0_8 : w8.cell? ⟨w4.heap.size, 0, none⟩ = some (.slice (some ⟨g4, 0, none⟩) n n) := (hs8.cell (p := ⟨w4.heap.size, 0, none⟩) l_x_6).trans c_x0_6
  have c_x1_8 : w8.cell? ⟨w4.heap.size, 1, none⟩ = some (.bool own) := (hs8.cell (p := ⟨w4.heap.size, 1, none⟩) l_x_6).trans c_x1_6
  have l_x_8 : w4.heap.size < w8.heap.size := Nat.lt_of_lt_of_le l_x_6 z8
  have HA_t_8 := hide (HA_t_6.out.all hs8)
  have HA_s_8 := hide (HA_s_6.out.all hs8)
  have HA_x_8 := hide (HA_x_6.out.all hs8)
  have HA_i_8 := hide (HA_i_6.out.all hs8)
  clear c_aG0_6 c_aG1_6 l_aG_6 c_x0_6 c_x1_6 l_x_6 HA_t_6 HA_s_6 HA_x_6 HA_i_6 hb8 hs8
  go_wp2_with fail
  refine (markGraph_arr _ _ _ f _ _ _ hn2 (by omega) (by omega) (by first | exact HA_x_8.out | exact HA_x_8.out.alloc _ | exact (HA_x_8.out.alloc _).alloc _ | exact HA_x_8.out.drew)).mono ?_
  rintro e w9 ⟨rfl, ha_m, hb9⟩
  have hs9 : w8.grownBy w9 (some g4) := grownBy_trans (grownBy_of_below (by go_grown) _) hb9
  have z9 : w8.heap.size ≤ w9.heap.size := hs9.size
  have HW9 := hide (HW8.out.grown hs9 HW8.out.size (fun k hk => by injection hk with hk; have := HW8.out.size; omega))
  have c_aG0_9 : w9.cell? ⟨w.heap.size, 0, none⟩ = some (.slice A n c) := World.grownBy.cell hs9 c_aG0_8 (by intro h; injection h with h; simp at h; omega)
  have c_aG1_9 : w9.cell? ⟨w.heap.size, 1, none⟩ = some (.bool own) := World.grownBy.cell hs9 c_aG1_8 (by intro h; injection h with h; simp at h; omega)
  have l_aG_9 : w.heap.size < w9.heap.size := Nat.lt_of_lt_of_le l_aG_8 z9
  have c_x0_9 : w9.cell? ⟨w4.heap.size, 0, none⟩ = some (.slice (some ⟨g4, 0, none⟩) n n) := World.grownBy.cell hs9 c_x0_8 (by intro h; injection h with h; simp at h; omega)
  have c_x1_9 : w9.cell? ⟨w4.heap.size, 1, none⟩ = some (.bool own) := World.grownBy.cell hs9 c_x1_8 (by intro h; injection h with h; simp at h; omega)
  have l_x_9 : w4.heap.size < w9.heap.size := Nat.lt_of_lt_of_le l_x_8 z9
  have HA_t_9 := hide (HA_t_8.out.of_block (hs9.block g2 (HA_t_8.out.lt) (by intro h; injection h with h; omega)))
  have HA_s_9 := hide (HA_s_8.out.of_block (hs9.block g3 (HA_s_8.out.lt) (by intro h; injection h with h; omega)))
  have HA_i_9 := hide (HA_i_8.out.of_block (hs9.block g5 (HA_i_8.out.lt) (by intro h; injection h with h; omega)))
  have HA_x_9 := hide ha_m
  have hi_x_9 : g4 < w9.heap.size := ha_m.lt
  clear c_aG0_8 c_aG1_8 l_aG_8 c_x0_8 c_x1_8 l_x_8 HA_t_8 HA_s_8 HA_i_8 ha_m hb9 hs9
  go_wp2_with fail
  refine (eqIntS_below _ _ _ _ _ R _ hm (by first | exact Src.of_arr HA_i_9.out | exact Src.of_arr (HA_i_9.out.alloc _) | exact Src.of_arr ((HA_i_9.out.alloc _).alloc _) | exact Src.of_arr HA_i_9.out.drew) (by first | exact Src.of_arr HA_s_9.out | exact Src.of_arr (HA_s_9.out.alloc _) | exact Src.of_arr ((HA_s_9.out.alloc _).alloc _) | exact Src.of_arr HA_s_9.out.drew)).mono ?_
  rintro e w10 ⟨rfl, hb10⟩
  have hs10 : Below w9.heap.size w9 w10 := (by go_grown : Below w9.heap.size w9 _).trans (hb10.mono (by go_size))
  have z10 : w9.heap.size ≤ w10.heap.size := hs10.size
  have HW10 := hide (HW9.out.trans (hs10.mono HW9.out.size))
  have c_aG0_10 : w10.cell? ⟨w.heap.size, 0, none⟩ = some (.slice A n c) := (hs10.cell (p := ⟨w.heap.size, 0, none⟩) l_aG_9).trans c_aG0_9
  have c_aG1_10 : w10.cell? ⟨w.heap.size, 1, none⟩ = some (.bool own) := (hs10.cell (p := ⟨w.heap.size, 1, none⟩) l_aG_9).trans c_aG1_9
  have l_aG_10 : w.heap.size < w10.heap.size := Nat.lt_of_lt_of_le l_aG_9 z10
  have c_x0_10 : w10.cell? ⟨w4.heap.size, 0, none⟩ = some (.slice (some ⟨g4, 0, none⟩) n n) := (hs10.cell (p := ⟨w4.heap.size, 0, none⟩) l_x_9).trans c_x0_9
  have c_x1_10 : w10.cell? ⟨w4.heap.size, 1, none⟩ = some (.bool own) := (hs10.cell (p := ⟨w4.heap.size, 1, none⟩) l_x_9).trans c_x1_9
  have l_x_10 : w4.heap.size < w10.heap.size := Nat.lt_of_lt_of_le l_x_9 z10
  have HA_t_10 := hide (HA_t_9.out.all hs10)
  have HA_s_10 := hide (HA_s_9.out.all hs10)
  have HA_x_10 := hide (HA_x_9.out.all hs10)
  have HA_i_10 := hide (HA_i_9.out.all hs10)
  clear c_aG0_9 c_aG1_9 l_aG_9 c_x0_9 c_x1_9 l_x_9 HA_t_9 HA_s_9 HA_x_9 HA_i_9 hb10 hs10
  go_wp2_with fail
  refine (markIntS_arr _ _ _ R _ _ hm (by omega) (by omega) (by first | exact HA_i_10.out | exact HA_i_10.out.alloc _ | exact (HA_i_10.out.alloc _).alloc _ | exact HA_i_10.out.drew)).mono ?_
  rintro e w11 ⟨rfl, ha_n, hb11⟩
  have hs11 : w10.grownBy w11 (some g5) := grownBy_trans (grownBy_of_below (by go_grown) _) hb11
  have z11 : w10.heap.size ≤ w11.heap.size := hs11.size
  have HW11 := hide (HW10.out.grown hs11 HW10.out.size (fun k hk => by injection hk with hk; have := HW10.out.size; omega))
  have c_aG0_11 : w11.cell? ⟨w.heap.size, 0, none⟩ = some (.slice A n c) := World.grownBy.cell hs11 c_aG0_10 (by intro h; injection h with h; simp at h; omega)
  have c_aG1_11 : w11.cell? ⟨w.heap.size, 1, none⟩ = some (.bool own) := World.grownBy.cell hs11 c_aG1_10 (by intro h; injection h with h; simp at h; omega)
  have l_aG_11 : w.heap.size < w11.heap.size := Nat.lt_of_lt_of_le l_aG_10 z11
  have c_x0_11 : w11.cell? ⟨w4.heap.size, 0, none⟩ = some (.slice (some ⟨g4, 0, none⟩) n n) := World.grownBy.cell hs11 c_x0_10 (by intro h; injection h with h; simp at h; omega)
  have c_x1_11 : w11.cell? ⟨w4.heap.size, 1, none⟩ = some (.bool own) := World.grownBy.cell hs11 c_x1_10 (by intro h; injection h with h; simp at h; omega)
  have l_x_11 : w4.heap.size < w11.heap.size := Nat.lt_of_lt_of_le l_x_10 z11
  have HA_t_11 := hide (HA_t_10.out.of_block (hs11.block g2 (HA_t_10.out.lt) (by intro h; injection h with h; omega)))
  have HA_s_11 := hide (HA_s_10.out.of_block (hs11.block g3 (HA_s_10.out.lt) (by intro h; injection h with h; omega)))
  have HA_x_11 := hide (HA_x_10.out.of_block (hs11.block g4 (HA_x_10.out.lt) (by intro h; injection h with h; omega)))
  have HA_i_11 := hide ha_n
  have hi_i_11 : g5 < w11.heap.size := ha_n.lt
  clear c_aG0_10 c_aG1_10 l_aG_10 c_x0_10 c_x1_10 l_x_10 HA_t_10 HA_s_10 HA_x_10 ha_n hb11 hs11
  go_wp2_with fail
  refine (heldIntS_below _ _ _ _ _ hm (by omega) (by omega) (by first | exact Src.of_arr HA_i_11.out | exact Src.of_arr (HA_i_11.out.alloc _) | exact Src.of_arr ((HA_i_11.out.alloc _).alloc _) | exact Src.of_arr HA_i_11.out.drew)).mono ?_
  rintro e w12 ⟨rfl, hb12⟩
  have hs12 : Below w11.heap.size w11 w12 := (by go_grown : Below w11.heap.size w11 _).trans (hb12.mono (by go_size))
  have z12 : w11.heap.size ≤ w12.heap.size := hs12.size
  have HW12 := hide (HW11.out.trans (hs12.mono HW11.out.size))
  have c_aG0_12 : w12.cell? ⟨w.heap.size, 0, none⟩ = some (.slice A n c) := (hs12.cell (p := ⟨w.heap.size, 0, none⟩) l_aG_11).trans c_aG0_11
  have c_aG1_12 : w12.cell? ⟨w.heap.size, 1, none⟩ = some (.bool own) := (hs12.cell (p := ⟨w.heap.size, 1, none⟩) l_aG_11).trans c_aG1_11
  have l_aG_12 : w.heap.size < w12.heap.size := Nat.lt_of_lt_of_le l_aG_11 z12
  have c_x0_12 : w12.cell? ⟨w4.heap.size, 0, none⟩ = some (.slice (some ⟨g4, 0, none⟩) n n) := (hs12.cell (p := ⟨w4.heap.size, 0, none⟩) l_x_11).trans c_x0_11
  have c_x1_12 : w12.cell? ⟨w4.heap.size, 1, none⟩ = some (.bool own) := (hs12.cell (p := ⟨w4.heap.size, 1, none⟩) l_x_11).trans c_x1_11
  have l_x_12 : w4.heap.size < w12.heap.size := Nat.lt_of_lt_of_le l_x_11 z12
  have HA_t_12 := hide (HA_t_11.out.all hs12)
  have HA_s_12 := hide (HA_s_11.out.all hs12)
  have HA_x_12 := hide (HA_x_11.out.all hs12)
  have HA_i_12 := hide (HA_i_11.out.all hs12)
  clear c_aG0_11 c_aG1_11 l_aG_11 c_x0_11 c_x1_11 l_x_11 HA_t_11 HA_s_11 HA_x_11 HA_i_11 hb12 hs12
  go_wp2_with fail
  refine (toGraph_any _ _ _ f _ _ hn2 (by first | exact (HS_A.out.below HW12.out) | exact Src.alloc (HS_A.out.below HW12.out) _ | exact Src.alloc (Src.alloc (HS_A.out.below HW12.out) _) _ | exact Src.drew (HS_A.out.below HW12.out))).mono ?_
  rintro e w13 ⟨g20, rfl, lo_g20, ha20, hb13⟩
  try simp only [World.size_alloc] at lo_g20
  have hs13 : Below w12.heap.size w12 w13 := (by go_grown : Below w12.heap.size w12 _).trans (hb13.mono (by go_size))
  have z13 : w12.heap.size ≤ w13.heap.size := hs13.size
  have HW13 := hide (HW12.out.trans (hs13.mono HW12.out.size))
  have c_aG0_13 : w13.cell? ⟨w.heap.size, 0, none⟩ = some (.slice A n c) := (hs13.cell (p := ⟨w.heap.size, 0, none⟩) l_aG_12).trans c_aG0_12
  have c_aG1_13 : w13.cell? ⟨w.heap.size, 1, none⟩ = some (.bool own) := (hs13.cell (p := ⟨w.heap.size, 1, none⟩) l_aG_12).trans c_aG1_12
  have l_aG_13 : w.heap.size < w13.heap.size := Nat.lt_of_lt_of_le l_aG_12 z13
  have c_x0_13 : w13.cell? ⟨w4.heap.size, 0, none⟩ = some (.slice (some ⟨g4, 0, none⟩) n n) := (hs13.cell (p := ⟨w4.heap.size, 0, none⟩) l_x_12).trans c_x0_12
  have c_x1_13 : w13.cell? ⟨w4.heap.size, 1, none⟩ = some (.bool own) := (hs13.cell (p := ⟨w4.heap.size, 1, none⟩) l_x_12).trans c_x1_12
  have l_x_13 : w4.heap.size < w13.heap.size := Nat.lt_of_lt_of_le l_x_12 z13
  have HA_t_13 := hide (HA_t_12.out.all hs13)
  have HA_s_13 := hide (HA_s_12.out.all hs13)
  have HA_x_13 := hide (HA_x_12.out.all hs13)
  have HA_i_13 := hide (HA_i_12.out.all hs13)
  have HA_y_13 := hide ha20
  have hi_y_13 : g20 < w13.heap.size := ha20.lt
  clear c_aG0_12 c_aG1_12 l_aG_12 c_x0_12 c_x1_12 l_x_12 HA_t_12 HA_s_12 HA_x_12 HA_i_12 ha20 hb13 hs13
  go_wp2_with fail
  refine (HIM.out _ _ _ (by first | exact HA_y_13.out | exact HA_y_13.out.alloc _ | exact (HA_y_13.out.alloc _).alloc _ | exact HA_y_13.out.drew)).mono ?_
  rintro e w14 ⟨g14, c_g14, rfl, lo_g14, ha_g14, hb14⟩
  try simp only [World.size_alloc] at lo_g14
  have hs14 : Below w13.heap.size w13 w14 := (by go_grown : Below w13.heap.size w13 _).trans (hb14.mono (by go_size))
  have z14 : w13.heap.size ≤ w14.heap.size := hs14.size
  have HW14 := hide (HW13.out.trans (hs14.mono HW13.out.size))
  have c_aG0_14 : w14.cell? ⟨w.heap.size, 0, none⟩ = some (.slice A n c) := (hs14.cell (p := ⟨w.heap.size, 0, none⟩) l_aG_13).trans c_aG0_13
  have c_aG1_14 : w14.cell? ⟨w.heap.size, 1, none⟩ = some (.bool own) := (hs14.cell (p := ⟨w.heap.size, 1, none⟩) l_aG_13).trans c_aG1_13
  have l_aG_14 : w.heap.size < w14.heap.size := Nat.lt_of_lt_of_le l_aG_13 z14
  have c_x0_14 : w14.cell? ⟨w4.heap.size, 0, none⟩ = some (.slice (some ⟨g4, 0, none⟩) n n) := (hs14.cell (p := ⟨w4.heap.size, 0, none⟩) l_x_13).trans c_x0_13
  have c_x1_14 : w14.cell? ⟨w4.heap.size, 1, none⟩ = some (.bool own) := (hs14.cell (p := ⟨w4.heap.size, 1, none⟩) l_x_13).trans c_x1_13
  have l_x_14 : w4.heap.size < w14.heap.size := Nat.lt_of_lt_of_le l_x_13 z14
  have HA_t_14 := hide (HA_t_13.out.all hs14)
  have HA_s_14 := hide (HA_s_13.out.all hs14)
  have HA_x_14 := hide (HA_x_13.out.all hs14)
  have HA_i_14 := hide (HA_i_13.out.all hs14)
  have HA_y_14 := hide (HA_y_13.out.all hs14)
  have HA_j_14 := hide ha_g14
  have hi_j_14 : g14 < w14.heap.size := ha_g14.lt
  clear c_aG0_13 c_aG1_13 l_aG_13 c_x0_13 c_x1_13 l_x_13 HA_t_13 HA_s_13 HA_x_13 HA_i_13 HA_y_13 ha_g14 hb14 hs14
  go_wp2_with fail
  refine (eqIntS_below _ _ _ _ _ R _ hm (by first | exact Src.of_arr HA_j_14.out | exact Src.of_arr (HA_j_14.out.alloc _) | exact Src.of_arr ((HA_j_14.out.alloc _).alloc _) | exact Src.of_arr HA_j_14.out.drew) (by first | exact Src.of_arr HA_s_14.out | exact Src.of_arr (HA_s_14.out.alloc _) | exact Src.of_arr ((HA_s_14.out.alloc _).alloc _) | exact Src.of_arr HA_s_14.out.drew)).mono ?_
  rintro e w15 ⟨rfl, hb15⟩
  have hs15 : Below w14.heap.size w14 w15 := (by go_grown : Below w14.heap.size w14 _).trans (hb15.mono (by go_size))
  have z15 : w14.heap.size ≤ w15.heap.size := hs15.size
  have HW15 := hide (HW14.out.trans (hs15.mono HW14.out.size))
  have c_aG0_15 : w15.cell? ⟨w.heap.size, 0, none⟩ = some (.slice A n c) := (hs15.cell (p := ⟨w.heap.size, 0, none⟩) l_aG_14).trans c_aG0_14
  have c_aG1_15 : w15.cell? ⟨w.heap.size, 1, none⟩ = some (.bool own) := (hs15.cell (p := ⟨w.heap.size, 1, none⟩) l_aG_14).trans c_aG1_14
  have l_aG_15 : w.heap.size < w15.heap.size := Nat.lt_of_lt_of_le l_aG_14 z15
  have c_x0_15 : w15.cell? ⟨w4.heap.size, 0, none⟩ = some (.slice (some ⟨g4, 0, none⟩) n n) := (hs15.cell (p := ⟨w4.heap.size, 0, none⟩) l_x_14).trans c_x0_14
  have c_x1_15 : w15.cell? ⟨w4.heap.size, 1, none⟩ = some (.bool own) := (hs15.cell (p := ⟨w4.heap.size, 1, none⟩) l_x_14).trans c_x1_14
  have l_x_15 : w4.heap.size < w15.heap.size := Nat.lt_of_lt_of_le l_x_14 z15
  have HA_t_15 := hide (HA_t_14.out.all hs15)
  have HA_s_15 := hide (HA_s_14.out.all hs15)
  have HA_x_15 := hide (HA_x_14.out.all hs15)
  have HA_i_15 := hide (HA_i_14.out.all hs15)
  have HA_y_15 := hide (HA_y_14.out.all hs15)
  have HA_j_15 := hide (HA_j_14.out.all hs15)
  clear c_aG0_14 c_aG1_14 l_aG_14 c_x0_14 c_x1_14 l_x_14 HA_t_14 HA_s_14 HA_x_14 HA_i_14 HA_y_14 HA_j_14 hb15 hs15
  go_wp2_with fail
  refine (heldIntS_below _ _ _ _ _ hm (by omega) (by omega) (by first | exact Src.of_arr HA_i_15.out | exact Src.of_arr (HA_i_15.out.alloc _) | exact Src.of_arr ((HA_i_15.out.alloc _).alloc _) | exact Src.of_arr HA_i_15.out.drew)).mono ?_
  rintro e w16 ⟨rfl, hb16⟩
  have hs16 : Below w15.heap.size w15 w16 := (by go_grown : Below w15.heap.size w15 _).trans (hb16.mono (by go_size))
  have z16 : w15.heap.size ≤ w16.heap.size := hs16.size
  have HW16 := hide (HW15.out.trans (hs16.mono HW15.out.size))
  have c_aG0_16 : w16.cell? ⟨w.heap.size, 0, none⟩ = some (.slice A n c) := (hs16.cell (p := ⟨w.heap.size, 0, none⟩) l_aG_15).trans c_aG0_15
  have c_aG1_16 : w16.cell? ⟨w.heap.size, 1, none⟩ = some (.bool own) := (hs16.cell (p := ⟨w.heap.size, 1, none⟩) l_aG_15).trans c_aG1_15
  have l_aG_16 : w.heap.size < w16.heap.size := Nat.lt_of_lt_of_le l_aG_15 z16
  have c_x0_16 : w16.cell? ⟨w4.heap.size, 0, none⟩ = some (.slice (some ⟨g4, 0, none⟩) n n) := (hs16.cell (p := ⟨w4.heap.size, 0, none⟩) l_x_15).trans c_x0_15
  have c_x1_16 : w16.cell? ⟨w4.heap.size, 1, none⟩ = some (.bool own) := (hs16.cell (p := ⟨w4.heap.size, 1, none⟩) l_x_15).trans c_x1_15
  have l_x_16 : w4.heap.size < w16.heap.size := Nat.lt_of_lt_of_le l_x_15 z16
  have HA_t_16 := hide (HA_t_15.out.all hs16)
  have HA_s_16 := hide (HA_s_15.out.all hs16)
  have HA_x_16 := hide (HA_x_15.out.all hs16)
  have HA_i_16 := hide (HA_i_15.out.all hs16)
  have HA_y_16 := hide (HA_y_15.out.all hs16)
  have HA_j_16 := hide (HA_j_15.out.all hs16)
  clear c_aG0_15 c_aG1_15 l_aG_15 c_x0_15 c_x1_15 l_x_15 HA_t_15 HA_s_15 HA_x_15 HA_i_15 HA_y_15 HA_j_15 hb16 hs16
  go_wp2
  go_ret
  exact ⟨rfl, by have h := HW16.out; have hz := h.size; go_grown⟩
theorem lawTM_no (A : Option Addr) (n c : Nat) (f : Nat → Int) (own : Bool)  (w : World) (hn2 : n ≤ 1048576) (HSP : Hid (∀ (g c : Nat) (w : World), Arr w 3 g n (iv f) → Calls Try.prog 9 #[.agg #[.slice (some ⟨g, 0, none⟩) n c, .bool own]] w (NoRes w))) (HIM : Hid (∀ (g c : Nat) (w : World), Arr w 3 g n (iv f) → Calls Try.prog 11 #[.agg #[.slice (some ⟨g, 0, none⟩) n c, .bool own]] w (NoRes w))) (HS_A : Hid (Src w A n (iv f))) :
    Calls Try.prog 3 #[.agg #[.slice A n c, .bool own]] w fun e w' => e = .returned (.bool true) ∧ Below w.heap.size w w' := by
  go_enter Try.func3, Try.ntmps3
  go_wp2_with fail
  refine (szGraph_ok _ _ _ _ _ _ (by omega) (by omega)).mono ?_
  rintro e w1 ⟨rfl, hb1⟩
  have hs1 : Below w.heap.size w w1 := (by go_grown : Below w.heap.size w _).trans (hb1.mono (by go_size))
  have z1 : w.heap.size ≤ w1.heap.size := hs1.size
  have HW1 := hide hs1
  have c_aG0_1 : w1.cell? ⟨w.heap.size, 0, none⟩ = some (.slice A n c) := (hb1.cell (p := ⟨w.heap.size, 0, none⟩) (by go_size)).trans (by simp [go_sem])
  have c_aG1_1 : w1.cell? ⟨w.heap.size, 1, none⟩ = some (.bool own) := (hb1.cell (p := ⟨w.heap.size, 1, none⟩) (by go_size)).trans (by simp [go_sem])
  have l_aG_1 : w.heap.size < w1.heap.size := Nat.lt_of_lt_of_le (by go_size) hb1.size
  clear  hb1 hs1
  go_wp2_with fail
  refine (toGraph_any _ _ _ f _ _ hn2 (by first | exact (HS_A.out.below HW1.out) | exact Src.alloc (HS_A.out.below HW1.out) _ | exact Src.alloc (Src.alloc (HS_A.out.below HW1.out) _) _ | exact Src.drew (HS_A.out.below HW1.out))).mono ?_
  rintro e w2 ⟨g2, rfl, lo_g2, ha2, hb2⟩
  try simp only [World.size_alloc] at lo_g2
  have hs2 : Below w1.heap.size w1 w2 := (by go_grown : Below w1.heap.size w1 _).trans (hb2.mono (by go_size))
  have z2 : w1.heap.size ≤ w2.heap.size := hs2.size
  have HW2 := hide (HW1.out.trans (hs2.mono HW1.out.size))
  have c_aG0_2 : w2.cell? ⟨w.heap.size, 0, none⟩ = some (.slice A n c) := (hs2.cell (p := ⟨w.heap.size, 0, none⟩) l_aG_1).trans c_aG0_1
  have c_aG1_2 : w2.cell? ⟨w.heap.size, 1, none⟩ = some (.bool own) := (hs2.cell (p := ⟨w.heap.size, 1, none⟩) l_aG_1).trans c_aG1_1
  have l_aG_2 : w.heap.size < w2.heap.size := Nat.lt_of_lt_of_le l_aG_1 z2
  have HA_t_2 := hide ha2
  have hi_t_2 : g2 < w2.heap.size := ha2.lt
  clear c_aG0_1 c_aG1_1 l_aG_1 ha2 hb2 hs2
  go_wp2_with fail
  refine (HSP.out _ _ _ (by first | exact HA_t_2.out | exact HA_t_2.out.alloc _ | exact (HA_t_2.out.alloc _).alloc _ | exact HA_t_2.out.drew)).mono ?_
  rintro e w3 ⟨rfl, hb3⟩
  have hs3 : Below w2.heap.size w2 w3 := (by go_grown : Below w2.heap.size w2 _).trans (hb3.mono (by go_size))
  have z3 : w2.heap.size ≤ w3.heap.size := hs3.size
  have HW3 := hide (HW2.out.trans (hs3.mono HW2.out.size))
  have c_aG0_3 : w3.cell? ⟨w.heap.size, 0, none⟩ = some (.slice A n c) := (hs3.cell (p := ⟨w.heap.size, 0, none⟩) l_aG_2).trans c_aG0_2
  have c_aG1_3 : w3.cell? ⟨w.heap.size, 1, none⟩ = some (.bool own) := (hs3.cell (p := ⟨w.heap.size, 1, none⟩) l_aG_2).trans c_aG1_2
  have l_aG_3 : w.heap.size < w3.heap.size := Nat.lt_of_lt_of_le l_aG_2 z3
  have HA_t_3 := hide (HA_t_2.out.all hs3)
  clear c_aG0_2 c_aG1_2 l_aG_2 HA_t_2 hb3 hs3
  go_wp2_with fail
  refine (toGraph_any _ _ _ f _ _ hn2 (by first | exact (HS_A.out.below HW3.out) | exact Src.alloc (HS_A.out.below HW3.out) _ | exact Src.alloc (Src.alloc (HS_A.out.below HW3.out) _) _ | exact Src.drew (HS_A.out.below HW3.out))).mono ?_
  rintro e w4 ⟨g4, rfl, lo_g4, ha4, hb4⟩
  try simp only [World.size_alloc] at lo_g4
  have hs4 : Below w3.heap.size w3 w4 := (by go_grown : Below w3.heap.size w3 _).trans (hb4.mono (by go_size))
  have z4 : w3.heap.size ≤ w4.heap.size := hs4.size
  have HW4 := hide (HW3.out.trans (hs4.mono HW3.out.size))
  have c_aG0_4 : w4.cell? ⟨w.heap.size, 0, none⟩ = some (.slice A n c) := (hs4.cell (p := ⟨w.heap.size, 0, none⟩) l_aG_3).trans c_aG0_3
  have c_aG1_4 : w4.cell? ⟨w.heap.size, 1, none⟩ = some (.bool own) := (hs4.cell (p := ⟨w.heap.size, 1, none⟩) l_aG_3).trans c_aG1_3
  have l_aG_4 : w.heap.size < w4.heap.size := Nat.lt_of_lt_of_le l_aG_3 z4
  have HA_t_4 := hide (HA_t_3.out.all hs4)
  have HA_x_4 := hide ha4
  have hi_x_4 : g4 < w4.heap.size := ha4.lt
  clear c_aG0_3 c_aG1_3 l_aG_3 HA_t_3 ha4 hb4 hs4
  go_wp2_with fail
  refine (HIM.out _ _ _ (by first | exact HA_x_4.out | exact HA_x_4.out.alloc _ | exact (HA_x_4.out.alloc _).alloc _ | exact HA_x_4.out.drew)).mono ?_
  rintro e w5 ⟨rfl, hb5⟩
  have hs5 : Below w4.heap.size w4 w5 := (by go_grown : Below w4.heap.size w4 _).trans (hb5.mono (by go_size))
  have z5 : w4.heap.size ≤ w5.heap.size := hs5.size
  have HW5 := hide (HW4.out.trans (hs5.mono HW4.out.size))
  have c_aG0_5 : w5.cell? ⟨w.heap.size, 0, none⟩ = some (.slice A n c) := (hs5.cell (p := ⟨w.heap.size, 0, none⟩) l_aG_4).trans c_aG0_4
  have c_aG1_5 : w5.cell? ⟨w.heap.size, 1, none⟩ = some (.bool own) := (hs5.cell (p := ⟨w.heap.size, 1, none⟩) l_aG_4).trans c_aG1_4
  have l_aG_5 : w.heap.size < w5.heap.size := Nat.lt_of_lt_of_le l_aG_4 z5
  have c_x0_5 : w5.cell? ⟨w4.heap.size, 0, none⟩ = some (.slice (some ⟨g4, 0, none⟩) n n) := (hb5.cell (p := ⟨w4.heap.size, 0, none⟩) (by go_size)).trans (by simp [go_sem])
  have c_x1_5 : w5.cell? ⟨w4.heap.size, 1, none⟩ = some (.bool own) := (hb5.cell (p := ⟨w4.heap.size, 1, none⟩) (by go_size)).trans (by simp [go_sem])
  have l_x_5 : w4.heap.size < w5.heap.size := Nat.lt_of_lt_of_le (by go_size) hb5.size
  have HA_t_5 := hide (HA_t_4.out.all hs5)
  have HA_x_5 := hide (HA_x_4.out.all hs5)
  clear c_aG0_4 c_aG1_4 l_aG_4 HA_t_4 HA_x_4 hb5 hs5
  go_wp2_with fail
  refine (eqIntS_below _ _ _ _ _ (fun _ => 0) _ (by omega) Src.nil Src.nil).mono ?_
  rintro e w6 ⟨rfl, hb6⟩
  have hs6 : Below w5.heap.size w5 w6 := (by go_grown : Below w5.heap.size w5 _).trans (hb6.mono (by go_size))
  have z6 : w5.heap.size ≤ w6.heap.size := hs6.size
  have HW6 := hide (HW5.out.trans (hs6.mono HW5.out.size))
  have c_aG0_6 : w6.cell? ⟨w.heap.size, 0, none⟩ = some (.slice A n c) := (hs6.cell (p := ⟨w.heap.size, 0, none⟩) l_aG_5).trans c_aG0_5
  have c_aG1_6 : w6.cell? ⟨w.heap.size, 1, none⟩ = some (.bool own) := (hs6.cell (p := ⟨w.heap.size, 1, none⟩) l_aG_5).trans c_aG1_5
  have l_aG_6 : w.heap.size < w6.heap.size := Nat.lt_of_lt_of_le l_aG_5 z6
  have c_x0_6 : w6.cell? ⟨w4.heap.size, 0, none⟩ = some (.slice (some ⟨g4, 0, none⟩) n n) := (hs6.cell (p := ⟨w4.heap.size, 0, none⟩) l_x_5).trans c_x0_5
  have c_x1_6 : w6.cell? ⟨w4.heap.size, 1, none⟩ = some (.bool own) := (hs6.cell (p := ⟨w4.heap.size, 1, none⟩) l_x_5).trans c_x1_5
  have l_x_6 : w4.heap.size < w6.heap.size := Nat.lt_of_lt_of_le l_x_5 z6
  have HA_t_6 := hide (HA_t_5.out.all hs6)
  have HA_x_6 := hide (HA_x_5.out.all hs6)
  clear c_aG0_5 c_aG1_5 l_aG_5 c_x0_5 c_x1_5 l_x_5 HA_t_5 HA_x_5 hb6 hs6
  go_wp2_with fail
  have KK : Hid (w6.drew.cell? ⟨w4.heap.size, 0, none⟩ = some (.slice (some ⟨g4, 0, none⟩) n n) ∧ w6.drew.cell? ⟨w4.heap.size, 1, none⟩ = some (.bool own) ∧ w6.drew.cell? ⟨w.heap.size, 0, none⟩ = some (.slice A n c) ∧ w6.drew.cell? ⟨w.heap.size, 1, none⟩ = some (.bool own)) := hide ⟨c_x0_6, c_x1_6, c_aG0_6, c_aG1_6⟩
  go_region_held3 (fun w' => w'.cell? ⟨w4.heap.size, 0, none⟩ = some (.slice (some ⟨g4, 0, none⟩) n n) ∧ w'.cell? ⟨w4.heap.size, 1, none⟩ = some (.bool own) ∧ w'.cell? ⟨w.heap.size, 0, none⟩ = some (.slice A n c) ∧ w'.cell? ⟨w.heap.size, 1, none⟩ = some (.bool own)) (first | exact KK.out | exact four_below (by assumption) KK.out | exact four_below (by assumption) (four_below (by assumption) KK.out)) (first | (go_at_call 10; refine (toGraph_any _ _ _ f _ _ hn2 (by exact Src.drew (HS_A.out.below HW6.out))).mono ?_; rintro e w7 ⟨g7, rfl, lo_g7, ha_r, hb7⟩; have HA_r := hide ha_r; clear ha_r) | (go_at_call 13; refine (eqGraph_true _ _ _ _ _ f _ _ hn2 (by exact Src.of_arr ((HA_x_6.out.drew).all hb7)) (by exact Src.of_arr HA_r.out)).mono ?_; rintro e w8 ⟨rfl, hb8⟩))
  have hbr : Below w6.heap.size w6 w8 := (Below.drew (Below.refl _ _)).trans (Below.trans hb7 (hb8.mono hb7.size))
  clear KK HA_r lo_g7 hb7 hb8
  have hb8 := hbr
  clear hbr
  have hs8 : Below w6.heap.size w6 w8 := (by go_grown : Below w6.heap.size w6 _).trans (hb8.mono (by go_size))
  have z8 : w6.heap.size ≤ w8.heap.size := hs8.size
  have HW8 := hide (HW6.out.trans (hs8.mono HW6.out.size))
  have c_aG0_8 : w8.cell? ⟨w.heap.size, 0, none⟩ = some (.slice A n c) := (hs8.cell (p := ⟨w.heap.size, 0, none⟩) l_aG_6).trans c_aG0_6
  have c_aG1_8 : w8.cell? ⟨w.heap.size, 1, none⟩ = some (.bool own) := (hs8.cell (p := ⟨w.heap.size, 1, none⟩) l_aG_6).trans c_aG1_6
  have l_aG_8 : w.heap.size < w8.heap.size := Nat.lt_of_lt_of_le l_aG_6 z8
  have c_x0_8 : w8.cell? ⟨w4.heap.size, 0, none⟩ = some (.slice (some ⟨g4, 0, none⟩) n n) := (hs8.cell (p := ⟨w4.heap.size, 0, none⟩) l_x_6).trans c_x0_6
  have c_x1_8 : w8.cell? ⟨w4.heap.size, 1, none⟩ = some (.bool own) := (hs8.cell (p := ⟨w4.heap.size, 1, none⟩) l_x_6).trans c_x1_6
  have l_x_8 : w4.heap.size < w8.heap.size := Nat.lt_of_lt_of_le l_x_6 z8
  have HA_t_8 := hide (HA_t_6.out.all hs8)
  have HA_x_8 := hide (HA_x_6.out.all hs8)
  clear c_aG0_6 c_aG1_6 l_aG_6 c_x0_6 c_x1_6 l_x_6 HA_t_6 HA_x_6 hb8 hs8
  go_wp2_with fail
  refine (markGraph_arr _ _ _ f _ _ _ hn2 (by omega) (by omega) (by first | exact HA_x_8.out | exact HA_x_8.out.alloc _ | exact (HA_x_8.out.alloc _).alloc _ | exact HA_x_8.out.drew)).mono ?_
  rintro e w9 ⟨rfl, ha_m, hb9⟩
  have hs9 : w8.grownBy w9 (some g4) := grownBy_trans (grownBy_of_below (by go_grown) _) hb9
  have z9 : w8.heap.size ≤ w9.heap.size := hs9.size
  have HW9 := hide (HW8.out.grown hs9 HW8.out.size (fun k hk => by injection hk with hk; have := HW8.out.size; omega))
  have c_aG0_9 : w9.cell? ⟨w.heap.size, 0, none⟩ = some (.slice A n c) := World.grownBy.cell hs9 c_aG0_8 (by intro h; injection h with h; simp at h; omega)
  have c_aG1_9 : w9.cell? ⟨w.heap.size, 1, none⟩ = some (.bool own) := World.grownBy.cell hs9 c_aG1_8 (by intro h; injection h with h; simp at h; omega)
  have l_aG_9 : w.heap.size < w9.heap.size := Nat.lt_of_lt_of_le l_aG_8 z9
  have c_x0_9 : w9.cell? ⟨w4.heap.size, 0, none⟩ = some (.slice (some ⟨g4, 0, none⟩) n n) := World.grownBy.cell hs9 c_x0_8 (by intro h; injection h with h; simp at h; omega)
  have c_x1_9 : w9.cell? ⟨w4.heap.size, 1, none⟩ = some (.bool own) := World.grownBy.cell hs9 c_x1_8 (by intro h; injection h with h; simp at h; omega)
  have l_x_9 : w4.heap.size < w9.heap.size := Nat.lt_of_lt_of_le l_x_8 z9
  have HA_t_9 := hide (HA_t_8.out.of_block (hs9.block g2 (HA_t_8.out.lt) (by intro h; injection h with h; omega)))
  have HA_x_9 := hide ha_m
  have hi_x_9 : g4 < w9.heap.size := ha_m.lt
  clear c_aG0_8 c_aG1_8 l_aG_8 c_x0_8 c_x1_8 l_x_8 HA_t_8 ha_m hb9 hs9
  go_wp2_with fail
  refine (eqIntS_below _ _ _ _ _ (fun _ => 0) _ (by omega) Src.nil Src.nil).mono ?_
  rintro e w10 ⟨rfl, hb10⟩
  have hs10 : Below w9.heap.size w9 w10 := (by go_grown : Below w9.heap.size w9 _).trans (hb10.mono (by go_size))
  have z10 : w9.heap.size ≤ w10.heap.size := hs10.size
  have HW10 := hide (HW9.out.trans (hs10.mono HW9.out.size))
  have c_aG0_10 : w10.cell? ⟨w.heap.size, 0, none⟩ = some (.slice A n c) := (hs10.cell (p := ⟨w.heap.size, 0, none⟩) l_aG_9).trans c_aG0_9
  have c_aG1_10 : w10.cell? ⟨w.heap.size, 1, none⟩ = some (.bool own) := (hs10.cell (p := ⟨w.heap.size, 1, none⟩) l_aG_9).trans c_aG1_9
  have l_aG_10 : w.heap.size < w10.heap.size := Nat.lt_of_lt_of_le l_aG_9 z10
  have c_x0_10 : w10.cell? ⟨w4.heap.size, 0, none⟩ = some (.slice (some ⟨g4, 0, none⟩) n n) := (hs10.cell (p := ⟨w4.heap.size, 0, none⟩) l_x_9).trans c_x0_9
  have c_x1_10 : w10.cell? ⟨w4.heap.size, 1, none⟩ = some (.bool own) := (hs10.cell (p := ⟨w4.heap.size, 1, none⟩) l_x_9).trans c_x1_9
  have l_x_10 : w4.heap.size < w10.heap.size := Nat.lt_of_lt_of_le l_x_9 z10
  have HA_t_10 := hide (HA_t_9.out.all hs10)
  have HA_x_10 := hide (HA_x_9.out.all hs10)
  clear c_aG0_9 c_aG1_9 l_aG_9 c_x0_9 c_x1_9 l_x_9 HA_t_9 HA_x_9 hb10 hs10
  go_wp2_with fail
  refine (markIntS_none_below _ _ _ _).mono ?_
  rintro e w11 ⟨rfl, hb11⟩
  have hs11 : Below w10.heap.size w10 w11 := (by go_grown : Below w10.heap.size w10 _).trans (hb11.mono (by go_size))
  have z11 : w10.heap.size ≤ w11.heap.size := hs11.size
  have HW11 := hide (HW10.out.trans (hs11.mono HW10.out.size))
  have c_aG0_11 : w11.cell? ⟨w.heap.size, 0, none⟩ = some (.slice A n c) := (hs11.cell (p := ⟨w.heap.size, 0, none⟩) l_aG_10).trans c_aG0_10
  have c_aG1_11 : w11.cell? ⟨w.heap.size, 1, none⟩ = some (.bool own) := (hs11.cell (p := ⟨w.heap.size, 1, none⟩) l_aG_10).trans c_aG1_10
  have l_aG_11 : w.heap.size < w11.heap.size := Nat.lt_of_lt_of_le l_aG_10 z11
  have c_x0_11 : w11.cell? ⟨w4.heap.size, 0, none⟩ = some (.slice (some ⟨g4, 0, none⟩) n n) := (hs11.cell (p := ⟨w4.heap.size, 0, none⟩) l_x_10).trans c_x0_10
  have c_x1_11 : w11.cell? ⟨w4.heap.size, 1, none⟩ = some (.bool own) := (hs11.cell (p := ⟨w4.heap.size, 1, none⟩) l_x_10).trans c_x1_10
  have l_x_11 : w4.heap.size < w11.heap.size := Nat.lt_of_lt_of_le l_x_10 z11
  have HA_t_11 := hide (HA_t_10.out.all hs11)
  have HA_x_11 := hide (HA_x_10.out.all hs11)
  clear c_aG0_10 c_aG1_10 l_aG_10 c_x0_10 c_x1_10 l_x_10 HA_t_10 HA_x_10 hb11 hs11
  go_wp2_with fail
  refine (heldIntS_below _ 0 _ _ _ (by omega) (by omega) (by omega) Src.nil).mono ?_
  rintro e w12 ⟨rfl, hb12⟩
  have hs12 : Below w11.heap.size w11 w12 := (by go_grown : Below w11.heap.size w11 _).trans (hb12.mono (by go_size))
  have z12 : w11.heap.size ≤ w12.heap.size := hs12.size
  have HW12 := hide (HW11.out.trans (hs12.mono HW11.out.size))
  have c_aG0_12 : w12.cell? ⟨w.heap.size, 0, none⟩ = some (.slice A n c) := (hs12.cell (p := ⟨w.heap.size, 0, none⟩) l_aG_11).trans c_aG0_11
  have c_aG1_12 : w12.cell? ⟨w.heap.size, 1, none⟩ = some (.bool own) := (hs12.cell (p := ⟨w.heap.size, 1, none⟩) l_aG_11).trans c_aG1_11
  have l_aG_12 : w.heap.size < w12.heap.size := Nat.lt_of_lt_of_le l_aG_11 z12
  have c_x0_12 : w12.cell? ⟨w4.heap.size, 0, none⟩ = some (.slice (some ⟨g4, 0, none⟩) n n) := (hs12.cell (p := ⟨w4.heap.size, 0, none⟩) l_x_11).trans c_x0_11
  have c_x1_12 : w12.cell? ⟨w4.heap.size, 1, none⟩ = some (.bool own) := (hs12.cell (p := ⟨w4.heap.size, 1, none⟩) l_x_11).trans c_x1_11
  have l_x_12 : w4.heap.size < w12.heap.size := Nat.lt_of_lt_of_le l_x_11 z12
  have HA_t_12 := hide (HA_t_11.out.all hs12)
  have HA_x_12 := hide (HA_x_11.out.all hs12)
  clear c_aG0_11 c_aG1_11 l_aG_11 c_x0_11 c_x1_11 l_x_11 HA_t_11 HA_x_11 hb12 hs12
  go_wp2_with fail
  refine (toGraph_any _ _ _ f _ _ hn2 (by first | exact (HS_A.out.below HW12.out) | exact Src.alloc (HS_A.out.below HW12.out) _ | exact Src.alloc (Src.alloc (HS_A.out.below HW12.out) _) _ | exact Src.drew (HS_A.out.below HW12.out))).mono ?_
  rintro e w13 ⟨g20, rfl, lo_g20, ha20, hb13⟩
  try simp only [World.size_alloc] at lo_g20
  have hs13 : Below w12.heap.size w12 w13 := (by go_grown : Below w12.heap.size w12 _).trans (hb13.mono (by go_size))
  have z13 : w12.heap.size ≤ w13.heap.size := hs13.size
  have HW13 := hide (HW12.out.trans (hs13.mono HW12.out.size))
  have c_aG0_13 : w13.cell? ⟨w.heap.size, 0, none⟩ = some (.slice A n c) := (hs13.cell (p := ⟨w.heap.size, 0, none⟩) l_aG_12).trans c_aG0_12
  have c_aG1_13 : w13.cell? ⟨w.heap.size, 1, none⟩ = some (.bool own) := (hs13.cell (p := ⟨w.heap.size, 1, none⟩) l_aG_12).trans c_aG1_12
  have l_aG_13 : w.heap.size < w13.heap.size := Nat.lt_of_lt_of_le l_aG_12 z13
  have c_x0_13 : w13.cell? ⟨w4.heap.size, 0, none⟩ = some (.slice (some ⟨g4, 0, none⟩) n n) := (hs13.cell (p := ⟨w4.heap.size, 0, none⟩) l_x_12).trans c_x0_12
  have c_x1_13 : w13.cell? ⟨w4.heap.size, 1, none⟩ = some (.bool own) := (hs13.cell (p := ⟨w4.heap.size, 1, none⟩) l_x_12).trans c_x1_12
  have l_x_13 : w4.heap.size < w13.heap.size := Nat.lt_of_lt_of_le l_x_12 z13
  have HA_t_13 := hide (HA_t_12.out.all hs13)
  have HA_x_13 := hide (HA_x_12.out.all hs13)
  have HA_y_13 := hide ha20
  have hi_y_13 : g20 < w13.heap.size := ha20.lt
  clear c_aG0_12 c_aG1_12 l_aG_12 c_x0_12 c_x1_12 l_x_12 HA_t_12 HA_x_12 ha20 hb13 hs13
  go_wp2_with fail
  refine (HIM.out _ _ _ (by first | exact HA_y_13.out | exact HA_y_13.out.alloc _ | exact (HA_y_13.out.alloc _).alloc _ | exact HA_y_13.out.drew)).mono ?_
  rintro e w14 ⟨rfl, hb14⟩
  have hs14 : Below w13.heap.size w13 w14 := (by go_grown : Below w13.heap.size w13 _).trans (hb14.mono (by go_size))
  have z14 : w13.heap.size ≤ w14.heap.size := hs14.size
  have HW14 := hide (HW13.out.trans (hs14.mono HW13.out.size))
  have c_aG0_14 : w14.cell? ⟨w.heap.size, 0, none⟩ = some (.slice A n c) := (hs14.cell (p := ⟨w.heap.size, 0, none⟩) l_aG_13).trans c_aG0_13
  have c_aG1_14 : w14.cell? ⟨w.heap.size, 1, none⟩ = some (.bool own) := (hs14.cell (p := ⟨w.heap.size, 1, none⟩) l_aG_13).trans c_aG1_13
  have l_aG_14 : w.heap.size < w14.heap.size := Nat.lt_of_lt_of_le l_aG_13 z14
  have c_x0_14 : w14.cell? ⟨w4.heap.size, 0, none⟩ = some (.slice (some ⟨g4, 0, none⟩) n n) := (hs14.cell (p := ⟨w4.heap.size, 0, none⟩) l_x_13).trans c_x0_13
  have c_x1_14 : w14.cell? ⟨w4.heap.size, 1, none⟩ = some (.bool own) := (hs14.cell (p := ⟨w4.heap.size, 1, none⟩) l_x_13).trans c_x1_13
  have l_x_14 : w4.heap.size < w14.heap.size := Nat.lt_of_lt_of_le l_x_13 z14
  have HA_t_14 := hide (HA_t_13.out.all hs14)
  have HA_x_14 := hide (HA_x_13.out.all hs14)
  have HA_y_14 := hide (HA_y_13.out.all hs14)
  clear c_aG0_13 c_aG1_13 l_aG_13 c_x0_13 c_x1_13 l_x_13 HA_t_13 HA_x_13 HA_y_13 hb14 hs14
  go_wp2_with fail
  refine (eqIntS_below _ _ _ _ _ (fun _ => 0) _ (by omega) Src.nil Src.nil).mono ?_
  rintro e w15 ⟨rfl, hb15⟩
  have hs15 : Below w14.heap.size w14 w15 := (by go_grown : Below w14.heap.size w14 _).trans (hb15.mono (by go_size))
  have z15 : w14.heap.size ≤ w15.heap.size := hs15.size
  have HW15 := hide (HW14.out.trans (hs15.mono HW14.out.size))
  have c_aG0_15 : w15.cell? ⟨w.heap.size, 0, none⟩ = some (.slice A n c) := (hs15.cell (p := ⟨w.heap.size, 0, none⟩) l_aG_14).trans c_aG0_14
  have c_aG1_15 : w15.cell? ⟨w.heap.size, 1, none⟩ = some (.bool own) := (hs15.cell (p := ⟨w.heap.size, 1, none⟩) l_aG_14).trans c_aG1_14
  have l_aG_15 : w.heap.size < w15.heap.size := Nat.lt_of_lt_of_le l_aG_14 z15
  have c_x0_15 : w15.cell? ⟨w4.heap.size, 0, none⟩ = some (.slice (some ⟨g4, 0, none⟩) n n) := (hs15.cell (p := ⟨w4.heap.size, 0, none⟩) l_x_14).trans c_x0_14
  have c_x1_15 : w15.cell? ⟨w4.heap.size, 1, none⟩ = some (.bool own) := (hs15.cell (p := ⟨w4.heap.size, 1, none⟩) l_x_14).trans c_x1_14
  have l_x_15 : w4.heap.size < w15.heap.size := Nat.lt_of_lt_of_le l_x_14 z15
  have HA_t_15 := hide (HA_t_14.out.all hs15)
  have HA_x_15 := hide (HA_x_14.out.all hs15)
  have HA_y_15 := hide (HA_y_14.out.all hs15)
  clear c_aG0_14 c_aG1_14 l_aG_14 c_x0_14 c_x1_14 l_x_14 HA_t_14 HA_x_14 HA_y_14 hb15 hs15
  go_wp2_with fail
  refine (heldIntS_below _ 0 _ _ _ (by omega) (by omega) (by omega) Src.nil).mono ?_
  rintro e w16 ⟨rfl, hb16⟩
  have hs16 : Below w15.heap.size w15 w16 := (by go_grown : Below w15.heap.size w15 _).trans (hb16.mono (by go_size))
  have z16 : w15.heap.size ≤ w16.heap.size := hs16.size
  have HW16 := hide (HW15.out.trans (hs16.mono HW15.out.size))
  have c_aG0_16 : w16.cell? ⟨w.heap.size, 0, none⟩ = some (.slice A n c) := (hs16.cell (p := ⟨w.heap.size, 0, none⟩) l_aG_15).trans c_aG0_15
  have c_aG1_16 : w16.cell? ⟨w.heap.size, 1, none⟩ = some (.bool own) := (hs16.cell (p := ⟨w.heap.size, 1, none⟩) l_aG_15).trans c_aG1_15
  have l_aG_16 : w.heap.size < w16.heap.size := Nat.lt_of_lt_of_le l_aG_15 z16
  have c_x0_16 : w16.cell? ⟨w4.heap.size, 0, none⟩ = some (.slice (some ⟨g4, 0, none⟩) n n) := (hs16.cell (p := ⟨w4.heap.size, 0, none⟩) l_x_15).trans c_x0_15
  have c_x1_16 : w16.cell? ⟨w4.heap.size, 1, none⟩ = some (.bool own) := (hs16.cell (p := ⟨w4.heap.size, 1, none⟩) l_x_15).trans c_x1_15
  have l_x_16 : w4.heap.size < w16.heap.size := Nat.lt_of_lt_of_le l_x_15 z16
  have HA_t_16 := hide (HA_t_15.out.all hs16)
  have HA_x_16 := hide (HA_x_15.out.all hs16)
  have HA_y_16 := hide (HA_y_15.out.all hs16)
  clear c_aG0_15 c_aG1_15 l_aG_15 c_x0_15 c_x1_15 l_x_15 HA_t_15 HA_x_15 HA_y_15 hb16 hs16
  go_wp2
  go_ret
  exact ⟨rfl, by have h := HW16.out; have hz := h.size; go_grown⟩
theorem lawTM_big (A : Option Addr) (n c : Nat) (own : Bool)  (w : World) (hn : n ≤ 9223372036854775807) (hbig : 1048576 < n) :
    Calls Try.prog 3 #[.agg #[.slice A n c, .bool own]] w fun e w' => e = .returned (.bool true) ∧ Below w.heap.size w w' := by
  have hbig' : (1048576 : Int) < n := by omega
  go_enter Try.func3, Try.ntmps3
  go_wp2_with (go_at_call 8; refine (szGraph_big _ _ _ _ _ _ hn hbig' (by omega) (by omega)).mono ?_; rintro e w' ⟨rfl, hb⟩)
  go_ret
  exact ⟨rfl, (by go_grown : Below w.heap.size w _).trans (hb.mono (by simp))⟩
theorem lawToggleMap (A : Option Addr) (n c : Nat) (f : Nat → Int) (own : Bool) (w : World) (hn : n ≤ 9223372036854775807) (hs : Src w A n (iv f)) :
    Calls Try.prog 3 #[.agg #[.slice A n c, .bool own]] w fun e w' => e = .returned (.bool true) ∧ Below w.heap.size w w' := by
  by_cases hbig : 1048576 < n
  · exact lawTM_big A n c own w hn hbig
  · cases hg : goodB n f
    · exact lawTM_no A n c f own w (by omega) (hide fun g c w ha => tmSpec_no g n c f own w (by omega) hg ha) (hide fun g c w ha => tmImpl_no g n c f own w (by omega) hg ha) (hide hs)
    · obtain ⟨F, he, h2, h16, hG⟩ := good_nat (goodB_iff.1 hg)
      have hg2 := goodB_yes hG
      exact lawTM_arr A n c f own n _ (by omega) w (by omega) (hide fun g c w ha => tmSpec_ok g n c F own w hG.1 hG.2.1 h16 hg2 (ha.congr fun k hk => by simp only [iv]; rw [he k hk])) (hide fun g c w ha => tmImpl_ok g n c F own w hG.1 hG.2.1 h16 hg2 (ha.congr fun k hk => by simp only [iv]; rw [he k hk])) (hide hs)
end Go.Proofs.Ytdpoceijnbbmgaa
