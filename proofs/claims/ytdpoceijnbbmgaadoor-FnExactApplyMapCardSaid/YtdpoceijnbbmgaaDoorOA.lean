/-
ApplyMap: both sides, and the statement, walked.
-/
import Derived.Test.YtdpoceijnbbmgaaDoorOI
namespace Go.Proofs.YtdpoceijnbbmgaaDoor
open Go.RowKit
set_option maxHeartbeats 4000000
theorem field_map (A : Option Addr) (n c : Nat) (w : World) : Sem.run Tryd.prog (Instr.field 61 (.agg #[.slice A n c]) 0) w = .ok (.slice A n c) w := by kernel_rfl
theorem apSpec_a (A : Option Addr) (n c : Nat) (f : Nat → Int) (x : Int) (w : World) (hn : n ≤ 1048576) (hs : Src w A n (iv f)) (h : mapB n f = false) :
    Calls Tryd.prog 18 #[.slice A n c, .int .i64 x] w fun e w' => e = .returned (.tuple #[.int .i64 0, .bool false]) ∧ Below w.heap.size w w' := by
  have HS := hide hs
  have H := hide h
  clear hs h
  go_enter Tryd.func18, Tryd.ntmps18
  go_wp2_with fail
  refine (prGood_any _ _ _ f _ (by omega) HS.out).mono ?_
  rintro e w1 ⟨rfl, hw⟩
  subst w1
  have hb1 : Below w.heap.size w w := Below.refl _ _
  rw [H.out]
  go_wp2
  go_ret2
  exact ⟨rfl, hb1⟩
theorem apSpec_b (A : Option Addr) (n c : Nat) (F : Nat → Nat) (x : Int) (w : World) (h1 : 1 ≤ n) (hn16 : n ≤ 16) (hF : ∀ k, k < n → F k < 2 ^ n) (hs : Src w A n (iv (nv F))) (hx : inB x 0 (2 ^ n - 1) = false) :
    Calls Tryd.prog 18 #[.slice A n c, .int .i64 x] w fun e w' => e = .returned (.tuple #[.int .i64 0, .bool false]) ∧ Below w.heap.size w w' := by
  have HS := hide hs
  have H := hide (mapB_of h1 hn16 hF)
  have HX := hide hx
  have hn40 : n ≤ 40 := by omega
  have e1 := wr_pow hn16
  have e2 := wr_pow1 hn16
  clear hs hF hx
  go_enter Tryd.func18, Tryd.ntmps18
  go_wp2_with fail
  refine (prGood_any _ _ _ (nv F) _ (by omega) HS.out).mono ?_
  rintro e w1 ⟨rfl, hw⟩
  subst w1
  have hb1 : Below w.heap.size w w := Below.refl _ _
  rw [H.out]
  go_wp2_with fail
  refine (l1InG_any _ _ _ _).mono ?_
  rintro e w' ⟨rfl, hw⟩
  subst w'
  rw [HX.out]
  go_wp2
  go_ret2
  exact ⟨rfl, hb1⟩
theorem apSpec_ok (A : Option Addr) (n c p : Nat) (F : Nat → Nat) (w : World) (h1 : 1 ≤ n) (hn16 : n ≤ 16) (hF : ∀ k, k < n → F k < 2 ^ n) (hs : Src w A n (iv (nv F))) (hp : p < 2 ^ n) (hx : inB (p : Nat) 0 (2 ^ n - 1) = true) :
    Calls Tryd.prog 18 #[.slice A n c, .int .i64 p] w fun e w' => e = .returned (.tuple #[.int .i64 (effN F p n : Nat), .bool true]) ∧ Below w.heap.size w w' := by
  have HS := hide hs
  have H := hide (mapB_of h1 hn16 hF)
  have HX := hide hx
  have HF := hide hF
  have HP := hide hp

  have hn40 : n ≤ 40 := by omega
  have e1 := wr_pow hn16
  have e2 := wr_pow1 hn16
  clear hs hF hx hp
  go_enter Tryd.func18, Tryd.ntmps18
  go_wp2_with fail
  refine (prGood_any _ _ _ (nv F) _ (by omega) HS.out).mono ?_
  rintro e w1 ⟨rfl, hw⟩
  subst w1
  have hb1 : Below w.heap.size w w := Below.refl _ _
  rw [H.out]
  go_wp2_with fail
  refine (l1InG_any _ _ _ _).mono ?_
  rintro e w' ⟨rfl, hw⟩
  subst w'
  rw [HX.out]
  go_wp2_with fail
  refine (prApply_any _ _ _ _ F _ (by omega) HP.out HS.out HF.out).mono ?_
  rintro e w' ⟨rfl, hw⟩
  subst w'
  go_wp2
  go_ret2
  exact ⟨rfl, hb1⟩
theorem apImpl_a (A : Option Addr) (n c : Nat) (f : Nat → Int) (x : Int) (w : World) (hn : n ≤ 1048576) (hs : Src w A n (iv f)) (h : mapB n f = false) :
    Calls Tryd.prog 20 #[.slice A n c, .int .i64 x] w fun e w' => e = .returned (.tuple #[.int .i64 0, .bool false]) ∧ Below w.heap.size w w' := by
  have HS := hide hs
  have H := hide h
  clear hs h
  go_enter Tryd.func20, Tryd.ntmps20
  go_wp2_with fail
  refine (isMap_any _ _ _ f _ (by omega) HS.out).mono ?_
  rintro e w1 ⟨rfl, hb1⟩
  rw [H.out]
  go_wp2
  go_ret2
  exact ⟨rfl, hb1⟩
theorem apImpl_b (A : Option Addr) (n c : Nat) (F : Nat → Nat) (x : Int) (w : World) (h1 : 1 ≤ n) (hn16 : n ≤ 16) (hF : ∀ k, k < n → F k < 2 ^ n) (hs : Src w A n (iv (nv F))) (hx : inB x 0 (2 ^ n - 1) = false) :
    Calls Tryd.prog 20 #[.slice A n c, .int .i64 x] w fun e w' => e = .returned (.tuple #[.int .i64 0, .bool false]) ∧ Below w.heap.size w w' := by
  have HS := hide hs
  have H := hide (mapB_of h1 hn16 hF)
  have HX := hide hx
  have hn40 : n ≤ 40 := by omega
  have e1 := wr_pow hn16
  have e2 := wr_pow1 hn16
  clear hs hF hx
  go_enter Tryd.func20, Tryd.ntmps20
  go_wp2_with fail
  refine (isMap_any _ _ _ (nv F) _ (by omega) HS.out).mono ?_
  rintro e w1 ⟨rfl, hb1⟩
  rw [H.out]
  go_wp2_with fail
  refine (isSetOf_any _ _ _ hn16).mono ?_
  rintro e w' ⟨rfl, hw⟩
  subst w'
  rw [HX.out]
  go_wp2
  go_ret2
  exact ⟨rfl, hb1⟩
theorem apImpl_ok (A : Option Addr) (n c p : Nat) (F : Nat → Nat) (w : World) (h1 : 1 ≤ n) (hn16 : n ≤ 16) (hF : ∀ k, k < n → F k < 2 ^ n) (hT : Tab w) (hs : Src w A n (iv (nv F))) (hp : p < 2 ^ n) (hx : inB (p : Nat) 0 (2 ^ n - 1) = true) :
    Calls Tryd.prog 20 #[.slice A n c, .int .i64 p] w fun e w' => e = .returned (.tuple #[.int .i64 (effN F p n : Nat), .bool true]) ∧ Below w.heap.size w w' := by
  have HS := hide hs
  have H := hide (mapB_of h1 hn16 hF)
  have HX := hide hx
  have HF := hide hF
  have HP := hide hp
  have HT := hide hT
  have hn40 : n ≤ 40 := by omega
  have e1 := wr_pow hn16
  have e2 := wr_pow1 hn16
  clear hs hF hx hp hT
  go_enter Tryd.func20, Tryd.ntmps20
  go_wp2_with fail
  refine (isMap_any _ _ _ (nv F) _ (by omega) HS.out).mono ?_
  rintro e w1 ⟨rfl, hb1⟩
  rw [H.out]
  go_wp2_with fail
  refine (isSetOf_any _ _ _ hn16).mono ?_
  rintro e w' ⟨rfl, hw⟩
  subst w'
  rw [HX.out]
  go_wp2_with fail
  refine (setMapWith_any _ _ _ F _ (by omega) (HS.out.below hb1)).mono ?_
  rintro e w2 ⟨g, rfl, hg, ha, hb2⟩
  have HA := hide ha
  have HB := hide (hb1.trans (hb2.mono hb1.size))
  have hfd := field_map (some ⟨g, 0, none⟩) n n
  clear ha hb1 hb2 e1 e2
  go_wp2_with fail
  refine (of_any (some ⟨g, 0, none⟩) n n p F _ h1 hn40 HP.out (HT.out.below HB.out) (Src.of_arr HA.out) HF.out).mono ?_
  rintro e w3 ⟨rfl, hb3⟩
  have HB3 := hide (HB.out.trans (hb3.mono HB.out.size))
  go_wp2
  go_ret2
  exact ⟨rfl, HB3.out⟩
theorem lawAp_pair (A1 : Option Addr) (n1 c1 : Nat) (f1 : Nat → Int) (x2 : Int) (v : Int) (ok : Bool) (w : World) (hm1 : n1 ≤ 1048576) (HSP : Hid (∀ (A1 : Option Addr) (c1 : Nat) (w : World), Src w A1 n1 (iv f1) → Calls Tryd.prog 18 #[.slice A1 n1 c1, .int .i64 x2] w (fun e w' => e = .returned (.tuple #[.int .i64 v, .bool ok]) ∧ Below w.heap.size w w'))) (HIM : Hid (∀ (A1 : Option Addr) (c1 : Nat) (w : World), Tab w → Src w A1 n1 (iv f1) → Calls Tryd.prog 20 #[.slice A1 n1 c1, .int .i64 x2] w (fun e w' => e = .returned (.tuple #[.int .i64 v, .bool ok]) ∧ Below w.heap.size w w'))) (HS_A1 : Hid (Src w A1 n1 (iv f1))) (HT : Hid (Tab w)) :
    Calls Tryd.prog 4 #[.slice A1 n1 c1, .int .i64 x2] w fun e w' => e = .returned (.bool true) ∧ Below w.heap.size w w' := by
  go_enter Tryd.func4, Tryd.ntmps4
  go_wp2_with fail
  refine (toIntS_new _ _ _ f1 _ hm1 (by first | exact HS_A1.out | exact Src.alloc HS_A1.out _ | exact Src.alloc (Src.alloc HS_A1.out _) _ | exact Src.drew HS_A1.out)).mono ?_
  rintro e w1 ⟨g1, rfl, lo_g1, ha_r, hb1⟩
  try simp only [World.size_alloc] at lo_g1
  have hs1 : Below w.heap.size w w1 := (by go_grown : Below w.heap.size w _).trans (hb1.mono (by go_size))
  have z1 : w.heap.size ≤ w1.heap.size := hs1.size
  have HW1 := hide hs1
  have HA_a1_1 := hide ha_r
  have hi_a1_1 : g1 < w1.heap.size := ha_r.lt
  clear ha_r hb1 hs1
  go_wp2_with fail
  refine (HSP.out _ _ _ (by first | exact Src.of_arr HA_a1_1.out | exact Src.of_arr (HA_a1_1.out.alloc _) | exact Src.of_arr ((HA_a1_1.out.alloc _).alloc _) | exact Src.of_arr HA_a1_1.out.drew)).mono ?_
  rintro e w2 ⟨rfl, hb2⟩
  have hs2 : Below w1.heap.size w1 w2 := (by go_grown : Below w1.heap.size w1 _).trans (hb2.mono (by go_size))
  have z2 : w1.heap.size ≤ w2.heap.size := hs2.size
  have HW2 := hide (HW1.out.trans (hs2.mono HW1.out.size))
  have HA_a1_2 := hide (HA_a1_1.out.all hs2)
  clear HA_a1_1 hb2 hs2
  go_wp2_with fail
  refine (toIntS_new _ _ _ f1 _ hm1 (by first | exact (HS_A1.out.below HW2.out) | exact Src.alloc (HS_A1.out.below HW2.out) _ | exact Src.alloc (Src.alloc (HS_A1.out.below HW2.out) _) _ | exact Src.drew (HS_A1.out.below HW2.out))).mono ?_
  rintro e w3 ⟨g3, rfl, lo_g3, ha_r, hb3⟩
  try simp only [World.size_alloc] at lo_g3
  have hs3 : Below w2.heap.size w2 w3 := (by go_grown : Below w2.heap.size w2 _).trans (hb3.mono (by go_size))
  have z3 : w2.heap.size ≤ w3.heap.size := hs3.size
  have HW3 := hide (HW2.out.trans (hs3.mono HW2.out.size))
  have HA_a1_3 := hide (HA_a1_2.out.all hs3)
  have HA_x1_3 := hide ha_r
  have hi_x1_3 : g3 < w3.heap.size := ha_r.lt
  clear HA_a1_2 ha_r hb3 hs3
  go_wp2_with fail
  refine (HIM.out _ _ _ (by first | exact (HT.out.below HW3.out) | exact Tab.below (HT.out.below HW3.out) (by go_grown)) (by first | exact Src.of_arr HA_x1_3.out | exact Src.of_arr (HA_x1_3.out.alloc _) | exact Src.of_arr ((HA_x1_3.out.alloc _).alloc _) | exact Src.of_arr HA_x1_3.out.drew)).mono ?_
  rintro e w4 ⟨rfl, hb4⟩
  have hs4 : Below w3.heap.size w3 w4 := (by go_grown : Below w3.heap.size w3 _).trans (hb4.mono (by go_size))
  have z4 : w3.heap.size ≤ w4.heap.size := hs4.size
  have HW4 := hide (HW3.out.trans (hs4.mono HW3.out.size))
  have HA_a1_4 := hide (HA_a1_3.out.all hs4)
  have HA_x1_4 := hide (HA_x1_3.out.all hs4)
  clear HA_a1_3 HA_x1_3 hb4 hs4
  go_wp2_with fail
  refine (toIntS_new _ _ _ f1 _ hm1 (by first | exact (HS_A1.out.below HW4.out) | exact Src.alloc (HS_A1.out.below HW4.out) _ | exact Src.alloc (Src.alloc (HS_A1.out.below HW4.out) _) _ | exact Src.drew (HS_A1.out.below HW4.out))).mono ?_
  rintro e w5 ⟨g5, rfl, lo_g5, ha_r, hb5⟩
  try simp only [World.size_alloc] at lo_g5
  have hs5 : Below w4.heap.size w4 w5 := (by go_grown : Below w4.heap.size w4 _).trans (hb5.mono (by go_size))
  have z5 : w4.heap.size ≤ w5.heap.size := hs5.size
  have HW5 := hide (HW4.out.trans (hs5.mono HW4.out.size))
  have HA_a1_5 := hide (HA_a1_4.out.all hs5)
  have HA_x1_5 := hide (HA_x1_4.out.all hs5)
  have HA_z1_5 := hide ha_r
  have hi_z1_5 : g5 < w5.heap.size := ha_r.lt
  clear HA_a1_4 HA_x1_4 ha_r hb5 hs5
  go_wp2_with fail
  refine (eqIntS_below _ _ _ _ _ f1 _ hm1 (by first | exact Src.of_arr HA_x1_5.out | exact Src.of_arr (HA_x1_5.out.alloc _) | exact Src.of_arr ((HA_x1_5.out.alloc _).alloc _) | exact Src.of_arr HA_x1_5.out.drew) (by first | exact Src.of_arr HA_z1_5.out | exact Src.of_arr (HA_z1_5.out.alloc _) | exact Src.of_arr ((HA_z1_5.out.alloc _).alloc _) | exact Src.of_arr HA_z1_5.out.drew)).mono ?_
  rintro e w6 ⟨rfl, hb6⟩
  have hs6 : Below w5.heap.size w5 w6 := (by go_grown : Below w5.heap.size w5 _).trans (hb6.mono (by go_size))
  have z6 : w5.heap.size ≤ w6.heap.size := hs6.size
  have HW6 := hide (HW5.out.trans (hs6.mono HW5.out.size))
  have HA_a1_6 := hide (HA_a1_5.out.all hs6)
  have HA_x1_6 := hide (HA_x1_5.out.all hs6)
  have HA_z1_6 := hide (HA_z1_5.out.all hs6)
  clear HA_a1_5 HA_x1_5 HA_z1_5 hb6 hs6
  go_wp2
  go_ret
  exact ⟨rfl, by have h := HW6.out; have hz := h.size; go_grown⟩
theorem lawAp_big1 (A1 : Option Addr) (n1 c1 : Nat) (f1 : Nat → Int) (x2 : Int) (w : World)  (hn1 : n1 ≤ 9223372036854775807) (hbig : 1048576 < n1) :
    Calls Tryd.prog 4 #[.slice A1 n1 c1, .int .i64 x2] w fun e w' => e = .returned (.bool true) ∧ Below w.heap.size w w' := by
  have hbig' : (1048576 : Int) < n1 := by omega
  go_enter Tryd.func4, Tryd.ntmps4
  go_wp2
  go_ret
  exact ⟨rfl, by go_grown⟩
theorem in_pow {n : Nat} {x : Int} (h : inB x 0 (2 ^ n - 1) = true) : ∃ p : Nat, x = p ∧ p < 2 ^ n := by
  simp only [inB, decide_eq_true_eq] at h
  rw [pow_i] at h
  exact ⟨x.toNat, by omega, by omega⟩
theorem lawApplyMap (A1 : Option Addr) (n1 c1 : Nat) (f1 : Nat → Int) (x : Int) (w : World) (hn1 : n1 ≤ 9223372036854775807) (hs1 : Src w A1 n1 (iv f1)) (hT : Tab w) :
    Calls Tryd.prog 4 #[.slice A1 n1 c1, .int .i64 x] w fun e w' => e = .returned (.bool true) ∧ Below w.heap.size w w' := by
  by_cases b1 : 1048576 < n1
  · exact lawAp_big1 A1 n1 c1 f1 x w hn1 b1
  cases hk : mapB n1 f1
  · exact lawAp_pair A1 n1 c1 f1 x 0 false w (by omega) (hide fun A1 c1 w h1 => apSpec_a A1 n1 c1 f1 x w (by omega) h1 hk) (hide fun A1 c1 w _ h1 => apImpl_a A1 n1 c1 f1 x w (by omega) h1 hk) (hide hs1) (hide hT)
  · obtain ⟨h1, h16, F, eF, hF⟩ := mapB_nat hk
    cases hx : inB x 0 (2 ^ n1 - 1)
    · exact lawAp_pair A1 n1 c1 f1 x 0 false w (by omega) (hide fun A1 c1 w h1' => apSpec_b A1 n1 c1 F x w h1 h16 hF (h1'.nat eF) hx) (hide fun A1 c1 w _ h1' => apImpl_b A1 n1 c1 F x w h1 h16 hF (h1'.nat eF) hx) (hide hs1) (hide hT)
    · obtain ⟨p, rfl, hp⟩ := in_pow hx
      exact lawAp_pair A1 n1 c1 f1 p _ true w (by omega) (hide fun A1 c1 w h1' => apSpec_ok A1 n1 c1 p F w h1 h16 hF (h1'.nat eF) hp hx) (hide fun A1 c1 w ht h1' => apImpl_ok A1 n1 c1 p F w h1 h16 hF ht (h1'.nat eF) hp hx) (hide hs1) (hide hT)
end Go.Proofs.YtdpoceijnbbmgaaDoor
