/-
The statement of NullityOfMap, walked.
-/
import Derived.Test.YtdpoceijnbbmgaaNB
import Derived.Test.YtdpoceijnbbmgaaAL
import Derived.Test.YtdpoceijnbbmgaaMD
namespace Go.Proofs.Ytdpoceijnbbmgaa
open Go.RowKit
set_option maxHeartbeats 4000000
def NewInts (w : World) (n : Nat) (f : Nat → Int) (e : Ending) (w' : World) : Prop :=
  ∃ g, e = .returned (.slice (some ⟨g, 0, none⟩) n n) ∧ w.heap.size ≤ g ∧ Arr w' 3 g n (iv f) ∧ Below w.heap.size w w'
theorem toIntS_new (A : Option Addr) (n c : Nat) (f : Nat → Int) (w : World) (hn : n ≤ 1048576) (hs : Src w A n (iv f)) :
    Calls Try.prog 18 #[.slice A n c] w (NewInts w n f) :=
  (toIntS_any A n c f w hn hs).mono fun _ _ ⟨h1, h2, h3⟩ => ⟨_, h1, Nat.le_refl _, h2, h3⟩
theorem nmSpec_no (A : Option Addr) (n c : Nat) (f : Nat → Int) (w : World) (hn : n ≤ 1048576) (hs : Src w A n (iv f)) (h : mapB n f = false) :
    Calls Try.prog 20 #[.slice A n c] w fun e w' => e = .returned (.tuple #[.int .i64 0, .bool false]) ∧ Below w.heap.size w w' := by
  have HS := hide hs
  have H := hide h
  clear hs h
  go_enter Try.func20, Try.ntmps20
  go_wp2_with fail
  refine (prGood_any _ _ _ f _ hn HS.out).mono ?_
  rintro e w' ⟨rfl, hw⟩
  subst w'
  rw [H.out]
  go_wp2
  go_ret2
  exact ⟨rfl, Below.refl _ _⟩
theorem nmImpl_no (A : Option Addr) (n c : Nat) (f : Nat → Int) (w : World) (hn : n ≤ 1048576) (hs : Src w A n (iv f)) (h : mapB n f = false) :
    Calls Try.prog 21 #[.slice A n c] w fun e w' => e = .returned (.tuple #[.int .i64 0, .bool false]) ∧ Below w.heap.size w w' := by
  have HS := hide hs
  have H := hide h
  clear hs h
  go_enter Try.func21, Try.ntmps21
  go_wp2_with fail
  refine (isMap_any _ _ _ f _ hn HS.out).mono ?_
  rintro e w1 ⟨rfl, hb⟩
  rw [H.out]
  go_wp2
  go_ret2
  exact ⟨rfl, hb⟩
theorem nmSpec_ok (A : Option Addr) (n c : Nat) (F : Nat → Nat) (w : World) (h1 : 1 ≤ n) (hn : n ≤ 16) (hF : ∀ k, k < n → F k < 2 ^ n) (hs : Src w A n (iv (nv F))) :
    Calls Try.prog 20 #[.slice A n c] w fun e w' => e = .returned (.tuple #[.int .i64 (nl n F : Nat), .bool true]) ∧ Below w.heap.size w w' := by
  have HS := hide hs
  have H := hide (mapB_of h1 hn hF)
  have HF := hide hF
  clear hs hF
  go_enter Try.func20, Try.ntmps20
  go_wp2_with fail
  refine (prGood_any _ _ _ (nv F) _ (by omega) HS.out).mono ?_
  rintro e w' ⟨rfl, hw⟩
  subst w'
  rw [H.out]
  go_wp2_with fail
  refine (prNullity_any _ _ _ F _ (by omega) HF.out HS.out).mono ?_
  rintro e w2 ⟨rfl, hb⟩
  go_wp2
  go_ret2
  exact ⟨rfl, hb⟩
theorem nmImpl_ok (A : Option Addr) (n c : Nat) (F : Nat → Nat) (w : World) (h1 : 1 ≤ n) (hn : n ≤ 16) (hF : ∀ k, k < n → F k < 2 ^ n) (hs : Src w A n (iv (nv F))) :
    Calls Try.prog 21 #[.slice A n c] w fun e w' => e = .returned (.tuple #[.int .i64 (nl n F : Nat), .bool true]) ∧ Below w.heap.size w w' := by
  have HS := hide hs
  have H := hide (mapB_of h1 hn hF)
  have HF := hide hF
  clear hs hF
  go_enter Try.func21, Try.ntmps21
  go_wp2_with fail
  refine (isMap_any _ _ _ (nv F) _ (by omega) HS.out).mono ?_
  rintro e w1 ⟨rfl, hb1⟩
  rw [H.out]
  have HS1 := hide (HS.out.below hb1)
  go_wp2_with fail
  refine (setMapWith_any _ _ _ F _ (by omega) HS1.out).mono ?_
  rintro e w2 ⟨g, rfl, hg, ha, hb2⟩
  have HA := hide ha
  have HB := hide (hb1.trans (hb2.mono hb1.size))
  clear ha hb1 hb2
  go_wp2_with fail
  refine (mapNullity_any _ _ _ F _ (by omega) HF.out (Src.of_arr HA.out)).mono ?_
  rintro e w3 ⟨rfl, hb3⟩
  have HB3 := hide (HB.out.trans (hb3.mono HB.out.size))
  go_wp2
  go_ret2
  exact ⟨rfl, HB3.out⟩
theorem lawNM_pair (A1 : Option Addr) (n1 c1 : Nat) (f1 : Nat → Int) (v : Int) (ok : Bool) (w : World) (hm1 : n1 ≤ 1048576) (HSP : Hid (∀ (A1 : Option Addr) (c1 : Nat) (w : World), Src w A1 n1 (iv f1) → Calls Try.prog 20 #[.slice A1 n1 c1] w (fun e w' => e = .returned (.tuple #[.int .i64 v, .bool ok]) ∧ Below w.heap.size w w'))) (HIM : Hid (∀ (A1 : Option Addr) (c1 : Nat) (w : World), Src w A1 n1 (iv f1) → Calls Try.prog 21 #[.slice A1 n1 c1] w (fun e w' => e = .returned (.tuple #[.int .i64 v, .bool ok]) ∧ Below w.heap.size w w'))) (HS_A1 : Hid (Src w A1 n1 (iv f1))) :
    Calls Try.prog 5 #[.slice A1 n1 c1] w fun e w' => e = .returned (.bool true) ∧ Below w.heap.size w w' := by
  go_enter Try.func5, Try.ntmps5
  go_wp2_with fail
  refine (toIntS_new _ _ _ f1 _ hm1 (by first | exact HS_A1.out | exact Src.alloc HS_A1.out _ | exact Src.alloc (Src.alloc HS_A1.out _) _ | exact Src.drew HS_A1.out)).mono ?_
  rintro e w1 ⟨g1, rfl, lo_g1, ha_r, hb1⟩
  try simp only [World.size_alloc] at lo_g1
  have hs1 : Below w.heap.size w w1 := (by go_grown : Below w.heap.size w _).trans (hb1.mono (by go_size))
  have z1 : w.heap.size ≤ w1.heap.size := hs1.size
  have HW1 := hide hs1
  have HA_a1_1 := hide ha_r
  have hi_a1_1 : g1 < w1.heap.size := ha_r.lt
  clear ha_r hb1 hs1
  go_wp2_with fail
  refine (HSP.out _ _ _ (by first | exact Src.of_arr HA_a1_1.out | exact Src.of_arr (HA_a1_1.out.alloc _) | exact Src.of_arr ((HA_a1_1.out.alloc _).alloc _) | exact Src.of_arr HA_a1_1.out.drew)).mono ?_
  rintro e w2 ⟨rfl, hb2⟩
  have hs2 : Below w1.heap.size w1 w2 := (by go_grown : Below w1.heap.size w1 _).trans (hb2.mono (by go_size))
  have z2 : w1.heap.size ≤ w2.heap.size := hs2.size
  have HW2 := hide (HW1.out.trans (hs2.mono HW1.out.size))
  have HA_a1_2 := hide (HA_a1_1.out.all hs2)
  clear HA_a1_1 hb2 hs2
  go_wp2_with fail
  refine (toIntS_new _ _ _ f1 _ hm1 (by first | exact (HS_A1.out.below HW2.out) | exact Src.alloc (HS_A1.out.below HW2.out) _ | exact Src.alloc (Src.alloc (HS_A1.out.below HW2.out) _) _ | exact Src.drew (HS_A1.out.below HW2.out))).mono ?_
  rintro e w3 ⟨g3, rfl, lo_g3, ha_r, hb3⟩
  try simp only [World.size_alloc] at lo_g3
  have hs3 : Below w2.heap.size w2 w3 := (by go_grown : Below w2.heap.size w2 _).trans (hb3.mono (by go_size))
  have z3 : w2.heap.size ≤ w3.heap.size := hs3.size
  have HW3 := hide (HW2.out.trans (hs3.mono HW2.out.size))
  have HA_a1_3 := hide (HA_a1_2.out.all hs3)
  have HA_x1_3 := hide ha_r
  have hi_x1_3 : g3 < w3.heap.size := ha_r.lt
  clear HA_a1_2 ha_r hb3 hs3
  go_wp2_with fail
  refine (HIM.out _ _ _ (by first | exact Src.of_arr HA_x1_3.out | exact Src.of_arr (HA_x1_3.out.alloc _) | exact Src.of_arr ((HA_x1_3.out.alloc _).alloc _) | exact Src.of_arr HA_x1_3.out.drew)).mono ?_
  rintro e w4 ⟨rfl, hb4⟩
  have hs4 : Below w3.heap.size w3 w4 := (by go_grown : Below w3.heap.size w3 _).trans (hb4.mono (by go_size))
  have z4 : w3.heap.size ≤ w4.heap.size := hs4.size
  have HW4 := hide (HW3.out.trans (hs4.mono HW3.out.size))
  have HA_a1_4 := hide (HA_a1_3.out.all hs4)
  have HA_x1_4 := hide (HA_x1_3.out.all hs4)
  clear HA_a1_3 HA_x1_3 hb4 hs4
  go_wp2_with fail
  refine (toIntS_new _ _ _ f1 _ hm1 (by first | exact (HS_A1.out.below HW4.out) | exact Src.alloc (HS_A1.out.below HW4.out) _ | exact Src.alloc (Src.alloc (HS_A1.out.below HW4.out) _) _ | exact Src.drew (HS_A1.out.below HW4.out))).mono ?_
  rintro e w5 ⟨g5, rfl, lo_g5, ha_r, hb5⟩
  try simp only [World.size_alloc] at lo_g5
  have hs5 : Below w4.heap.size w4 w5 := (by go_grown : Below w4.heap.size w4 _).trans (hb5.mono (by go_size))
  have z5 : w4.heap.size ≤ w5.heap.size := hs5.size
  have HW5 := hide (HW4.out.trans (hs5.mono HW4.out.size))
  have HA_a1_5 := hide (HA_a1_4.out.all hs5)
  have HA_x1_5 := hide (HA_x1_4.out.all hs5)
  have HA_z1_5 := hide ha_r
  have hi_z1_5 : g5 < w5.heap.size := ha_r.lt
  clear HA_a1_4 HA_x1_4 ha_r hb5 hs5
  go_wp2_with fail
  refine (eqIntS_below _ _ _ _ _ f1 _ hm1 (by first | exact Src.of_arr HA_x1_5.out | exact Src.of_arr (HA_x1_5.out.alloc _) | exact Src.of_arr ((HA_x1_5.out.alloc _).alloc _) | exact Src.of_arr HA_x1_5.out.drew) (by first | exact Src.of_arr HA_z1_5.out | exact Src.of_arr (HA_z1_5.out.alloc _) | exact Src.of_arr ((HA_z1_5.out.alloc _).alloc _) | exact Src.of_arr HA_z1_5.out.drew)).mono ?_
  rintro e w6 ⟨rfl, hb6⟩
  have hs6 : Below w5.heap.size w5 w6 := (by go_grown : Below w5.heap.size w5 _).trans (hb6.mono (by go_size))
  have z6 : w5.heap.size ≤ w6.heap.size := hs6.size
  have HW6 := hide (HW5.out.trans (hs6.mono HW5.out.size))
  have HA_a1_6 := hide (HA_a1_5.out.all hs6)
  have HA_x1_6 := hide (HA_x1_5.out.all hs6)
  have HA_z1_6 := hide (HA_z1_5.out.all hs6)
  clear HA_a1_5 HA_x1_5 HA_z1_5 hb6 hs6
  go_wp2
  go_ret
  exact ⟨rfl, by have h := HW6.out; have hz := h.size; go_grown⟩
theorem lawNM_big1 (A1 : Option Addr) (n1 c1 : Nat) (f1 : Nat → Int) (w : World)  (hn1 : n1 ≤ 9223372036854775807) (hbig : 1048576 < n1) :
    Calls Try.prog 5 #[.slice A1 n1 c1] w fun e w' => e = .returned (.bool true) ∧ Below w.heap.size w w' := by
  have hbig' : (1048576 : Int) < n1 := by omega
  go_enter Try.func5, Try.ntmps5
  go_wp2
  go_ret
  exact ⟨rfl, by go_grown⟩
theorem lawNullityOfMap (A1 : Option Addr) (n1 c1 : Nat) (f1 : Nat → Int) (w : World) (hn1 : n1 ≤ 9223372036854775807) (hs1 : Src w A1 n1 (iv f1)) :
    Calls Try.prog 5 #[.slice A1 n1 c1] w fun e w' => e = .returned (.bool true) ∧ Below w.heap.size w w' := by
  by_cases b1 : 1048576 < n1
  · exact lawNM_big1 A1 n1 c1 f1 w hn1 b1
  cases hk : mapB n1 f1
  · exact lawNM_pair A1 n1 c1 f1 0 false w (by omega) (hide fun A1 c1 w h1 => nmSpec_no A1 n1 c1 f1 w (by omega) h1 hk) (hide fun A1 c1 w h1 => nmImpl_no A1 n1 c1 f1 w (by omega) h1 hk) (hide hs1)
  · obtain ⟨h1, h16, F, eF, hF⟩ := mapB_nat hk
    exact lawNM_pair A1 n1 c1 f1 _ true w (by omega) (hide fun A1 c1 w h1' => nmSpec_ok A1 n1 c1 F w h1 h16 hF (h1'.nat eF)) (hide fun A1 c1 w h1' => nmImpl_ok A1 n1 c1 F w h1 h16 hF (h1'.nat eF)) (hide hs1)
end Go.Proofs.Ytdpoceijnbbmgaa
