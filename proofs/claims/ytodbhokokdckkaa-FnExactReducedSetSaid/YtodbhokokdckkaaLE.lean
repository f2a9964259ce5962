import Derived.Test.YtodbhokokdckkaaTH
import Derived.Test.YtodbhokokdckkaaLL
import Derived.Deep.RegionHeld3
namespace Go.Proofs.Ytodbhokokdckkaa
open Go.RowKit
set_option maxHeartbeats 2000000
theorem lawRed_out (A : Option Addr) (n c : Nat) (f : Nat → Int) (s : Int) (w : World) (hm2 : n ≤ 1048576) (HG : Hid (allB n f 1 65535 = false)) (HS_V : Hid (Src w A n (iv f))) :
    Calls Try.prog 20 #[.slice A n c, .int .i64 s] w fun e w' => e = .returned (.bool true) ∧ Below w.heap.size w w' := by
  go_enter Try.func20, Try.ntmps20
  go_wp2_with fail
  refine (toIntS_nn _ _ _ f _ hm2 (by first | exact HS_V.out | exact Src.alloc HS_V.out _ | exact Src.alloc (Src.alloc HS_V.out _) _ | exact Src.drew HS_V.out)).mono ?_
  rintro e w1 ⟨g1, rfl, lo_g1, ha1, hb1⟩
  try simp only [World.size_alloc] at lo_g1
  have hs1 : Below w.heap.size w w1 := (by go_grown : Below w.heap.size w _).trans (hb1.mono (by go_size))
  have z1 : w.heap.size ≤ w1.heap.size := hs1.size
  have HW1 := hide hs1
  have HA_u_1 := hide ha1
  have hi_u_1 : g1 < w1.heap.size := ha1.lt
  clear ha1 hb1 hs1
  go_wp2_with fail
  refine (redSpec_out _ _ f _ _ HG.out hm2 (by first | exact HA_u_1.out | exact HA_u_1.out.alloc _ | exact (HA_u_1.out.alloc _).alloc _ | exact HA_u_1.out.drew)).mono ?_
  rintro e w2 ⟨rfl, hb2⟩
  have hs2 : Below w1.heap.size w1 w2 := (by go_grown : Below w1.heap.size w1 _).trans (hb2.mono (by go_size))
  have z2 : w1.heap.size ≤ w2.heap.size := hs2.size
  have HW2 := hide (HW1.out.trans (hs2.mono HW1.out.size))
  have HA_u_2 := hide (HA_u_1.out.all hs2)
  clear HA_u_1 hb2 hs2
  go_wp2_with fail
  refine (toIntS_nn _ _ _ f _ hm2 (by first | exact (HS_V.out.below HW2.out) | exact Src.alloc (HS_V.out.below HW2.out) _ | exact Src.alloc (Src.alloc (HS_V.out.below HW2.out) _) _ | exact Src.drew (HS_V.out.below HW2.out))).mono ?_
  rintro e w3 ⟨g3, rfl, lo_g3, ha3, hb3⟩
  try simp only [World.size_alloc] at lo_g3
  have hs3 : Below w2.heap.size w2 w3 := (by go_grown : Below w2.heap.size w2 _).trans (hb3.mono (by go_size))
  have z3 : w2.heap.size ≤ w3.heap.size := hs3.size
  have HW3 := hide (HW2.out.trans (hs3.mono HW2.out.size))
  have HA_u_3 := hide (HA_u_2.out.all hs3)
  have HA_x_3 := hide ha3
  have hi_x_3 : g3 < w3.heap.size := ha3.lt
  clear HA_u_2 ha3 hb3 hs3
  go_wp2_with fail
  refine (redImpl_out _ _ f _ _ HG.out hm2 (by first | exact HA_x_3.out | exact HA_x_3.out.alloc _ | exact (HA_x_3.out.alloc _).alloc _ | exact HA_x_3.out.drew)).mono ?_
  rintro e w4 ⟨rfl, hb4⟩
  have hs4 : Below w3.heap.size w3 w4 := (by go_grown : Below w3.heap.size w3 _).trans (hb4.mono (by go_size))
  have z4 : w3.heap.size ≤ w4.heap.size := hs4.size
  have HW4 := hide (HW3.out.trans (hs4.mono HW3.out.size))
  have HA_u_4 := hide (HA_u_3.out.all hs4)
  have HA_x_4 := hide (HA_x_3.out.all hs4)
  clear HA_u_3 HA_x_3 hb4 hs4
  go_wp2_with fail
  refine (toIntS_nn _ _ _ f _ hm2 (by first | exact (HS_V.out.below HW4.out) | exact Src.alloc (HS_V.out.below HW4.out) _ | exact Src.alloc (Src.alloc (HS_V.out.below HW4.out) _) _ | exact Src.drew (HS_V.out.below HW4.out))).mono ?_
  rintro e w5 ⟨g5, rfl, lo_g5, ha5, hb5⟩
  try simp only [World.size_alloc] at lo_g5
  have hs5 : Below w4.heap.size w4 w5 := (by go_grown : Below w4.heap.size w4 _).trans (hb5.mono (by go_size))
  have z5 : w4.heap.size ≤ w5.heap.size := hs5.size
  have HW5 := hide (HW4.out.trans (hs5.mono HW4.out.size))
  have HA_u_5 := hide (HA_u_4.out.all hs5)
  have HA_x_5 := hide (HA_x_4.out.all hs5)
  have HA_z_5 := hide ha5
  have hi_z_5 : g5 < w5.heap.size := ha5.lt
  clear HA_u_4 HA_x_4 ha5 hb5 hs5
  go_wp2_with fail
  refine (eqIntS_below _ _ _ _ _ f _ hm2 (by first | exact Src.of_arr HA_x_5.out | exact Src.of_arr (HA_x_5.out.alloc _) | exact Src.of_arr ((HA_x_5.out.alloc _).alloc _) | exact Src.of_arr HA_x_5.out.drew) (by first | exact Src.of_arr HA_z_5.out | exact Src.of_arr (HA_z_5.out.alloc _) | exact Src.of_arr ((HA_z_5.out.alloc _).alloc _) | exact Src.of_arr HA_z_5.out.drew)).mono ?_
  rintro e w6 ⟨rfl, hb6⟩
  have hs6 : Below w5.heap.size w5 w6 := (by go_grown : Below w5.heap.size w5 _).trans (hb6.mono (by go_size))
  have z6 : w5.heap.size ≤ w6.heap.size := hs6.size
  have HW6 := hide (HW5.out.trans (hs6.mono HW5.out.size))
  have HA_u_6 := hide (HA_u_5.out.all hs6)
  have HA_x_6 := hide (HA_x_5.out.all hs6)
  have HA_z_6 := hide (HA_z_5.out.all hs6)
  clear HA_u_5 HA_x_5 HA_z_5 hb6 hs6
  go_wp2
  go_ret
  exact ⟨rfl, by have h := HW6.out; have hz := h.size; go_grown⟩
theorem lawRed_in (A : Option Addr) (n c : Nat) (L : List Nat) (s : Int) (w : World) (hm2 : n ≤ 1048576) (HL : Hid (∀ b ∈ L, 1 ≤ b ∧ b < 65536)) (HN : Hid (L.length = n)) (HS_V : Hid (Src w A n (iv (ln L)))) :
    Calls Try.prog 20 #[.slice A n c, .int .i64 s] w fun e w' => e = .returned (.bool true) ∧ Below w.heap.size w w' := by
  go_enter Try.func20, Try.ntmps20
  go_wp2_with fail
  refine (toIntS_nn _ _ _ (ln L) _ hm2 (by first | exact HS_V.out | exact Src.alloc HS_V.out _ | exact Src.alloc (Src.alloc HS_V.out _) _ | exact Src.drew HS_V.out)).mono ?_
  rintro e w1 ⟨g1, rfl, lo_g1, ha1, hb1⟩
  try simp only [World.size_alloc] at lo_g1
  have hs1 : Below w.heap.size w w1 := (by go_grown : Below w.heap.size w _).trans (hb1.mono (by go_size))
  have z1 : w.heap.size ≤ w1.heap.size := hs1.size
  have HW1 := hide hs1
  have HA_u_1 := hide ha1
  have hi_u_1 : g1 < w1.heap.size := ha1.lt
  clear ha1 hb1 hs1
  go_wp2_with fail
  refine (redSpec_in _ _ L _ _ HL.out HN.out hm2 (by first | exact HA_u_1.out | exact HA_u_1.out.alloc _ | exact (HA_u_1.out.alloc _).alloc _ | exact HA_u_1.out.drew)).mono ?_
  rintro e w2 ⟨rfl, hb2⟩
  have hs2 : Below w1.heap.size w1 w2 := (by go_grown : Below w1.heap.size w1 _).trans (hb2.mono (by go_size))
  have z2 : w1.heap.size ≤ w2.heap.size := hs2.size
  have HW2 := hide (HW1.out.trans (hs2.mono HW1.out.size))
  have HA_u_2 := hide (HA_u_1.out.all hs2)
  clear HA_u_1 hb2 hs2
  go_wp2_with fail
  refine (toIntS_nn _ _ _ (ln L) _ hm2 (by first | exact (HS_V.out.below HW2.out) | exact Src.alloc (HS_V.out.below HW2.out) _ | exact Src.alloc (Src.alloc (HS_V.out.below HW2.out) _) _ | exact Src.drew (HS_V.out.below HW2.out))).mono ?_
  rintro e w3 ⟨g3, rfl, lo_g3, ha3, hb3⟩
  try simp only [World.size_alloc] at lo_g3
  have hs3 : Below w2.heap.size w2 w3 := (by go_grown : Below w2.heap.size w2 _).trans (hb3.mono (by go_size))
  have z3 : w2.heap.size ≤ w3.heap.size := hs3.size
  have HW3 := hide (HW2.out.trans (hs3.mono HW2.out.size))
  have HA_u_3 := hide (HA_u_2.out.all hs3)
  have HA_x_3 := hide ha3
  have hi_x_3 : g3 < w3.heap.size := ha3.lt
  clear HA_u_2 ha3 hb3 hs3
  go_wp2_with fail
  refine (redImpl_in _ _ L _ _ HL.out HN.out hm2 (by first | exact HA_x_3.out | exact HA_x_3.out.alloc _ | exact (HA_x_3.out.alloc _).alloc _ | exact HA_x_3.out.drew)).mono ?_
  rintro e w4 ⟨rfl, hb4⟩
  have hs4 : Below w3.heap.size w3 w4 := (by go_grown : Below w3.heap.size w3 _).trans (hb4.mono (by go_size))
  have z4 : w3.heap.size ≤ w4.heap.size := hs4.size
  have HW4 := hide (HW3.out.trans (hs4.mono HW3.out.size))
  have HA_u_4 := hide (HA_u_3.out.all hs4)
  have HA_x_4 := hide (HA_x_3.out.all hs4)
  clear HA_u_3 HA_x_3 hb4 hs4
  go_wp2_with fail
  refine (toIntS_nn _ _ _ (ln L) _ hm2 (by first | exact (HS_V.out.below HW4.out) | exact Src.alloc (HS_V.out.below HW4.out) _ | exact Src.alloc (Src.alloc (HS_V.out.below HW4.out) _) _ | exact Src.drew (HS_V.out.below HW4.out))).mono ?_
  rintro e w5 ⟨g5, rfl, lo_g5, ha5, hb5⟩
  try simp only [World.size_alloc] at lo_g5
  have hs5 : Below w4.heap.size w4 w5 := (by go_grown : Below w4.heap.size w4 _).trans (hb5.mono (by go_size))
  have z5 : w4.heap.size ≤ w5.heap.size := hs5.size
  have HW5 := hide (HW4.out.trans (hs5.mono HW4.out.size))
  have HA_u_5 := hide (HA_u_4.out.all hs5)
  have HA_x_5 := hide (HA_x_4.out.all hs5)
  have HA_z_5 := hide ha5
  have hi_z_5 : g5 < w5.heap.size := ha5.lt
  clear HA_u_4 HA_x_4 ha5 hb5 hs5
  go_wp2_with fail
  refine (eqIntS_below _ _ _ _ _ (ln L) _ hm2 (by first | exact Src.of_arr HA_x_5.out | exact Src.of_arr (HA_x_5.out.alloc _) | exact Src.of_arr ((HA_x_5.out.alloc _).alloc _) | exact Src.of_arr HA_x_5.out.drew) (by first | exact Src.of_arr HA_z_5.out | exact Src.of_arr (HA_z_5.out.alloc _) | exact Src.of_arr ((HA_z_5.out.alloc _).alloc _) | exact Src.of_arr HA_z_5.out.drew)).mono ?_
  rintro e w6 ⟨rfl, hb6⟩
  have hs6 : Below w5.heap.size w5 w6 := (by go_grown : Below w5.heap.size w5 _).trans (hb6.mono (by go_size))
  have z6 : w5.heap.size ≤ w6.heap.size := hs6.size
  have HW6 := hide (HW5.out.trans (hs6.mono HW5.out.size))
  have HA_u_6 := hide (HA_u_5.out.all hs6)
  have HA_x_6 := hide (HA_x_5.out.all hs6)
  have HA_z_6 := hide (HA_z_5.out.all hs6)
  clear HA_u_5 HA_x_5 HA_z_5 hb6 hs6
  go_wp2
  go_ret
  exact ⟨rfl, by have h := HW6.out; have hz := h.size; go_grown⟩
theorem lawRed_big (A : Option Addr) (n c : Nat) (s : Int) (w : World) (hn : n ≤ 9223372036854775807) (hbig : 1048576 < n) :
    Calls Try.prog 20 #[.slice A n c, .int .i64 s] w fun e w' => e = .returned (.bool true) ∧ Below w.heap.size w w' := by
  have hbig' : (1048576 : Int) < n := by omega
  go_enter Try.func20, Try.ntmps20
  go_wp2
  go_ret
  exact ⟨rfl, Below.refl _ _⟩
theorem lawRed (A : Option Addr) (n c : Nat) (f : Nat → Int) (s : Int) (w : World) (hn : n ≤ 9223372036854775807) (hs : Src w A n (iv f)) :
    Calls Try.prog 20 #[.slice A n c, .int .i64 s] w fun e w' => e = .returned (.bool true) ∧ Below w.heap.size w w' := by
  by_cases hbig : 1048576 < n
  · exact lawRed_big A n c s w hn hbig
  · cases hall : allB n f 1 65535
    · exact lawRed_out A n c f s w (by omega) (hide hall) (hide hs)
    · have hr : ∀ k, k < n → 1 ≤ f k ∧ f k ≤ 65535 := by simpa [allB] using hall
      have hL : ((List.range n).map (fun k => (f k).toNat)).length = n := by simp
      have hg : ∀ k, k < n → ((List.range n).map (fun k => (f k).toNat)).getD k 0 = (f k).toNat := fun k hk => by simp [hk]
      refine lawRed_in A n c ((List.range n).map (fun k => (f k).toNat)) s w (by omega) (hide (fun b hb => ?_)) (hide hL) (hide (hs.congr fun k hk => ?_))
      · simp only [List.mem_map, List.mem_range] at hb
        obtain ⟨k, hk, rfl⟩ := hb
        have := hr k hk
        omega
      · have := hr k hk
        simp only [iv, ln]
        rw [hg k hk]
        congr 1; omega
end Go.Proofs.Ytodbhokokdckkaa
