import Derived.Test.YtjbhmncpbhlmiaaCD
import Derived.Test.YtjbhmncpbhlmiaaSA
namespace Go.Proofs.Ytjbhmncpbhlmiaa
open Go.RowKit
set_option maxHeartbeats 2000000
theorem lawText_in (Q : Option Addr) (l d : Nat) (q : Nat → Int) (s : ByteArray) (b : Bool) (w : World) (hl2 : l ≤ 1048576) (HSP : Hid (∀ (P : Option Addr) (d : Nat) (w : World), Src w P l (iv q) → Calls Try.prog 13 #[.slice P l d] w fun e w' => e = .returned (.tuple #[.string s, .bool b]) ∧ Below w.heap.size w w')) (HIM : Hid (∀ (P : Option Addr) (d : Nat) (w : World), Src w P l (iv q) → Calls Try.prog 14 #[.slice P l d] w fun e w' => e = .returned (.tuple #[.string s, .bool b]) ∧ Below w.heap.size w w')) (HS_Q : Hid (Src w Q l (iv q))) :
    Calls Try.prog 4 #[.slice Q l d] w fun e w' => e = .returned (.bool true) ∧ Below w.heap.size w w' := by
  go_enter Try.func4, Try.ntmps4
  go_wp2_with fail
  refine (toIntS_g _ _ _ q _ hl2 (by first | exact HS_Q.out | exact Src.alloc HS_Q.out _ | exact Src.alloc (Src.alloc HS_Q.out _) _ | exact Src.drew HS_Q.out)).mono ?_
  rintro e w1 ⟨g1, rfl, lo_g1, ha_r, hb1⟩
  try simp only [World.size_alloc] at lo_g1
  have hs1 : Below w.heap.size w w1 := (by go_grown : Below w.heap.size w _).trans (hb1.mono (by go_size))
  have z1 : w.heap.size ≤ w1.heap.size := hs1.size
  have HW1 := hide hs1
  have HA_u_1 := hide ha_r
  have hi_u_1 : g1 < w1.heap.size := ha_r.lt
  clear ha_r hb1 hs1
  go_wp2_with fail
  refine (HSP.out _ _ _ (by first | exact Src.of_arr HA_u_1.out | exact Src.of_arr (HA_u_1.out.alloc _) | exact Src.of_arr ((HA_u_1.out.alloc _).alloc _) | exact Src.of_arr HA_u_1.out.drew)).mono ?_
  rintro e w2 ⟨rfl, hb2⟩
  have hs2 : Below w1.heap.size w1 w2 := (by go_grown : Below w1.heap.size w1 _).trans (hb2.mono (by go_size))
  have z2 : w1.heap.size ≤ w2.heap.size := hs2.size
  have HW2 := hide (HW1.out.trans (hs2.mono HW1.out.size))
  have HA_u_2 := hide (HA_u_1.out.all hs2)
  clear HA_u_1 hb2 hs2
  go_wp2_with fail
  refine (toIntS_g _ _ _ q _ hl2 (by first | exact (HS_Q.out.below HW2.out) | exact Src.alloc (HS_Q.out.below HW2.out) _ | exact Src.alloc (Src.alloc (HS_Q.out.below HW2.out) _) _ | exact Src.drew (HS_Q.out.below HW2.out))).mono ?_
  rintro e w3 ⟨g3, rfl, lo_g3, ha_r, hb3⟩
  try simp only [World.size_alloc] at lo_g3
  have hs3 : Below w2.heap.size w2 w3 := (by go_grown : Below w2.heap.size w2 _).trans (hb3.mono (by go_size))
  have z3 : w2.heap.size ≤ w3.heap.size := hs3.size
  have HW3 := hide (HW2.out.trans (hs3.mono HW2.out.size))
  have HA_u_3 := hide (HA_u_2.out.all hs3)
  have HA_y_3 := hide ha_r
  have hi_y_3 : g3 < w3.heap.size := ha_r.lt
  clear HA_u_2 ha_r hb3 hs3
  go_wp2_with fail
  refine (HIM.out _ _ _ (by first | exact Src.of_arr HA_y_3.out | exact Src.of_arr (HA_y_3.out.alloc _) | exact Src.of_arr ((HA_y_3.out.alloc _).alloc _) | exact Src.of_arr HA_y_3.out.drew)).mono ?_
  rintro e w4 ⟨rfl, hb4⟩
  have hs4 : Below w3.heap.size w3 w4 := (by go_grown : Below w3.heap.size w3 _).trans (hb4.mono (by go_size))
  have z4 : w3.heap.size ≤ w4.heap.size := hs4.size
  have HW4 := hide (HW3.out.trans (hs4.mono HW3.out.size))
  have HA_u_4 := hide (HA_u_3.out.all hs4)
  have HA_y_4 := hide (HA_y_3.out.all hs4)
  clear HA_u_3 HA_y_3 hb4 hs4
  go_wp2_with fail
  refine (toIntS_g _ _ _ q _ hl2 (by first | exact (HS_Q.out.below HW4.out) | exact Src.alloc (HS_Q.out.below HW4.out) _ | exact Src.alloc (Src.alloc (HS_Q.out.below HW4.out) _) _ | exact Src.drew (HS_Q.out.below HW4.out))).mono ?_
  rintro e w5 ⟨g5, rfl, lo_g5, ha_r, hb5⟩
  try simp only [World.size_alloc] at lo_g5
  have hs5 : Below w4.heap.size w4 w5 := (by go_grown : Below w4.heap.size w4 _).trans (hb5.mono (by go_size))
  have z5 : w4.heap.size ≤ w5.heap.size := hs5.size
  have HW5 := hide (HW4.out.trans (hs5.mono HW4.out.size))
  have HA_u_5 := hide (HA_u_4.out.all hs5)
  have HA_y_5 := hide (HA_y_4.out.all hs5)
  have HA_z_5 := hide ha_r
  have hi_z_5 : g5 < w5.heap.size := ha_r.lt
  clear HA_u_4 HA_y_4 ha_r hb5 hs5
  go_wp2_with fail
  refine (eqIntS_below _ _ _ _ _ q _ hl2 (by first | exact Src.of_arr HA_y_5.out | exact Src.of_arr (HA_y_5.out.alloc _) | exact Src.of_arr ((HA_y_5.out.alloc _).alloc _) | exact Src.of_arr HA_y_5.out.drew) (by first | exact Src.of_arr HA_z_5.out | exact Src.of_arr (HA_z_5.out.alloc _) | exact Src.of_arr ((HA_z_5.out.alloc _).alloc _) | exact Src.of_arr HA_z_5.out.drew)).mono ?_
  rintro e w6 ⟨rfl, hb6⟩
  have hs6 : Below w5.heap.size w5 w6 := (by go_grown : Below w5.heap.size w5 _).trans (hb6.mono (by go_size))
  have z6 : w5.heap.size ≤ w6.heap.size := hs6.size
  have HW6 := hide (HW5.out.trans (hs6.mono HW5.out.size))
  have HA_u_6 := hide (HA_u_5.out.all hs6)
  have HA_y_6 := hide (HA_y_5.out.all hs6)
  have HA_z_6 := hide (HA_z_5.out.all hs6)
  clear HA_u_5 HA_y_5 HA_z_5 hb6 hs6
  go_wp2
  go_ret
  exact ⟨rfl, by have h := HW6.out; have hz := h.size; go_grown⟩
theorem lawColoursText (Q : Option Addr) (l d : Nat) (q : Nat → Int) (w : World) (hl : l ≤ 9223372036854775807) (hq : Src w Q l (iv q)) :
    Calls Try.prog 4 #[.slice Q l d] w fun e w' => e = .returned (.bool true) ∧ Below w.heap.size w w' := by
  by_cases h1 : 1048576 < l
  · have hbig' : (1048576 : Int) < l := by omega
    go_enter Try.func4, Try.ntmps4
    go_wp2
    go_ret
    exact ⟨rfl, by go_grown⟩
  · exact lawText_in Q l d q _ _ w (by omega) (hide fun P d w hp => textSpec_any P l d q w (by omega) hp) (hide fun P d w hp => textImpl_any P l d q w (by omega) hp) (hide hq)
end Go.Proofs.Ytjbhmncpbhlmiaa
