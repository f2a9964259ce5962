import Derived.Test.YtmkdikoogbedkaaTN
import Derived.Test.YtmkdikoogbedkaaSB
import Derived.Test.YtmkdikoogbedkaaH
namespace Go.Proofs.Ytmkdikoogbedkaa
open Go.RowKit
set_option maxHeartbeats 2000000
/-- What a call leaves that hands back a list of m > 0 elements, an empty one, or none. -/
def ArrRes (w : World) (m : Nat) (F : Nat → Int) (e : Ending) (w' : World) : Prop :=
  ∃ g d, e = .returned (.tuple #[.slice (some ⟨g, 0, none⟩) m d, .bool true]) ∧ w.heap.size ≤ g ∧ Arr w' 3 g m (iv F) ∧ Below w.heap.size w w'
def NilRes (w : World) (e : Ending) (w' : World) : Prop := ∃ A d, e = .returned (.tuple #[.slice A 0 d, .bool true]) ∧ Below w.heap.size w w'
def NoRes (w : World) (e : Ending) (w' : World) : Prop := e = .returned (.tuple #[.slice none 0 0, .bool false]) ∧ Below w.heap.size w w'
/-- A list and true. -/
def ListOk (w : World) (L : List Nat) (e : Ending) (w' : World) : Prop :=
  ∃ A m d, e = .returned (.tuple #[.slice A m d, .bool true]) ∧ L.length = m ∧ OL w' w.heap.size (.slice A m d) L ∧ Below w.heap.size w w'
/-- The elements of a list, as a function of the index. -/
def ln (L : List Nat) : Nat → Int := fun k => ((L.getD k 0 : Nat) : Int)
theorem ListOk.arr {w : World} {L : List Nat} {m : Nat} (hL : L.length = m) (hm : 0 < m) {e : Ending} {w' : World} (h : ListOk w L e w') : ArrRes w m (ln L) e w' := by
  obtain ⟨A, m', d, rfl, hm', ho, hb⟩ := h
  have e1 : m' = m := by omega
  subst e1
  subst hm'
  obtain ⟨h0, h | ⟨g, cap, cur, h1, h2, h3, h4, h5, h6, h7⟩⟩ := ho
  · omega
  · injection h1 with a b e
    subst a e
    refine ⟨g, d, rfl, h2, ⟨cur, h3, by omega, fun k hk => ?_⟩, hb⟩
    have h8 : (cur.toList.take (L.length * 1))[k]? = (rowL L.length (lv L))[k]? := by rw [h7, vl_row]
    rw [rowL_get _ _ _ hk, List.getElem?_take_of_lt (by omega)] at h8
    have h9 : cur[k]? = some (lv L k) := by simpa using h8
    exact h9
theorem ListOk.nil {w : World} {L : List Nat} (hL : L.length = 0) {e : Ending} {w' : World} (h : ListOk w L e w') : NilRes w e w' := by
  obtain ⟨A, m', d, rfl, hm', ho, hb⟩ := h
  have e1 : m' = 0 := by omega
  subst e1
  exact ⟨A, d, rfl, hb⟩
theorem eqIntS_below (A A' : Option Addr) (n c c' : Nat) (f : Nat → Int) (w : World) (hn : n ≤ 1048576) (hs : Src w A n (iv f)) (hs' : Src w A' n (iv f)) :
    Calls Try.prog 32 #[.slice A n c, .slice A' n c'] w fun e w' => e = .returned (.bool true) ∧ Below w.heap.size w w' :=
  (eqIntS_true A A' n c c' f w hn hs hs').mono fun e w' ⟨he, j, hj⟩ => ⟨he, by subst hj; exact below_drewN (Below.refl _ _) _⟩
theorem heldIntS_below (A : Option Addr) (n c : Nat) (k : Int) (w : World) (hn : n ≤ 1048576) (h0 : 0 ≤ k) (h1 : k ≤ 4611686018427387904) (hs : Src w A n (iv (marks k))) :
    Calls Try.prog 34 #[.slice A n c, .int .i64 k] w fun e w' => e = .returned (.int .i64 (k + n)) ∧ Below w.heap.size w w' :=
  (heldIntS_any A n c k w hn h0 h1 hs).mono fun e w' ⟨he, hw⟩ => ⟨he, by subst hw; exact Below.refl _ _⟩
theorem markIntS_none_below (A : Option Addr) (c : Nat) (k : Int) (w : World) :
    Calls Try.prog 33 #[.slice A 0 c, .int .i64 k] w fun e w' => e = .returned (.int .i64 k) ∧ Below w.heap.size w w' :=
  (markIntS_none A c k w).mono fun e w' ⟨he, hw⟩ => ⟨he, by subst hw; exact Below.refl _ _⟩
theorem gFactors_arr (p : Int) (m : Nat) (F : Nat → Int) (hm2 : m ≤ 1048576) (w : World) (HSp : Hid (∀ w, Calls Try.prog 30 #[.int .i64 p] w (ArrRes w m F))) (HIm : Hid (∀ w, Calls Try.prog 31 #[.int .i64 p] w (ArrRes w m F))) :
    Calls Try.prog 10 #[.int .i64 p] w fun e w' => e = .returned (.bool true) ∧ Below w.heap.size w w' := by
  go_enter Try.func10, Try.ntmps10
  go_wp2_with fail
  refine (HSp.out _).mono ?_
  rintro e w1 ⟨g1, c_g1, rfl, lo_g1, ha_g1, hb1⟩
  try simp only [World.size_alloc] at lo_g1
  have hs1 : Below w.heap.size w w1 := (by go_grown : Below w.heap.size w _).trans (hb1.mono (by go_size))
  have z1 : w.heap.size ≤ w1.heap.size := hs1.size
  have HW1 := hide hs1
  have HA_s_1 := hide ha_g1
  have hi_s_1 : g1 < w1.heap.size := ha_g1.lt
  clear ha_g1 hb1 hs1
  go_wp2_with fail
  refine (HIm.out _).mono ?_
  rintro e w2 ⟨g2, c_g2, rfl, lo_g2, ha_g2, hb2⟩
  try simp only [World.size_alloc] at lo_g2
  have hs2 : Below w1.heap.size w1 w2 := (by go_grown : Below w1.heap.size w1 _).trans (hb2.mono (by go_size))
  have z2 : w1.heap.size ≤ w2.heap.size := hs2.size
  have HW2 := hide (HW1.out.trans (hs2.mono HW1.out.size))
  have HA_s_2 := hide (HA_s_1.out.all hs2)
  have HA_i_2 := hide ha_g2
  have hi_i_2 : g2 < w2.heap.size := ha_g2.lt
  clear HA_s_1 ha_g2 hb2 hs2
  go_wp2_with fail
  refine (eqIntS_below _ _ _ _ _ F _ hm2 (by first | exact Src.of_arr HA_i_2.out | exact Src.of_arr (HA_i_2.out.alloc _) | exact Src.of_arr ((HA_i_2.out.alloc _).alloc _) | exact Src.of_arr HA_i_2.out.drew) (by first | exact Src.of_arr HA_s_2.out | exact Src.of_arr (HA_s_2.out.alloc _) | exact Src.of_arr ((HA_s_2.out.alloc _).alloc _) | exact Src.of_arr HA_s_2.out.drew)).mono ?_
  rintro e w3 ⟨rfl, hb3⟩
  have hs3 : Below w2.heap.size w2 w3 := (by go_grown : Below w2.heap.size w2 _).trans (hb3.mono (by go_size))
  have z3 : w2.heap.size ≤ w3.heap.size := hs3.size
  have HW3 := hide (HW2.out.trans (hs3.mono HW2.out.size))
  have HA_s_3 := hide (HA_s_2.out.all hs3)
  have HA_i_3 := hide (HA_i_2.out.all hs3)
  clear HA_s_2 HA_i_2 hb3 hs3
  go_wp2_with fail
  refine (markIntS_arr _ _ _ F _ _ hm2 (by omega) (by omega) (by first | exact HA_i_3.out | exact HA_i_3.out.alloc _ | exact (HA_i_3.out.alloc _).alloc _ | exact HA_i_3.out.drew)).mono ?_
  rintro e w4 ⟨rfl, ha_n, hb4⟩
  have hs4 : w3.grownBy w4 (some g2) := grownBy_trans (grownBy_of_below (by go_grown) _) hb4
  have z4 : w3.heap.size ≤ w4.heap.size := hs4.size
  have HW4 := hide (HW3.out.grown hs4 HW3.out.size (fun k hk => by injection hk with hk; have := HW3.out.size; omega))
  have HA_s_4 := hide (HA_s_3.out.of_block (hs4.block g1 (HA_s_3.out.lt) (by intro h; injection h with h; omega)))
  have HA_i_4 := hide ha_n
  have hi_i_4 : g2 < w4.heap.size := ha_n.lt
  clear HA_s_3 ha_n hb4 hs4
  go_wp2_with fail
  refine (heldIntS_below _ _ _ _ _ hm2 (by omega) (by omega) (by first | exact Src.of_arr HA_i_4.out | exact Src.of_arr (HA_i_4.out.alloc _) | exact Src.of_arr ((HA_i_4.out.alloc _).alloc _) | exact Src.of_arr HA_i_4.out.drew)).mono ?_
  rintro e w5 ⟨rfl, hb5⟩
  have hs5 : Below w4.heap.size w4 w5 := (by go_grown : Below w4.heap.size w4 _).trans (hb5.mono (by go_size))
  have z5 : w4.heap.size ≤ w5.heap.size := hs5.size
  have HW5 := hide (HW4.out.trans (hs5.mono HW4.out.size))
  have HA_s_5 := hide (HA_s_4.out.all hs5)
  have HA_i_5 := hide (HA_i_4.out.all hs5)
  clear HA_s_4 HA_i_4 hb5 hs5
  go_wp2_with fail
  refine (HIm.out _).mono ?_
  rintro e w6 ⟨g6, c_g6, rfl, lo_g6, ha_g6, hb6⟩
  try simp only [World.size_alloc] at lo_g6
  have hs6 : Below w5.heap.size w5 w6 := (by go_grown : Below w5.heap.size w5 _).trans (hb6.mono (by go_size))
  have z6 : w5.heap.size ≤ w6.heap.size := hs6.size
  have HW6 := hide (HW5.out.trans (hs6.mono HW5.out.size))
  have HA_s_6 := hide (HA_s_5.out.all hs6)
  have HA_i_6 := hide (HA_i_5.out.all hs6)
  have HA_j_6 := hide ha_g6
  have hi_j_6 : g6 < w6.heap.size := ha_g6.lt
  clear HA_s_5 HA_i_5 ha_g6 hb6 hs6
  go_wp2_with fail
  refine (eqIntS_below _ _ _ _ _ F _ hm2 (by first | exact Src.of_arr HA_j_6.out | exact Src.of_arr (HA_j_6.out.alloc _) | exact Src.of_arr ((HA_j_6.out.alloc _).alloc _) | exact Src.of_arr HA_j_6.out.drew) (by first | exact Src.of_arr HA_s_6.out | exact Src.of_arr (HA_s_6.out.alloc _) | exact Src.of_arr ((HA_s_6.out.alloc _).alloc _) | exact Src.of_arr HA_s_6.out.drew)).mono ?_
  rintro e w7 ⟨rfl, hb7⟩
  have hs7 : Below w6.heap.size w6 w7 := (by go_grown : Below w6.heap.size w6 _).trans (hb7.mono (by go_size))
  have z7 : w6.heap.size ≤ w7.heap.size := hs7.size
  have HW7 := hide (HW6.out.trans (hs7.mono HW6.out.size))
  have HA_s_7 := hide (HA_s_6.out.all hs7)
  have HA_i_7 := hide (HA_i_6.out.all hs7)
  have HA_j_7 := hide (HA_j_6.out.all hs7)
  clear HA_s_6 HA_i_6 HA_j_6 hb7 hs7
  go_wp2_with fail
  refine (heldIntS_below _ _ _ _ _ hm2 (by omega) (by omega) (by first | exact Src.of_arr HA_i_7.out | exact Src.of_arr (HA_i_7.out.alloc _) | exact Src.of_arr ((HA_i_7.out.alloc _).alloc _) | exact Src.of_arr HA_i_7.out.drew)).mono ?_
  rintro e w8 ⟨rfl, hb8⟩
  have hs8 : Below w7.heap.size w7 w8 := (by go_grown : Below w7.heap.size w7 _).trans (hb8.mono (by go_size))
  have z8 : w7.heap.size ≤ w8.heap.size := hs8.size
  have HW8 := hide (HW7.out.trans (hs8.mono HW7.out.size))
  have HA_s_8 := hide (HA_s_7.out.all hs8)
  have HA_i_8 := hide (HA_i_7.out.all hs8)
  have HA_j_8 := hide (HA_j_7.out.all hs8)
  clear HA_s_7 HA_i_7 HA_j_7 hb8 hs8
  go_wp2
  go_ret
  exact ⟨rfl, by have h := HW8.out; have hz := h.size; go_grown⟩
theorem gFactors_nil (p : Int) (w : World) (HSp : Hid (∀ w, Calls Try.prog 30 #[.int .i64 p] w (NilRes w))) (HIm : Hid (∀ w, Calls Try.prog 31 #[.int .i64 p] w (NilRes w))) :
    Calls Try.prog 10 #[.int .i64 p] w fun e w' => e = .returned (.bool true) ∧ Below w.heap.size w w' := by
  go_enter Try.func10, Try.ntmps10
  go_wp2_with fail
  refine (HSp.out _).mono ?_
  rintro e w1 ⟨A_g1, d_g1, rfl, hb1⟩
  have hs1 : Below w.heap.size w w1 := (by go_grown : Below w.heap.size w _).trans (hb1.mono (by go_size))
  have z1 : w.heap.size ≤ w1.heap.size := hs1.size
  have HW1 := hide hs1
  clear  hb1 hs1
  go_wp2_with fail
  refine (HIm.out _).mono ?_
  rintro e w2 ⟨A_g2, d_g2, rfl, hb2⟩
  have hs2 : Below w1.heap.size w1 w2 := (by go_grown : Below w1.heap.size w1 _).trans (hb2.mono (by go_size))
  have z2 : w1.heap.size ≤ w2.heap.size := hs2.size
  have HW2 := hide (HW1.out.trans (hs2.mono HW1.out.size))
  clear  hb2 hs2
  go_wp2_with fail
  refine (eqIntS_below _ _ _ _ _ (fun _ => 0) _ (by omega) Src.nil Src.nil).mono ?_
  rintro e w3 ⟨rfl, hb3⟩
  have hs3 : Below w2.heap.size w2 w3 := (by go_grown : Below w2.heap.size w2 _).trans (hb3.mono (by go_size))
  have z3 : w2.heap.size ≤ w3.heap.size := hs3.size
  have HW3 := hide (HW2.out.trans (hs3.mono HW2.out.size))
  clear  hb3 hs3
  go_wp2_with fail
  refine (markIntS_none_below _ _ _ _).mono ?_
  rintro e w4 ⟨rfl, hb4⟩
  have hs4 : Below w3.heap.size w3 w4 := (by go_grown : Below w3.heap.size w3 _).trans (hb4.mono (by go_size))
  have z4 : w3.heap.size ≤ w4.heap.size := hs4.size
  have HW4 := hide (HW3.out.trans (hs4.mono HW3.out.size))
  clear  hb4 hs4
  go_wp2_with fail
  refine (heldIntS_below _ 0 _ _ _ (by omega) (by omega) (by omega) Src.nil).mono ?_
  rintro e w5 ⟨rfl, hb5⟩
  have hs5 : Below w4.heap.size w4 w5 := (by go_grown : Below w4.heap.size w4 _).trans (hb5.mono (by go_size))
  have z5 : w4.heap.size ≤ w5.heap.size := hs5.size
  have HW5 := hide (HW4.out.trans (hs5.mono HW4.out.size))
  clear  hb5 hs5
  go_wp2_with fail
  refine (HIm.out _).mono ?_
  rintro e w6 ⟨A_g6, d_g6, rfl, hb6⟩
  have hs6 : Below w5.heap.size w5 w6 := (by go_grown : Below w5.heap.size w5 _).trans (hb6.mono (by go_size))
  have z6 : w5.heap.size ≤ w6.heap.size := hs6.size
  have HW6 := hide (HW5.out.trans (hs6.mono HW5.out.size))
  clear  hb6 hs6
  go_wp2_with fail
  refine (eqIntS_below _ _ _ _ _ (fun _ => 0) _ (by omega) Src.nil Src.nil).mono ?_
  rintro e w7 ⟨rfl, hb7⟩
  have hs7 : Below w6.heap.size w6 w7 := (by go_grown : Below w6.heap.size w6 _).trans (hb7.mono (by go_size))
  have z7 : w6.heap.size ≤ w7.heap.size := hs7.size
  have HW7 := hide (HW6.out.trans (hs7.mono HW6.out.size))
  clear  hb7 hs7
  go_wp2_with fail
  refine (heldIntS_below _ 0 _ _ _ (by omega) (by omega) (by omega) Src.nil).mono ?_
  rintro e w8 ⟨rfl, hb8⟩
  have hs8 : Below w7.heap.size w7 w8 := (by go_grown : Below w7.heap.size w7 _).trans (hb8.mono (by go_size))
  have z8 : w7.heap.size ≤ w8.heap.size := hs8.size
  have HW8 := hide (HW7.out.trans (hs8.mono HW7.out.size))
  clear  hb8 hs8
  go_wp2
  go_ret
  exact ⟨rfl, by have h := HW8.out; have hz := h.size; go_grown⟩
theorem gFactors_no (p : Int) (w : World) (HSp : Hid (∀ w, Calls Try.prog 30 #[.int .i64 p] w (NoRes w))) (HIm : Hid (∀ w, Calls Try.prog 31 #[.int .i64 p] w (NoRes w))) :
    Calls Try.prog 10 #[.int .i64 p] w fun e w' => e = .returned (.bool true) ∧ Below w.heap.size w w' := by
  go_enter Try.func10, Try.ntmps10
  go_wp2_with fail
  refine (HSp.out _).mono ?_
  rintro e w1 ⟨rfl, hb1⟩
  have hs1 : Below w.heap.size w w1 := (by go_grown : Below w.heap.size w _).trans (hb1.mono (by go_size))
  have z1 : w.heap.size ≤ w1.heap.size := hs1.size
  have HW1 := hide hs1
  clear  hb1 hs1
  go_wp2_with fail
  refine (HIm.out _).mono ?_
  rintro e w2 ⟨rfl, hb2⟩
  have hs2 : Below w1.heap.size w1 w2 := (by go_grown : Below w1.heap.size w1 _).trans (hb2.mono (by go_size))
  have z2 : w1.heap.size ≤ w2.heap.size := hs2.size
  have HW2 := hide (HW1.out.trans (hs2.mono HW1.out.size))
  clear  hb2 hs2
  go_wp2_with fail
  refine (eqIntS_below _ _ _ _ _ (fun _ => 0) _ (by omega) Src.nil Src.nil).mono ?_
  rintro e w3 ⟨rfl, hb3⟩
  have hs3 : Below w2.heap.size w2 w3 := (by go_grown : Below w2.heap.size w2 _).trans (hb3.mono (by go_size))
  have z3 : w2.heap.size ≤ w3.heap.size := hs3.size
  have HW3 := hide (HW2.out.trans (hs3.mono HW2.out.size))
  clear  hb3 hs3
  go_wp2_with fail
  refine (markIntS_none_below _ _ _ _).mono ?_
  rintro e w4 ⟨rfl, hb4⟩
  have hs4 : Below w3.heap.size w3 w4 := (by go_grown : Below w3.heap.size w3 _).trans (hb4.mono (by go_size))
  have z4 : w3.heap.size ≤ w4.heap.size := hs4.size
  have HW4 := hide (HW3.out.trans (hs4.mono HW3.out.size))
  clear  hb4 hs4
  go_wp2_with fail
  refine (heldIntS_below _ 0 _ _ _ (by omega) (by omega) (by omega) Src.nil).mono ?_
  rintro e w5 ⟨rfl, hb5⟩
  have hs5 : Below w4.heap.size w4 w5 := (by go_grown : Below w4.heap.size w4 _).trans (hb5.mono (by go_size))
  have z5 : w4.heap.size ≤ w5.heap.size := hs5.size
  have HW5 := hide (HW4.out.trans (hs5.mono HW4.out.size))
  clear  hb5 hs5
  go_wp2_with fail
  refine (HIm.out _).mono ?_
  rintro e w6 ⟨rfl, hb6⟩
  have hs6 : Below w5.heap.size w5 w6 := (by go_grown : Below w5.heap.size w5 _).trans (hb6.mono (by go_size))
  have z6 : w5.heap.size ≤ w6.heap.size := hs6.size
  have HW6 := hide (HW5.out.trans (hs6.mono HW5.out.size))
  clear  hb6 hs6
  go_wp2_with fail
  refine (eqIntS_below _ _ _ _ _ (fun _ => 0) _ (by omega) Src.nil Src.nil).mono ?_
  rintro e w7 ⟨rfl, hb7⟩
  have hs7 : Below w6.heap.size w6 w7 := (by go_grown : Below w6.heap.size w6 _).trans (hb7.mono (by go_size))
  have z7 : w6.heap.size ≤ w7.heap.size := hs7.size
  have HW7 := hide (HW6.out.trans (hs7.mono HW6.out.size))
  clear  hb7 hs7
  go_wp2_with fail
  refine (heldIntS_below _ 0 _ _ _ (by omega) (by omega) (by omega) Src.nil).mono ?_
  rintro e w8 ⟨rfl, hb8⟩
  have hs8 : Below w7.heap.size w7 w8 := (by go_grown : Below w7.heap.size w7 _).trans (hb8.mono (by go_size))
  have z8 : w7.heap.size ≤ w8.heap.size := hs8.size
  have HW8 := hide (HW7.out.trans (hs8.mono HW7.out.size))
  clear  hb8 hs8
  go_wp2
  go_ret
  exact ⟨rfl, by have h := HW8.out; have hz := h.size; go_grown⟩
end Go.Proofs.Ytmkdikoogbedkaa
