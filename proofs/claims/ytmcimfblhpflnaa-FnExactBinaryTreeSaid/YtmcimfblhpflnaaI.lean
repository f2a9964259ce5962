import Derived.Test.YtmcimfblhpflnaaH
namespace Go.Proofs.Ytmcimfblhpflnaa
open Go.RowKit
set_option maxHeartbeats 1000000
/-- What a call that hands back a new graph and 'true' leaves. -/
def GraphOk (w : World) (n : Nat) (f : Nat → Int) (own : Bool) (e : Ending) (w' : World) : Prop :=
  ∃ g c, e = .returned (.tuple #[.agg #[.slice (some ⟨g, 0, none⟩) n c, .bool own], .bool true]) ∧ w.heap.size ≤ g ∧ Arr w' 3 g n (iv f) ∧ Below w.heap.size w w'
/-- .. that refuses. -/
def GraphNo (w : World) (e : Ending) (w' : World) : Prop :=
  e = .returned (.tuple #[.agg #[.slice none 0 0, .bool false], .bool false]) ∧ Below w.heap.size w w'

theorem lawStar_ok (a : Int) (own2 : Bool) (n : Nat) (f : Nat → Int) (own : Bool) (w : World) (hn : n ≤ 1048576) (hspec : ∀ w, Calls Try.prog 21 #[.int .i64 a, .bool own2] w (GraphOk w n f own))
    (himpl : ∀ w, Calls Try.prog 22 #[.int .i64 a, .bool own2] w (GraphOk w n f own)) :
    Calls Try.prog 6 #[.int .i64 a, .bool own2] w fun e w' => e = .returned (.bool true) ∧ Below w.heap.size w w' := by
  have HSP := hide hspec
  have HIM := hide himpl
  clear hspec himpl
  go_enter Try.func6, Try.ntmps6
  go_wp2_with fail
  refine (HSP.out _).mono ?_
  rintro e w1 ⟨g1, c_g1, rfl, lo_g1, ha1, hb1⟩
  try simp only [World.size_alloc] at lo_g1
  have hs1 : Below w.heap.size w w1 := (by go_grown : Below w.heap.size w _).trans (hb1.mono (by go_size))
  have z1 : w.heap.size ≤ w1.heap.size := hs1.size
  have HW1 := hide hs1
  have HA_s_1 := hide ha1
  have hi_s_1 : g1 < w1.heap.size := ha1.lt
  clear ha1 hb1 hs1
  go_wp2_with fail
  refine (HIM.out _).mono ?_
  rintro e w2 ⟨g2, c_g2, rfl, lo_g2, ha2, hb2⟩
  try simp only [World.size_alloc] at lo_g2
  have hs2 : Below w1.heap.size w1 w2 := (by go_grown : Below w1.heap.size w1 _).trans (hb2.mono (by go_size))
  have z2 : w1.heap.size ≤ w2.heap.size := hs2.size
  have HW2 := hide (HW1.out.trans (hs2.mono HW1.out.size))
  have c_s0_2 : w2.cell? ⟨w1.heap.size, 0, none⟩ = some (.slice (some ⟨g1, 0, none⟩) n c_g1) := (hb2.cell (p := ⟨w1.heap.size, 0, none⟩) (by go_size)).trans (by simp [go_sem])
  have c_s1_2 : w2.cell? ⟨w1.heap.size, 1, none⟩ = some (.bool own) := (hb2.cell (p := ⟨w1.heap.size, 1, none⟩) (by go_size)).trans (by simp [go_sem])
  have l_s_2 : w1.heap.size < w2.heap.size := Nat.lt_of_lt_of_le (by go_size) hb2.size
  have HA_s_2 := hide (HA_s_1.out.all hs2)
  have HA_i_2 := hide ha2
  have hi_i_2 : g2 < w2.heap.size := ha2.lt
  clear HA_s_1 ha2 hb2 hs2
  go_wp2_with fail
  refine (eqGraph_true _ _ _ _ _ f _ _ hn (by first | exact Src.of_arr HA_i_2.out | exact Src.of_arr (HA_i_2.out.alloc _) | exact Src.of_arr ((HA_i_2.out.alloc _).alloc _) | exact Src.of_arr HA_i_2.out.drew) (by first | exact Src.of_arr HA_s_2.out | exact Src.of_arr (HA_s_2.out.alloc _) | exact Src.of_arr ((HA_s_2.out.alloc _).alloc _) | exact Src.of_arr HA_s_2.out.drew)).mono ?_
  rintro e w3 ⟨rfl, hb3⟩
  have hs3 : Below w2.heap.size w2 w3 := (by go_grown : Below w2.heap.size w2 _).trans (hb3.mono (by go_size))
  have z3 : w2.heap.size ≤ w3.heap.size := hs3.size
  have HW3 := hide (HW2.out.trans (hs3.mono HW2.out.size))
  have c_s0_3 : w3.cell? ⟨w1.heap.size, 0, none⟩ = some (.slice (some ⟨g1, 0, none⟩) n c_g1) := (hs3.cell (p := ⟨w1.heap.size, 0, none⟩) l_s_2).trans c_s0_2
  have c_s1_3 : w3.cell? ⟨w1.heap.size, 1, none⟩ = some (.bool own) := (hs3.cell (p := ⟨w1.heap.size, 1, none⟩) l_s_2).trans c_s1_2
  have l_s_3 : w1.heap.size < w3.heap.size := Nat.lt_of_lt_of_le l_s_2 z3
  have c_i0_3 : w3.cell? ⟨w2.heap.size, 0, none⟩ = some (.slice (some ⟨g2, 0, none⟩) n c_g2) := (hb3.cell (p := ⟨w2.heap.size, 0, none⟩) (by go_size)).trans (by simp [go_sem])
  have c_i1_3 : w3.cell? ⟨w2.heap.size, 1, none⟩ = some (.bool own) := (hb3.cell (p := ⟨w2.heap.size, 1, none⟩) (by go_size)).trans (by simp [go_sem])
  have l_i_3 : w2.heap.size < w3.heap.size := Nat.lt_of_lt_of_le (by go_size) hb3.size
  have HA_s_3 := hide (HA_s_2.out.all hs3)
  have HA_i_3 := hide (HA_i_2.out.all hs3)
  clear c_s0_2 c_s1_2 l_s_2 HA_s_2 HA_i_2 hb3 hs3
  go_wp2_with fail
  refine (markGraph_arr _ _ _ f _ _ _ hn (by omega) (by omega) (by first | exact HA_i_3.out | exact HA_i_3.out.alloc _ | exact (HA_i_3.out.alloc _).alloc _ | exact HA_i_3.out.drew)).mono ?_
  rintro e w4 ⟨rfl, ha4, hb4⟩
  have hs4 : w3.grownBy w4 (some g2) := grownBy_trans (grownBy_of_below (by go_grown) _) hb4
  have z4 : w3.heap.size ≤ w4.heap.size := hs4.size
  have HW4 := hide (HW3.out.grown hs4 HW3.out.size (fun k hk => by injection hk with hk; have := HW3.out.size; omega))
  have c_s0_4 : w4.cell? ⟨w1.heap.size, 0, none⟩ = some (.slice (some ⟨g1, 0, none⟩) n c_g1) := World.grownBy.cell hs4 c_s0_3 (by intro h; injection h with h; simp at h; omega)
  have c_s1_4 : w4.cell? ⟨w1.heap.size, 1, none⟩ = some (.bool own) := World.grownBy.cell hs4 c_s1_3 (by intro h; injection h with h; simp at h; omega)
  have l_s_4 : w1.heap.size < w4.heap.size := Nat.lt_of_lt_of_le l_s_3 z4
  have c_i0_4 : w4.cell? ⟨w2.heap.size, 0, none⟩ = some (.slice (some ⟨g2, 0, none⟩) n c_g2) := World.grownBy.cell hs4 c_i0_3 (by intro h; injection h with h; simp at h; omega)
  have c_i1_4 : w4.cell? ⟨w2.heap.size, 1, none⟩ = some (.bool own) := World.grownBy.cell hs4 c_i1_3 (by intro h; injection h with h; simp at h; omega)
  have l_i_4 : w2.heap.size < w4.heap.size := Nat.lt_of_lt_of_le l_i_3 z4
  have HA_s_4 := hide (HA_s_3.out.of_block (hs4.block g1 (HA_s_3.out.lt) (by intro h; injection h with h; omega)))
  have HA_i_4 := hide ha4
  have hi_i_4 : g2 < w4.heap.size := ha4.lt
  clear c_s0_3 c_s1_3 l_s_3 c_i0_3 c_i1_3 l_i_3 HA_s_3 ha4 hb4 hs4
  go_wp2_with fail
  refine (heldGraph_any _ _ _ _ _ _ hn (by omega) (by omega) (by first | exact Src.of_arr HA_i_4.out | exact Src.of_arr (HA_i_4.out.alloc _) | exact Src.of_arr ((HA_i_4.out.alloc _).alloc _) | exact Src.of_arr HA_i_4.out.drew)).mono ?_
  rintro e w5 ⟨rfl, hb5⟩
  have hs5 : Below w4.heap.size w4 w5 := (by go_grown : Below w4.heap.size w4 _).trans (hb5.mono (by go_size))
  have z5 : w4.heap.size ≤ w5.heap.size := hs5.size
  have HW5 := hide (HW4.out.trans (hs5.mono HW4.out.size))
  have c_s0_5 : w5.cell? ⟨w1.heap.size, 0, none⟩ = some (.slice (some ⟨g1, 0, none⟩) n c_g1) := (hs5.cell (p := ⟨w1.heap.size, 0, none⟩) l_s_4).trans c_s0_4
  have c_s1_5 : w5.cell? ⟨w1.heap.size, 1, none⟩ = some (.bool own) := (hs5.cell (p := ⟨w1.heap.size, 1, none⟩) l_s_4).trans c_s1_4
  have l_s_5 : w1.heap.size < w5.heap.size := Nat.lt_of_lt_of_le l_s_4 z5
  have c_i0_5 : w5.cell? ⟨w2.heap.size, 0, none⟩ = some (.slice (some ⟨g2, 0, none⟩) n c_g2) := (hs5.cell (p := ⟨w2.heap.size, 0, none⟩) l_i_4).trans c_i0_4
  have c_i1_5 : w5.cell? ⟨w2.heap.size, 1, none⟩ = some (.bool own) := (hs5.cell (p := ⟨w2.heap.size, 1, none⟩) l_i_4).trans c_i1_4
  have l_i_5 : w2.heap.size < w5.heap.size := Nat.lt_of_lt_of_le l_i_4 z5
  have HA_s_5 := hide (HA_s_4.out.all hs5)
  have HA_i_5 := hide (HA_i_4.out.all hs5)
  clear c_s0_4 c_s1_4 l_s_4 c_i0_4 c_i1_4 l_i_4 HA_s_4 HA_i_4 hb5 hs5
  go_wp2_with fail
  refine (HIM.out _).mono ?_
  rintro e w6 ⟨g3, c_g3, rfl, lo_g3, ha6, hb6⟩
  try simp only [World.size_alloc] at lo_g3
  have hs6 : Below w5.heap.size w5 w6 := (by go_grown : Below w5.heap.size w5 _).trans (hb6.mono (by go_size))
  have z6 : w5.heap.size ≤ w6.heap.size := hs6.size
  have HW6 := hide (HW5.out.trans (hs6.mono HW5.out.size))
  have c_s0_6 : w6.cell? ⟨w1.heap.size, 0, none⟩ = some (.slice (some ⟨g1, 0, none⟩) n c_g1) := (hs6.cell (p := ⟨w1.heap.size, 0, none⟩) l_s_5).trans c_s0_5
  have c_s1_6 : w6.cell? ⟨w1.heap.size, 1, none⟩ = some (.bool own) := (hs6.cell (p := ⟨w1.heap.size, 1, none⟩) l_s_5).trans c_s1_5
  have l_s_6 : w1.heap.size < w6.heap.size := Nat.lt_of_lt_of_le l_s_5 z6
  have c_i0_6 : w6.cell? ⟨w2.heap.size, 0, none⟩ = some (.slice (some ⟨g2, 0, none⟩) n c_g2) := (hs6.cell (p := ⟨w2.heap.size, 0, none⟩) l_i_5).trans c_i0_5
  have c_i1_6 : w6.cell? ⟨w2.heap.size, 1, none⟩ = some (.bool own) := (hs6.cell (p := ⟨w2.heap.size, 1, none⟩) l_i_5).trans c_i1_5
  have l_i_6 : w2.heap.size < w6.heap.size := Nat.lt_of_lt_of_le l_i_5 z6
  have HA_s_6 := hide (HA_s_5.out.all hs6)
  have HA_i_6 := hide (HA_i_5.out.all hs6)
  have HA_j_6 := hide ha6
  have hi_j_6 : g3 < w6.heap.size := ha6.lt
  clear c_s0_5 c_s1_5 l_s_5 c_i0_5 c_i1_5 l_i_5 HA_s_5 HA_i_5 ha6 hb6 hs6
  go_wp2_with fail
  refine (eqGraph_true _ _ _ _ _ f _ _ hn (by first | exact Src.of_arr HA_j_6.out | exact Src.of_arr (HA_j_6.out.alloc _) | exact Src.of_arr ((HA_j_6.out.alloc _).alloc _) | exact Src.of_arr HA_j_6.out.drew) (by first | exact Src.of_arr HA_s_6.out | exact Src.of_arr (HA_s_6.out.alloc _) | exact Src.of_arr ((HA_s_6.out.alloc _).alloc _) | exact Src.of_arr HA_s_6.out.drew)).mono ?_
  rintro e w7 ⟨rfl, hb7⟩
  have hs7 : Below w6.heap.size w6 w7 := (by go_grown : Below w6.heap.size w6 _).trans (hb7.mono (by go_size))
  have z7 : w6.heap.size ≤ w7.heap.size := hs7.size
  have HW7 := hide (HW6.out.trans (hs7.mono HW6.out.size))
  have c_s0_7 : w7.cell? ⟨w1.heap.size, 0, none⟩ = some (.slice (some ⟨g1, 0, none⟩) n c_g1) := (hs7.cell (p := ⟨w1.heap.size, 0, none⟩) l_s_6).trans c_s0_6
  have c_s1_7 : w7.cell? ⟨w1.heap.size, 1, none⟩ = some (.bool own) := (hs7.cell (p := ⟨w1.heap.size, 1, none⟩) l_s_6).trans c_s1_6
  have l_s_7 : w1.heap.size < w7.heap.size := Nat.lt_of_lt_of_le l_s_6 z7
  have c_i0_7 : w7.cell? ⟨w2.heap.size, 0, none⟩ = some (.slice (some ⟨g2, 0, none⟩) n c_g2) := (hs7.cell (p := ⟨w2.heap.size, 0, none⟩) l_i_6).trans c_i0_6
  have c_i1_7 : w7.cell? ⟨w2.heap.size, 1, none⟩ = some (.bool own) := (hs7.cell (p := ⟨w2.heap.size, 1, none⟩) l_i_6).trans c_i1_6
  have l_i_7 : w2.heap.size < w7.heap.size := Nat.lt_of_lt_of_le l_i_6 z7
  have c_j0_7 : w7.cell? ⟨w6.heap.size, 0, none⟩ = some (.slice (some ⟨g3, 0, none⟩) n c_g3) := (hb7.cell (p := ⟨w6.heap.size, 0, none⟩) (by go_size)).trans (by simp [go_sem])
  have c_j1_7 : w7.cell? ⟨w6.heap.size, 1, none⟩ = some (.bool own) := (hb7.cell (p := ⟨w6.heap.size, 1, none⟩) (by go_size)).trans (by simp [go_sem])
  have l_j_7 : w6.heap.size < w7.heap.size := Nat.lt_of_lt_of_le (by go_size) hb7.size
  have HA_s_7 := hide (HA_s_6.out.all hs7)
  have HA_i_7 := hide (HA_i_6.out.all hs7)
  have HA_j_7 := hide (HA_j_6.out.all hs7)
  clear c_s0_6 c_s1_6 l_s_6 c_i0_6 c_i1_6 l_i_6 HA_s_6 HA_i_6 HA_j_6 hb7 hs7
  go_wp2_with fail
  refine (heldGraph_any _ _ _ _ _ _ hn (by omega) (by omega) (by first | exact Src.of_arr HA_i_7.out | exact Src.of_arr (HA_i_7.out.alloc _) | exact Src.of_arr ((HA_i_7.out.alloc _).alloc _) | exact Src.of_arr HA_i_7.out.drew)).mono ?_
  rintro e w8 ⟨rfl, hb8⟩
  have hs8 : Below w7.heap.size w7 w8 := (by go_grown : Below w7.heap.size w7 _).trans (hb8.mono (by go_size))
  have z8 : w7.heap.size ≤ w8.heap.size := hs8.size
  have HW8 := hide (HW7.out.trans (hs8.mono HW7.out.size))
  have c_s0_8 : w8.cell? ⟨w1.heap.size, 0, none⟩ = some (.slice (some ⟨g1, 0, none⟩) n c_g1) := (hs8.cell (p := ⟨w1.heap.size, 0, none⟩) l_s_7).trans c_s0_7
  have c_s1_8 : w8.cell? ⟨w1.heap.size, 1, none⟩ = some (.bool own) := (hs8.cell (p := ⟨w1.heap.size, 1, none⟩) l_s_7).trans c_s1_7
  have l_s_8 : w1.heap.size < w8.heap.size := Nat.lt_of_lt_of_le l_s_7 z8
  have c_i0_8 : w8.cell? ⟨w2.heap.size, 0, none⟩ = some (.slice (some ⟨g2, 0, none⟩) n c_g2) := (hs8.cell (p := ⟨w2.heap.size, 0, none⟩) l_i_7).trans c_i0_7
  have c_i1_8 : w8.cell? ⟨w2.heap.size, 1, none⟩ = some (.bool own) := (hs8.cell (p := ⟨w2.heap.size, 1, none⟩) l_i_7).trans c_i1_7
  have l_i_8 : w2.heap.size < w8.heap.size := Nat.lt_of_lt_of_le l_i_7 z8
  have c_j0_8 : w8.cell? ⟨w6.heap.size, 0, none⟩ = some (.slice (some ⟨g3, 0, none⟩) n c_g3) := (hs8.cell (p := ⟨w6.heap.size, 0, none⟩) l_j_7).trans c_j0_7
  have c_j1_8 : w8.cell? ⟨w6.heap.size, 1, none⟩ = some (.bool own) := (hs8.cell (p := ⟨w6.heap.size, 1, none⟩) l_j_7).trans c_j1_7
  have l_j_8 : w6.heap.size < w8.heap.size := Nat.lt_of_lt_of_le l_j_7 z8
  have HA_s_8 := hide (HA_s_7.out.all hs8)
  have HA_i_8 := hide (HA_i_7.out.all hs8)
  have HA_j_8 := hide (HA_j_7.out.all hs8)
  clear c_s0_7 c_s1_7 l_s_7 c_i0_7 c_i1_7 l_i_7 c_j0_7 c_j1_7 l_j_7 HA_s_7 HA_i_7 HA_j_7 hb8 hs8
  go_wp2
  go_ret
  exact ⟨rfl, by have h := HW8.out; have hz := h.size; go_grown⟩

theorem lawStar_no (a : Int) (own2 : Bool) (w : World) (hspec : ∀ w, Calls Try.prog 21 #[.int .i64 a, .bool own2] w (GraphNo w))
    (himpl : ∀ w, Calls Try.prog 22 #[.int .i64 a, .bool own2] w (GraphNo w)) :
    Calls Try.prog 6 #[.int .i64 a, .bool own2] w fun e w' => e = .returned (.bool true) ∧ Below w.heap.size w w' := by
  have HSP := hide hspec
  have HIM := hide himpl
  clear hspec himpl
  go_enter Try.func6, Try.ntmps6
  go_wp2_with fail
  refine (HSP.out _).mono ?_
  rintro e w1 ⟨rfl, hb1⟩
  have hs1 : Below w.heap.size w w1 := (by go_grown : Below w.heap.size w _).trans (hb1.mono (by go_size))
  have z1 : w.heap.size ≤ w1.heap.size := hs1.size
  have HW1 := hide hs1
  clear  hb1 hs1
  go_wp2_with fail
  refine (HIM.out _).mono ?_
  rintro e w2 ⟨rfl, hb2⟩
  have hs2 : Below w1.heap.size w1 w2 := (by go_grown : Below w1.heap.size w1 _).trans (hb2.mono (by go_size))
  have z2 : w1.heap.size ≤ w2.heap.size := hs2.size
  have HW2 := hide (HW1.out.trans (hs2.mono HW1.out.size))
  have c_s0_2 : w2.cell? ⟨w1.heap.size, 0, none⟩ = some (.slice none 0 0) := (hb2.cell (p := ⟨w1.heap.size, 0, none⟩) (by go_size)).trans (by simp [go_sem])
  have c_s1_2 : w2.cell? ⟨w1.heap.size, 1, none⟩ = some (.bool false) := (hb2.cell (p := ⟨w1.heap.size, 1, none⟩) (by go_size)).trans (by simp [go_sem])
  have l_s_2 : w1.heap.size < w2.heap.size := Nat.lt_of_lt_of_le (by go_size) hb2.size
  clear  hb2 hs2
  go_wp2_with fail
  refine (eqGraph_true _ _ _ _ _ (fun _ => 0) _ _ (by omega) Src.nil Src.nil).mono ?_
  rintro e w3 ⟨rfl, hb3⟩
  have hs3 : Below w2.heap.size w2 w3 := (by go_grown : Below w2.heap.size w2 _).trans (hb3.mono (by go_size))
  have z3 : w2.heap.size ≤ w3.heap.size := hs3.size
  have HW3 := hide (HW2.out.trans (hs3.mono HW2.out.size))
  have c_s0_3 : w3.cell? ⟨w1.heap.size, 0, none⟩ = some (.slice none 0 0) := (hs3.cell (p := ⟨w1.heap.size, 0, none⟩) l_s_2).trans c_s0_2
  have c_s1_3 : w3.cell? ⟨w1.heap.size, 1, none⟩ = some (.bool false) := (hs3.cell (p := ⟨w1.heap.size, 1, none⟩) l_s_2).trans c_s1_2
  have l_s_3 : w1.heap.size < w3.heap.size := Nat.lt_of_lt_of_le l_s_2 z3
  have c_i0_3 : w3.cell? ⟨w2.heap.size, 0, none⟩ = some (.slice none 0 0) := (hb3.cell (p := ⟨w2.heap.size, 0, none⟩) (by go_size)).trans (by simp [go_sem])
  have c_i1_3 : w3.cell? ⟨w2.heap.size, 1, none⟩ = some (.bool false) := (hb3.cell (p := ⟨w2.heap.size, 1, none⟩) (by go_size)).trans (by simp [go_sem])
  have l_i_3 : w2.heap.size < w3.heap.size := Nat.lt_of_lt_of_le (by go_size) hb3.size
  clear c_s0_2 c_s1_2 l_s_2 hb3 hs3
  go_wp2_with fail
  refine (markGraph_none _ _ _ _ _).mono ?_
  rintro e w4 ⟨rfl, hb4⟩
  have hs4 : Below w3.heap.size w3 w4 := (by go_grown : Below w3.heap.size w3 _).trans (hb4.mono (by go_size))
  have z4 : w3.heap.size ≤ w4.heap.size := hs4.size
  have HW4 := hide (HW3.out.trans (hs4.mono HW3.out.size))
  have c_s0_4 : w4.cell? ⟨w1.heap.size, 0, none⟩ = some (.slice none 0 0) := (hs4.cell (p := ⟨w1.heap.size, 0, none⟩) l_s_3).trans c_s0_3
  have c_s1_4 : w4.cell? ⟨w1.heap.size, 1, none⟩ = some (.bool false) := (hs4.cell (p := ⟨w1.heap.size, 1, none⟩) l_s_3).trans c_s1_3
  have l_s_4 : w1.heap.size < w4.heap.size := Nat.lt_of_lt_of_le l_s_3 z4
  have c_i0_4 : w4.cell? ⟨w2.heap.size, 0, none⟩ = some (.slice none 0 0) := (hs4.cell (p := ⟨w2.heap.size, 0, none⟩) l_i_3).trans c_i0_3
  have c_i1_4 : w4.cell? ⟨w2.heap.size, 1, none⟩ = some (.bool false) := (hs4.cell (p := ⟨w2.heap.size, 1, none⟩) l_i_3).trans c_i1_3
  have l_i_4 : w2.heap.size < w4.heap.size := Nat.lt_of_lt_of_le l_i_3 z4
  clear c_s0_3 c_s1_3 l_s_3 c_i0_3 c_i1_3 l_i_3 hb4 hs4
  go_wp2_with fail
  refine (heldGraph_any _ 0 _ _ _ _ (by omega) (by omega) (by omega) Src.nil).mono ?_
  rintro e w5 ⟨rfl, hb5⟩
  have hs5 : Below w4.heap.size w4 w5 := (by go_grown : Below w4.heap.size w4 _).trans (hb5.mono (by go_size))
  have z5 : w4.heap.size ≤ w5.heap.size := hs5.size
  have HW5 := hide (HW4.out.trans (hs5.mono HW4.out.size))
  have c_s0_5 : w5.cell? ⟨w1.heap.size, 0, none⟩ = some (.slice none 0 0) := (hs5.cell (p := ⟨w1.heap.size, 0, none⟩) l_s_4).trans c_s0_4
  have c_s1_5 : w5.cell? ⟨w1.heap.size, 1, none⟩ = some (.bool false) := (hs5.cell (p := ⟨w1.heap.size, 1, none⟩) l_s_4).trans c_s1_4
  have l_s_5 : w1.heap.size < w5.heap.size := Nat.lt_of_lt_of_le l_s_4 z5
  have c_i0_5 : w5.cell? ⟨w2.heap.size, 0, none⟩ = some (.slice none 0 0) := (hs5.cell (p := ⟨w2.heap.size, 0, none⟩) l_i_4).trans c_i0_4
  have c_i1_5 : w5.cell? ⟨w2.heap.size, 1, none⟩ = some (.bool false) := (hs5.cell (p := ⟨w2.heap.size, 1, none⟩) l_i_4).trans c_i1_4
  have l_i_5 : w2.heap.size < w5.heap.size := Nat.lt_of_lt_of_le l_i_4 z5
  clear c_s0_4 c_s1_4 l_s_4 c_i0_4 c_i1_4 l_i_4 hb5 hs5
  go_wp2_with fail
  refine (HIM.out _).mono ?_
  rintro e w6 ⟨rfl, hb6⟩
  have hs6 : Below w5.heap.size w5 w6 := (by go_grown : Below w5.heap.size w5 _).trans (hb6.mono (by go_size))
  have z6 : w5.heap.size ≤ w6.heap.size := hs6.size
  have HW6 := hide (HW5.out.trans (hs6.mono HW5.out.size))
  have c_s0_6 : w6.cell? ⟨w1.heap.size, 0, none⟩ = some (.slice none 0 0) := (hs6.cell (p := ⟨w1.heap.size, 0, none⟩) l_s_5).trans c_s0_5
  have c_s1_6 : w6.cell? ⟨w1.heap.size, 1, none⟩ = some (.bool false) := (hs6.cell (p := ⟨w1.heap.size, 1, none⟩) l_s_5).trans c_s1_5
  have l_s_6 : w1.heap.size < w6.heap.size := Nat.lt_of_lt_of_le l_s_5 z6
  have c_i0_6 : w6.cell? ⟨w2.heap.size, 0, none⟩ = some (.slice none 0 0) := (hs6.cell (p := ⟨w2.heap.size, 0, none⟩) l_i_5).trans c_i0_5
  have c_i1_6 : w6.cell? ⟨w2.heap.size, 1, none⟩ = some (.bool false) := (hs6.cell (p := ⟨w2.heap.size, 1, none⟩) l_i_5).trans c_i1_5
  have l_i_6 : w2.heap.size < w6.heap.size := Nat.lt_of_lt_of_le l_i_5 z6
  clear c_s0_5 c_s1_5 l_s_5 c_i0_5 c_i1_5 l_i_5 hb6 hs6
  go_wp2_with fail
  refine (eqGraph_true _ _ _ _ _ (fun _ => 0) _ _ (by omega) Src.nil Src.nil).mono ?_
  rintro e w7 ⟨rfl, hb7⟩
  have hs7 : Below w6.heap.size w6 w7 := (by go_grown : Below w6.heap.size w6 _).trans (hb7.mono (by go_size))
  have z7 : w6.heap.size ≤ w7.heap.size := hs7.size
  have HW7 := hide (HW6.out.trans (hs7.mono HW6.out.size))
  have c_s0_7 : w7.cell? ⟨w1.heap.size, 0, none⟩ = some (.slice none 0 0) := (hs7.cell (p := ⟨w1.heap.size, 0, none⟩) l_s_6).trans c_s0_6
  have c_s1_7 : w7.cell? ⟨w1.heap.size, 1, none⟩ = some (.bool false) := (hs7.cell (p := ⟨w1.heap.size, 1, none⟩) l_s_6).trans c_s1_6
  have l_s_7 : w1.heap.size < w7.heap.size := Nat.lt_of_lt_of_le l_s_6 z7
  have c_i0_7 : w7.cell? ⟨w2.heap.size, 0, none⟩ = some (.slice none 0 0) := (hs7.cell (p := ⟨w2.heap.size, 0, none⟩) l_i_6).trans c_i0_6
  have c_i1_7 : w7.cell? ⟨w2.heap.size, 1, none⟩ = some (.bool false) := (hs7.cell (p := ⟨w2.heap.size, 1, none⟩) l_i_6).trans c_i1_6
  have l_i_7 : w2.heap.size < w7.heap.size := Nat.lt_of_lt_of_le l_i_6 z7
  have c_j0_7 : w7.cell? ⟨w6.heap.size, 0, none⟩ = some (.slice none 0 0) := (hb7.cell (p := ⟨w6.heap.size, 0, none⟩) (by go_size)).trans (by simp [go_sem])
  have c_j1_7 : w7.cell? ⟨w6.heap.size, 1, none⟩ = some (.bool false) := (hb7.cell (p := ⟨w6.heap.size, 1, none⟩) (by go_size)).trans (by simp [go_sem])
  have l_j_7 : w6.heap.size < w7.heap.size := Nat.lt_of_lt_of_le (by go_size) hb7.size
  clear c_s0_6 c_s1_6 l_s_6 c_i0_6 c_i1_6 l_i_6 hb7 hs7
  go_wp2_with fail
  refine (heldGraph_any _ 0 _ _ _ _ (by omega) (by omega) (by omega) Src.nil).mono ?_
  rintro e w8 ⟨rfl, hb8⟩
  have hs8 : Below w7.heap.size w7 w8 := (by go_grown : Below w7.heap.size w7 _).trans (hb8.mono (by go_size))
  have z8 : w7.heap.size ≤ w8.heap.size := hs8.size
  have HW8 := hide (HW7.out.trans (hs8.mono HW7.out.size))
  have c_s0_8 : w8.cell? ⟨w1.heap.size, 0, none⟩ = some (.slice none 0 0) := (hs8.cell (p := ⟨w1.heap.size, 0, none⟩) l_s_7).trans c_s0_7
  have c_s1_8 : w8.cell? ⟨w1.heap.size, 1, none⟩ = some (.bool false) := (hs8.cell (p := ⟨w1.heap.size, 1, none⟩) l_s_7).trans c_s1_7
  have l_s_8 : w1.heap.size < w8.heap.size := Nat.lt_of_lt_of_le l_s_7 z8
  have c_i0_8 : w8.cell? ⟨w2.heap.size, 0, none⟩ = some (.slice none 0 0) := (hs8.cell (p := ⟨w2.heap.size, 0, none⟩) l_i_7).trans c_i0_7
  have c_i1_8 : w8.cell? ⟨w2.heap.size, 1, none⟩ = some (.bool false) := (hs8.cell (p := ⟨w2.heap.size, 1, none⟩) l_i_7).trans c_i1_7
  have l_i_8 : w2.heap.size < w8.heap.size := Nat.lt_of_lt_of_le l_i_7 z8
  have c_j0_8 : w8.cell? ⟨w6.heap.size, 0, none⟩ = some (.slice none 0 0) := (hs8.cell (p := ⟨w6.heap.size, 0, none⟩) l_j_7).trans c_j0_7
  have c_j1_8 : w8.cell? ⟨w6.heap.size, 1, none⟩ = some (.bool false) := (hs8.cell (p := ⟨w6.heap.size, 1, none⟩) l_j_7).trans c_j1_7
  have l_j_8 : w6.heap.size < w8.heap.size := Nat.lt_of_lt_of_le l_j_7 z8
  clear c_s0_7 c_s1_7 l_s_7 c_i0_7 c_i1_7 l_i_7 c_j0_7 c_j1_7 l_j_7 hb8 hs8
  go_wp2
  go_ret
  exact ⟨rfl, by have h := HW8.out; have hz := h.size; go_grown⟩

theorem lawBinary_ok (a : Int) (own2 : Bool) (n : Nat) (f : Nat → Int) (own : Bool) (w : World) (hn : n ≤ 1048576) (hspec : ∀ w, Calls Try.prog 23 #[.int .i64 a, .bool own2] w (GraphOk w n f own))
    (himpl : ∀ w, Calls Try.prog 24 #[.int .i64 a, .bool own2] w (GraphOk w n f own)) :
    Calls Try.prog 7 #[.int .i64 a, .bool own2] w fun e w' => e = .returned (.bool true) ∧ Below w.heap.size w w' := by
  have HSP := hide hspec
  have HIM := hide himpl
  clear hspec himpl
  go_enter Try.func7, Try.ntmps7
  go_wp2_with fail
  refine (HSP.out _).mono ?_
  rintro e w1 ⟨g1, c_g1, rfl, lo_g1, ha1, hb1⟩
  try simp only [World.size_alloc] at lo_g1
  have hs1 : Below w.heap.size w w1 := (by go_grown : Below w.heap.size w _).trans (hb1.mono (by go_size))
  have z1 : w.heap.size ≤ w1.heap.size := hs1.size
  have HW1 := hide hs1
  have HA_s_1 := hide ha1
  have hi_s_1 : g1 < w1.heap.size := ha1.lt
  clear ha1 hb1 hs1
  go_wp2_with fail
  refine (HIM.out _).mono ?_
  rintro e w2 ⟨g2, c_g2, rfl, lo_g2, ha2, hb2⟩
  try simp only [World.size_alloc] at lo_g2
  have hs2 : Below w1.heap.size w1 w2 := (by go_grown : Below w1.heap.size w1 _).trans (hb2.mono (by go_size))
  have z2 : w1.heap.size ≤ w2.heap.size := hs2.size
  have HW2 := hide (HW1.out.trans (hs2.mono HW1.out.size))
  have c_s0_2 : w2.cell? ⟨w1.heap.size, 0, none⟩ = some (.slice (some ⟨g1, 0, none⟩) n c_g1) := (hb2.cell (p := ⟨w1.heap.size, 0, none⟩) (by go_size)).trans (by simp [go_sem])
  have c_s1_2 : w2.cell? ⟨w1.heap.size, 1, none⟩ = some (.bool own) := (hb2.cell (p := ⟨w1.heap.size, 1, none⟩) (by go_size)).trans (by simp [go_sem])
  have l_s_2 : w1.heap.size < w2.heap.size := Nat.lt_of_lt_of_le (by go_size) hb2.size
  have HA_s_2 := hide (HA_s_1.out.all hs2)
  have HA_i_2 := hide ha2
  have hi_i_2 : g2 < w2.heap.size := ha2.lt
  clear HA_s_1 ha2 hb2 hs2
  go_wp2_with fail
  refine (eqGraph_true _ _ _ _ _ f _ _ hn (by first | exact Src.of_arr HA_i_2.out | exact Src.of_arr (HA_i_2.out.alloc _) | exact Src.of_arr ((HA_i_2.out.alloc _).alloc _) | exact Src.of_arr HA_i_2.out.drew) (by first | exact Src.of_arr HA_s_2.out | exact Src.of_arr (HA_s_2.out.alloc _) | exact Src.of_arr ((HA_s_2.out.alloc _).alloc _) | exact Src.of_arr HA_s_2.out.drew)).mono ?_
  rintro e w3 ⟨rfl, hb3⟩
  have hs3 : Below w2.heap.size w2 w3 := (by go_grown : Below w2.heap.size w2 _).trans (hb3.mono (by go_size))
  have z3 : w2.heap.size ≤ w3.heap.size := hs3.size
  have HW3 := hide (HW2.out.trans (hs3.mono HW2.out.size))
  have c_s0_3 : w3.cell? ⟨w1.heap.size, 0, none⟩ = some (.slice (some ⟨g1, 0, none⟩) n c_g1) := (hs3.cell (p := ⟨w1.heap.size, 0, none⟩) l_s_2).trans c_s0_2
  have c_s1_3 : w3.cell? ⟨w1.heap.size, 1, none⟩ = some (.bool own) := (hs3.cell (p := ⟨w1.heap.size, 1, none⟩) l_s_2).trans c_s1_2
  have l_s_3 : w1.heap.size < w3.heap.size := Nat.lt_of_lt_of_le l_s_2 z3
  have c_i0_3 : w3.cell? ⟨w2.heap.size, 0, none⟩ = some (.slice (some ⟨g2, 0, none⟩) n c_g2) := (hb3.cell (p := ⟨w2.heap.size, 0, none⟩) (by go_size)).trans (by simp [go_sem])
  have c_i1_3 : w3.cell? ⟨w2.heap.size, 1, none⟩ = some (.bool own) := (hb3.cell (p := ⟨w2.heap.size, 1, none⟩) (by go_size)).trans (by simp [go_sem])
  have l_i_3 : w2.heap.size < w3.heap.size := Nat.lt_of_lt_of_le (by go_size) hb3.size
  have HA_s_3 := hide (HA_s_2.out.all hs3)
  have HA_i_3 := hide (HA_i_2.out.all hs3)
  clear c_s0_2 c_s1_2 l_s_2 HA_s_2 HA_i_2 hb3 hs3
  go_wp2_with fail
  refine (markGraph_arr _ _ _ f _ _ _ hn (by omega) (by omega) (by first | exact HA_i_3.out | exact HA_i_3.out.alloc _ | exact (HA_i_3.out.alloc _).alloc _ | exact HA_i_3.out.drew)).mono ?_
  rintro e w4 ⟨rfl, ha4, hb4⟩
  have hs4 : w3.grownBy w4 (some g2) := grownBy_trans (grownBy_of_below (by go_grown) _) hb4
  have z4 : w3.heap.size ≤ w4.heap.size := hs4.size
  have HW4 := hide (HW3.out.grown hs4 HW3.out.size (fun k hk => by injection hk with hk; have := HW3.out.size; omega))
  have c_s0_4 : w4.cell? ⟨w1.heap.size, 0, none⟩ = some (.slice (some ⟨g1, 0, none⟩) n c_g1) := World.grownBy.cell hs4 c_s0_3 (by intro h; injection h with h; simp at h; omega)
  have c_s1_4 : w4.cell? ⟨w1.heap.size, 1, none⟩ = some (.bool own) := World.grownBy.cell hs4 c_s1_3 (by intro h; injection h with h; simp at h; omega)
  have l_s_4 : w1.heap.size < w4.heap.size := Nat.lt_of_lt_of_le l_s_3 z4
  have c_i0_4 : w4.cell? ⟨w2.heap.size, 0, none⟩ = some (.slice (some ⟨g2, 0, none⟩) n c_g2) := World.grownBy.cell hs4 c_i0_3 (by intro h; injection h with h; simp at h; omega)
  have c_i1_4 : w4.cell? ⟨w2.heap.size, 1, none⟩ = some (.bool own) := World.grownBy.cell hs4 c_i1_3 (by intro h; injection h with h; simp at h; omega)
  have l_i_4 : w2.heap.size < w4.heap.size := Nat.lt_of_lt_of_le l_i_3 z4
  have HA_s_4 := hide (HA_s_3.out.of_block (hs4.block g1 (HA_s_3.out.lt) (by intro h; injection h with h; omega)))
  have HA_i_4 := hide ha4
  have hi_i_4 : g2 < w4.heap.size := ha4.lt
  clear c_s0_3 c_s1_3 l_s_3 c_i0_3 c_i1_3 l_i_3 HA_s_3 ha4 hb4 hs4
  go_wp2_with fail
  refine (heldGraph_any _ _ _ _ _ _ hn (by omega) (by omega) (by first | exact Src.of_arr HA_i_4.out | exact Src.of_arr (HA_i_4.out.alloc _) | exact Src.of_arr ((HA_i_4.out.alloc _).alloc _) | exact Src.of_arr HA_i_4.out.drew)).mono ?_
  rintro e w5 ⟨rfl, hb5⟩
  have hs5 : Below w4.heap.size w4 w5 := (by go_grown : Below w4.heap.size w4 _).trans (hb5.mono (by go_size))
  have z5 : w4.heap.size ≤ w5.heap.size := hs5.size
  have HW5 := hide (HW4.out.trans (hs5.mono HW4.out.size))
  have c_s0_5 : w5.cell? ⟨w1.heap.size, 0, none⟩ = some (.slice (some ⟨g1, 0, none⟩) n c_g1) := (hs5.cell (p := ⟨w1.heap.size, 0, none⟩) l_s_4).trans c_s0_4
  have c_s1_5 : w5.cell? ⟨w1.heap.size, 1, none⟩ = some (.bool own) := (hs5.cell (p := ⟨w1.heap.size, 1, none⟩) l_s_4).trans c_s1_4
  have l_s_5 : w1.heap.size < w5.heap.size := Nat.lt_of_lt_of_le l_s_4 z5
  have c_i0_5 : w5.cell? ⟨w2.heap.size, 0, none⟩ = some (.slice (some ⟨g2, 0, none⟩) n c_g2) := (hs5.cell (p := ⟨w2.heap.size, 0, none⟩) l_i_4).trans c_i0_4
  have c_i1_5 : w5.cell? ⟨w2.heap.size, 1, none⟩ = some (.bool own) := (hs5.cell (p := ⟨w2.heap.size, 1, none⟩) l_i_4).trans c_i1_4
  have l_i_5 : w2.heap.size < w5.heap.size := Nat.lt_of_lt_of_le l_i_4 z5
  have HA_s_5 := hide (HA_s_4.out.all hs5)
  have HA_i_5 := hide (HA_i_4.out.all hs5)
  clear c_s0_4 c_s1_4 l_s_4 c_i0_4 c_i1_4 l_i_4 HA_s_4 HA_i_4 hb5 hs5
  go_wp2_with fail
  refine (HIM.out _).mono ?_
  rintro e w6 ⟨g3, c_g3, rfl, lo_g3, ha6, hb6⟩
  try simp only [World.size_alloc] at lo_g3
  have hs6 : Below w5.heap.size w5 w6 := (by go_grown : Below w5.heap.size w5 _).trans (hb6.mono (by go_size))
  have z6 : w5.heap.size ≤ w6.heap.size := hs6.size
  have HW6 := hide (HW5.out.trans (hs6.mono HW5.out.size))
  have c_s0_6 : w6.cell? ⟨w1.heap.size, 0, none⟩ = some (.slice (some ⟨g1, 0, none⟩) n c_g1) := (hs6.cell (p := ⟨w1.heap.size, 0, none⟩) l_s_5).trans c_s0_5
  have c_s1_6 : w6.cell? ⟨w1.heap.size, 1, none⟩ = some (.bool own) := (hs6.cell (p := ⟨w1.heap.size, 1, none⟩) l_s_5).trans c_s1_5
  have l_s_6 : w1.heap.size < w6.heap.size := Nat.lt_of_lt_of_le l_s_5 z6
  have c_i0_6 : w6.cell? ⟨w2.heap.size, 0, none⟩ = some (.slice (some ⟨g2, 0, none⟩) n c_g2) := (hs6.cell (p := ⟨w2.heap.size, 0, none⟩) l_i_5).trans c_i0_5
  have c_i1_6 : w6.cell? ⟨w2.heap.size, 1, none⟩ = some (.bool own) := (hs6.cell (p := ⟨w2.heap.size, 1, none⟩) l_i_5).trans c_i1_5
  have l_i_6 : w2.heap.size < w6.heap.size := Nat.lt_of_lt_of_le l_i_5 z6
  have HA_s_6 := hide (HA_s_5.out.all hs6)
  have HA_i_6 := hide (HA_i_5.out.all hs6)
  have HA_j_6 := hide ha6
  have hi_j_6 : g3 < w6.heap.size := ha6.lt
  clear c_s0_5 c_s1_5 l_s_5 c_i0_5 c_i1_5 l_i_5 HA_s_5 HA_i_5 ha6 hb6 hs6
  go_wp2_with fail
  refine (eqGraph_true _ _ _ _ _ f _ _ hn (by first | exact Src.of_arr HA_j_6.out | exact Src.of_arr (HA_j_6.out.alloc _) | exact Src.of_arr ((HA_j_6.out.alloc _).alloc _) | exact Src.of_arr HA_j_6.out.drew) (by first | exact Src.of_arr HA_s_6.out | exact Src.of_arr (HA_s_6.out.alloc _) | exact Src.of_arr ((HA_s_6.out.alloc _).alloc _) | exact Src.of_arr HA_s_6.out.drew)).mono ?_
  rintro e w7 ⟨rfl, hb7⟩
  have hs7 : Below w6.heap.size w6 w7 := (by go_grown : Below w6.heap.size w6 _).trans (hb7.mono (by go_size))
  have z7 : w6.heap.size ≤ w7.heap.size := hs7.size
  have HW7 := hide (HW6.out.trans (hs7.mono HW6.out.size))
  have c_s0_7 : w7.cell? ⟨w1.heap.size, 0, none⟩ = some (.slice (some ⟨g1, 0, none⟩) n c_g1) := (hs7.cell (p := ⟨w1.heap.size, 0, none⟩) l_s_6).trans c_s0_6
  have c_s1_7 : w7.cell? ⟨w1.heap.size, 1, none⟩ = some (.bool own) := (hs7.cell (p := ⟨w1.heap.size, 1, none⟩) l_s_6).trans c_s1_6
  have l_s_7 : w1.heap.size < w7.heap.size := Nat.lt_of_lt_of_le l_s_6 z7
  have c_i0_7 : w7.cell? ⟨w2.heap.size, 0, none⟩ = some (.slice (some ⟨g2, 0, none⟩) n c_g2) := (hs7.cell (p := ⟨w2.heap.size, 0, none⟩) l_i_6).trans c_i0_6
  have c_i1_7 : w7.cell? ⟨w2.heap.size, 1, none⟩ = some (.bool own) := (hs7.cell (p := ⟨w2.heap.size, 1, none⟩) l_i_6).trans c_i1_6
  have l_i_7 : w2.heap.size < w7.heap.size := Nat.lt_of_lt_of_le l_i_6 z7
  have c_j0_7 : w7.cell? ⟨w6.heap.size, 0, none⟩ = some (.slice (some ⟨g3, 0, none⟩) n c_g3) := (hb7.cell (p := ⟨w6.heap.size, 0, none⟩) (by go_size)).trans (by simp [go_sem])
  have c_j1_7 : w7.cell? ⟨w6.heap.size, 1, none⟩ = some (.bool own) := (hb7.cell (p := ⟨w6.heap.size, 1, none⟩) (by go_size)).trans (by simp [go_sem])
  have l_j_7 : w6.heap.size < w7.heap.size := Nat.lt_of_lt_of_le (by go_size) hb7.size
  have HA_s_7 := hide (HA_s_6.out.all hs7)
  have HA_i_7 := hide (HA_i_6.out.all hs7)
  have HA_j_7 := hide (HA_j_6.out.all hs7)
  clear c_s0_6 c_s1_6 l_s_6 c_i0_6 c_i1_6 l_i_6 HA_s_6 HA_i_6 HA_j_6 hb7 hs7
  go_wp2_with fail
  refine (heldGraph_any _ _ _ _ _ _ hn (by omega) (by omega) (by first | exact Src.of_arr HA_i_7.out | exact Src.of_arr (HA_i_7.out.alloc _) | exact Src.of_arr ((HA_i_7.out.alloc _).alloc _) | exact Src.of_arr HA_i_7.out.drew)).mono ?_
  rintro e w8 ⟨rfl, hb8⟩
  have hs8 : Below w7.heap.size w7 w8 := (by go_grown : Below w7.heap.size w7 _).trans (hb8.mono (by go_size))
  have z8 : w7.heap.size ≤ w8.heap.size := hs8.size
  have HW8 := hide (HW7.out.trans (hs8.mono HW7.out.size))
  have c_s0_8 : w8.cell? ⟨w1.heap.size, 0, none⟩ = some (.slice (some ⟨g1, 0, none⟩) n c_g1) := (hs8.cell (p := ⟨w1.heap.size, 0, none⟩) l_s_7).trans c_s0_7
  have c_s1_8 : w8.cell? ⟨w1.heap.size, 1, none⟩ = some (.bool own) := (hs8.cell (p := ⟨w1.heap.size, 1, none⟩) l_s_7).trans c_s1_7
  have l_s_8 : w1.heap.size < w8.heap.size := Nat.lt_of_lt_of_le l_s_7 z8
  have c_i0_8 : w8.cell? ⟨w2.heap.size, 0, none⟩ = some (.slice (some ⟨g2, 0, none⟩) n c_g2) := (hs8.cell (p := ⟨w2.heap.size, 0, none⟩) l_i_7).trans c_i0_7
  have c_i1_8 : w8.cell? ⟨w2.heap.size, 1, none⟩ = some (.bool own) := (hs8.cell (p := ⟨w2.heap.size, 1, none⟩) l_i_7).trans c_i1_7
  have l_i_8 : w2.heap.size < w8.heap.size := Nat.lt_of_lt_of_le l_i_7 z8
  have c_j0_8 : w8.cell? ⟨w6.heap.size, 0, none⟩ = some (.slice (some ⟨g3, 0, none⟩) n c_g3) := (hs8.cell (p := ⟨w6.heap.size, 0, none⟩) l_j_7).trans c_j0_7
  have c_j1_8 : w8.cell? ⟨w6.heap.size, 1, none⟩ = some (.bool own) := (hs8.cell (p := ⟨w6.heap.size, 1, none⟩) l_j_7).trans c_j1_7
  have l_j_8 : w6.heap.size < w8.heap.size := Nat.lt_of_lt_of_le l_j_7 z8
  have HA_s_8 := hide (HA_s_7.out.all hs8)
  have HA_i_8 := hide (HA_i_7.out.all hs8)
  have HA_j_8 := hide (HA_j_7.out.all hs8)
  clear c_s0_7 c_s1_7 l_s_7 c_i0_7 c_i1_7 l_i_7 c_j0_7 c_j1_7 l_j_7 HA_s_7 HA_i_7 HA_j_7 hb8 hs8
  go_wp2
  go_ret
  exact ⟨rfl, by have h := HW8.out; have hz := h.size; go_grown⟩

theorem lawBinary_no (a : Int) (own2 : Bool) (w : World) (hspec : ∀ w, Calls Try.prog 23 #[.int .i64 a, .bool own2] w (GraphNo w))
    (himpl : ∀ w, Calls Try.prog 24 #[.int .i64 a, .bool own2] w (GraphNo w)) :
    Calls Try.prog 7 #[.int .i64 a, .bool own2] w fun e w' => e = .returned (.bool true) ∧ Below w.heap.size w w' := by
  have HSP := hide hspec
  have HIM := hide himpl
  clear hspec himpl
  go_enter Try.func7, Try.ntmps7
  go_wp2_with fail
  refine (HSP.out _).mono ?_
  rintro e w1 ⟨rfl, hb1⟩
  have hs1 : Below w.heap.size w w1 := (by go_grown : Below w.heap.size w _).trans (hb1.mono (by go_size))
  have z1 : w.heap.size ≤ w1.heap.size := hs1.size
  have HW1 := hide hs1
  clear  hb1 hs1
  go_wp2_with fail
  refine (HIM.out _).mono ?_
  rintro e w2 ⟨rfl, hb2⟩
  have hs2 : Below w1.heap.size w1 w2 := (by go_grown : Below w1.heap.size w1 _).trans (hb2.mono (by go_size))
  have z2 : w1.heap.size ≤ w2.heap.size := hs2.size
  have HW2 := hide (HW1.out.trans (hs2.mono HW1.out.size))
  have c_s0_2 : w2.cell? ⟨w1.heap.size, 0, none⟩ = some (.slice none 0 0) := (hb2.cell (p := ⟨w1.heap.size, 0, none⟩) (by go_size)).trans (by simp [go_sem])
  have c_s1_2 : w2.cell? ⟨w1.heap.size, 1, none⟩ = some (.bool false) := (hb2.cell (p := ⟨w1.heap.size, 1, none⟩) (by go_size)).trans (by simp [go_sem])
  have l_s_2 : w1.heap.size < w2.heap.size := Nat.lt_of_lt_of_le (by go_size) hb2.size
  clear  hb2 hs2
  go_wp2_with fail
  refine (eqGraph_true _ _ _ _ _ (fun _ => 0) _ _ (by omega) Src.nil Src.nil).mono ?_
  rintro e w3 ⟨rfl, hb3⟩
  have hs3 : Below w2.heap.size w2 w3 := (by go_grown : Below w2.heap.size w2 _).trans (hb3.mono (by go_size))
  have z3 : w2.heap.size ≤ w3.heap.size := hs3.size
  have HW3 := hide (HW2.out.trans (hs3.mono HW2.out.size))
  have c_s0_3 : w3.cell? ⟨w1.heap.size, 0, none⟩ = some (.slice none 0 0) := (hs3.cell (p := ⟨w1.heap.size, 0, none⟩) l_s_2).trans c_s0_2
  have c_s1_3 : w3.cell? ⟨w1.heap.size, 1, none⟩ = some (.bool false) := (hs3.cell (p := ⟨w1.heap.size, 1, none⟩) l_s_2).trans c_s1_2
  have l_s_3 : w1.heap.size < w3.heap.size := Nat.lt_of_lt_of_le l_s_2 z3
  have c_i0_3 : w3.cell? ⟨w2.heap.size, 0, none⟩ = some (.slice none 0 0) := (hb3.cell (p := ⟨w2.heap.size, 0, none⟩) (by go_size)).trans (by simp [go_sem])
  have c_i1_3 : w3.cell? ⟨w2.heap.size, 1, none⟩ = some (.bool false) := (hb3.cell (p := ⟨w2.heap.size, 1, none⟩) (by go_size)).trans (by simp [go_sem])
  have l_i_3 : w2.heap.size < w3.heap.size := Nat.lt_of_lt_of_le (by go_size) hb3.size
  clear c_s0_2 c_s1_2 l_s_2 hb3 hs3
  go_wp2_with fail
  refine (markGraph_none _ _ _ _ _).mono ?_
  rintro e w4 ⟨rfl, hb4⟩
  have hs4 : Below w3.heap.size w3 w4 := (by go_grown : Below w3.heap.size w3 _).trans (hb4.mono (by go_size))
  have z4 : w3.heap.size ≤ w4.heap.size := hs4.size
  have HW4 := hide (HW3.out.trans (hs4.mono HW3.out.size))
  have c_s0_4 : w4.cell? ⟨w1.heap.size, 0, none⟩ = some (.slice none 0 0) := (hs4.cell (p := ⟨w1.heap.size, 0, none⟩) l_s_3).trans c_s0_3
  have c_s1_4 : w4.cell? ⟨w1.heap.size, 1, none⟩ = some (.bool false) := (hs4.cell (p := ⟨w1.heap.size, 1, none⟩) l_s_3).trans c_s1_3
  have l_s_4 : w1.heap.size < w4.heap.size := Nat.lt_of_lt_of_le l_s_3 z4
  have c_i0_4 : w4.cell? ⟨w2.heap.size, 0, none⟩ = some (.slice none 0 0) := (hs4.cell (p := ⟨w2.heap.size, 0, none⟩) l_i_3).trans c_i0_3
  have c_i1_4 : w4.cell? ⟨w2.heap.size, 1, none⟩ = some (.bool false) := (hs4.cell (p := ⟨w2.heap.size, 1, none⟩) l_i_3).trans c_i1_3
  have l_i_4 : w2.heap.size < w4.heap.size := Nat.lt_of_lt_of_le l_i_3 z4
  clear c_s0_3 c_s1_3 l_s_3 c_i0_3 c_i1_3 l_i_3 hb4 hs4
  go_wp2_with fail
  refine (heldGraph_any _ 0 _ _ _ _ (by omega) (by omega) (by omega) Src.nil).mono ?_
  rintro e w5 ⟨rfl, hb5⟩
  have hs5 : Below w4.heap.size w4 w5 := (by go_grown : Below w4.heap.size w4 _).trans (hb5.mono (by go_size))
  have z5 : w4.heap.size ≤ w5.heap.size := hs5.size
  have HW5 := hide (HW4.out.trans (hs5.mono HW4.out.size))
  have c_s0_5 : w5.cell? ⟨w1.heap.size, 0, none⟩ = some (.slice none 0 0) := (hs5.cell (p := ⟨w1.heap.size, 0, none⟩) l_s_4).trans c_s0_4
  have c_s1_5 : w5.cell? ⟨w1.heap.size, 1, none⟩ = some (.bool false) := (hs5.cell (p := ⟨w1.heap.size, 1, none⟩) l_s_4).trans c_s1_4
  have l_s_5 : w1.heap.size < w5.heap.size := Nat.lt_of_lt_of_le l_s_4 z5
  have c_i0_5 : w5.cell? ⟨w2.heap.size, 0, none⟩ = some (.slice none 0 0) := (hs5.cell (p := ⟨w2.heap.size, 0, none⟩) l_i_4).trans c_i0_4
  have c_i1_5 : w5.cell? ⟨w2.heap.size, 1, none⟩ = some (.bool false) := (hs5.cell (p := ⟨w2.heap.size, 1, none⟩) l_i_4).trans c_i1_4
  have l_i_5 : w2.heap.size < w5.heap.size := Nat.lt_of_lt_of_le l_i_4 z5
  clear c_s0_4 c_s1_4 l_s_4 c_i0_4 c_i1_4 l_i_4 hb5 hs5
  go_wp2_with fail
  refine (HIM.out _).mono ?_
  rintro e w6 ⟨rfl, hb6⟩
  have hs6 : Below w5.heap.size w5 w6 := (by go_grown : Below w5.heap.size w5 _).trans (hb6.mono (by go_size))
  have z6 : w5.heap.size ≤ w6.heap.size := hs6.size
  have HW6 := hide (HW5.out.trans (hs6.mono HW5.out.size))
  have c_s0_6 : w6.cell? ⟨w1.heap.size, 0, none⟩ = some (.slice none 0 0) := (hs6.cell (p := ⟨w1.heap.size, 0, none⟩) l_s_5).trans c_s0_5
  have c_s1_6 : w6.cell? ⟨w1.heap.size, 1, none⟩ = some (.bool false) := (hs6.cell (p := ⟨w1.heap.size, 1, none⟩) l_s_5).trans c_s1_5
  have l_s_6 : w1.heap.size < w6.heap.size := Nat.lt_of_lt_of_le l_s_5 z6
  have c_i0_6 : w6.cell? ⟨w2.heap.size, 0, none⟩ = some (.slice none 0 0) := (hs6.cell (p := ⟨w2.heap.size, 0, none⟩) l_i_5).trans c_i0_5
  have c_i1_6 : w6.cell? ⟨w2.heap.size, 1, none⟩ = some (.bool false) := (hs6.cell (p := ⟨w2.heap.size, 1, none⟩) l_i_5).trans c_i1_5
  have l_i_6 : w2.heap.size < w6.heap.size := Nat.lt_of_lt_of_le l_i_5 z6
  clear c_s0_5 c_s1_5 l_s_5 c_i0_5 c_i1_5 l_i_5 hb6 hs6
  go_wp2_with fail
  refine (eqGraph_true _ _ _ _ _ (fun _ => 0) _ _ (by omega) Src.nil Src.nil).mono ?_
  rintro e w7 ⟨rfl, hb7⟩
  have hs7 : Below w6.heap.size w6 w7 := (by go_grown : Below w6.heap.size w6 _).trans (hb7.mono (by go_size))
  have z7 : w6.heap.size ≤ w7.heap.size := hs7.size
  have HW7 := hide (HW6.out.trans (hs7.mono HW6.out.size))
  have c_s0_7 : w7.cell? ⟨w1.heap.size, 0, none⟩ = some (.slice none 0 0) := (hs7.cell (p := ⟨w1.heap.size, 0, none⟩) l_s_6).trans c_s0_6
  have c_s1_7 : w7.cell? ⟨w1.heap.size, 1, none⟩ = some (.bool false) := (hs7.cell (p := ⟨w1.heap.size, 1, none⟩) l_s_6).trans c_s1_6
  have l_s_7 : w1.heap.size < w7.heap.size := Nat.lt_of_lt_of_le l_s_6 z7
  have c_i0_7 : w7.cell? ⟨w2.heap.size, 0, none⟩ = some (.slice none 0 0) := (hs7.cell (p := ⟨w2.heap.size, 0, none⟩) l_i_6).trans c_i0_6
  have c_i1_7 : w7.cell? ⟨w2.heap.size, 1, none⟩ = some (.bool false) := (hs7.cell (p := ⟨w2.heap.size, 1, none⟩) l_i_6).trans c_i1_6
  have l_i_7 : w2.heap.size < w7.heap.size := Nat.lt_of_lt_of_le l_i_6 z7
  have c_j0_7 : w7.cell? ⟨w6.heap.size, 0, none⟩ = some (.slice none 0 0) := (hb7.cell (p := ⟨w6.heap.size, 0, none⟩) (by go_size)).trans (by simp [go_sem])
  have c_j1_7 : w7.cell? ⟨w6.heap.size, 1, none⟩ = some (.bool false) := (hb7.cell (p := ⟨w6.heap.size, 1, none⟩) (by go_size)).trans (by simp [go_sem])
  have l_j_7 : w6.heap.size < w7.heap.size := Nat.lt_of_lt_of_le (by go_size) hb7.size
  clear c_s0_6 c_s1_6 l_s_6 c_i0_6 c_i1_6 l_i_6 hb7 hs7
  go_wp2_with fail
  refine (heldGraph_any _ 0 _ _ _ _ (by omega) (by omega) (by omega) Src.nil).mono ?_
  rintro e w8 ⟨rfl, hb8⟩
  have hs8 : Below w7.heap.size w7 w8 := (by go_grown : Below w7.heap.size w7 _).trans (hb8.mono (by go_size))
  have z8 : w7.heap.size ≤ w8.heap.size := hs8.size
  have HW8 := hide (HW7.out.trans (hs8.mono HW7.out.size))
  have c_s0_8 : w8.cell? ⟨w1.heap.size, 0, none⟩ = some (.slice none 0 0) := (hs8.cell (p := ⟨w1.heap.size, 0, none⟩) l_s_7).trans c_s0_7
  have c_s1_8 : w8.cell? ⟨w1.heap.size, 1, none⟩ = some (.bool false) := (hs8.cell (p := ⟨w1.heap.size, 1, none⟩) l_s_7).trans c_s1_7
  have l_s_8 : w1.heap.size < w8.heap.size := Nat.lt_of_lt_of_le l_s_7 z8
  have c_i0_8 : w8.cell? ⟨w2.heap.size, 0, none⟩ = some (.slice none 0 0) := (hs8.cell (p := ⟨w2.heap.size, 0, none⟩) l_i_7).trans c_i0_7
  have c_i1_8 : w8.cell? ⟨w2.heap.size, 1, none⟩ = some (.bool false) := (hs8.cell (p := ⟨w2.heap.size, 1, none⟩) l_i_7).trans c_i1_7
  have l_i_8 : w2.heap.size < w8.heap.size := Nat.lt_of_lt_of_le l_i_7 z8
  have c_j0_8 : w8.cell? ⟨w6.heap.size, 0, none⟩ = some (.slice none 0 0) := (hs8.cell (p := ⟨w6.heap.size, 0, none⟩) l_j_7).trans c_j0_7
  have c_j1_8 : w8.cell? ⟨w6.heap.size, 1, none⟩ = some (.bool false) := (hs8.cell (p := ⟨w6.heap.size, 1, none⟩) l_j_7).trans c_j1_7
  have l_j_8 : w6.heap.size < w8.heap.size := Nat.lt_of_lt_of_le l_j_7 z8
  clear c_s0_7 c_s1_7 l_s_7 c_i0_7 c_i1_7 l_i_7 c_j0_7 c_j1_7 l_j_7 hb8 hs8
  go_wp2
  go_ret
  exact ⟨rfl, by have h := HW8.out; have hz := h.size; go_grown⟩

end Go.Proofs.Ytmcimfblhpflnaa
