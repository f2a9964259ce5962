/-
ProductGraph's law where there is a product.
-/
import Derived.Test.YtdpoceijnbbmgaaDoorPK
import Derived.Deep.RegionHeld3
namespace Go.Proofs.YtdpoceijnbbmgaaDoor
open Go.RowKit
set_option maxHeartbeats 4000000
set_option maxRecDepth 8000
theorem lawProd_ok (A : Option Addr) (n c : Nat) (B : Option Addr) (m c' : Nat) (f h : Nat → Int) (own : Bool) (N : Nat) (R : Nat → Int) (w : World) (hn2 : n ≤ 1048576) (hm2 : m ≤ 1048576 - n) (hm3 : m ≤ 1048576) (hN : N ≤ 65536) (HSP : Hid (∀ (g c g' c' : Nat) (w : World), Arr w 3 g n (iv f) → Arr w 3 g' m (iv h) → Calls Tryd.prog 12 #[.agg #[.slice (some ⟨g, 0, none⟩) n c, .bool own], .agg #[.slice (some ⟨g', 0, none⟩) m c', .bool own]] w (GraphOk w N R own))) (HIM : Hid (∀ (g c g' c' : Nat) (w : World), Tab w → Arr w 3 g n (iv f) → Arr w 3 g' m (iv h) → Calls Tryd.prog 14 #[.agg #[.slice (some ⟨g, 0, none⟩) n c, .bool own], .agg #[.slice (some ⟨g', 0, none⟩) m c', .bool own]] w (GraphOk w N R own))) (HS_A : Hid (Src w A n (iv f))) (HS_B : Hid (Src w B m (iv h))) (HT : Hid (Tab w)) :
    Calls Tryd.prog 3 #[.agg #[.slice A n c, .bool own], .agg #[.slice B m c', .bool own]] w fun e w' => e = .returned (.bool true) ∧ Below w.heap.size w w' := by
  go_enter Tryd.func3, Tryd.ntmps3
  go_wp2_with fail
  refine (szGraph_ok _ _ _ _ _ _ (by omega) (by omega)).mono ?_
  rintro e w1 ⟨rfl, hb1⟩
  have hs1 : Below w.heap.size w w1 := (by go_grown : Below w.heap.size w _).trans (hb1.mono (by go_size))
  have z1 : w.heap.size ≤ w1.heap.size := hs1.size
  have HW1 := hide hs1
  have c_aG0_1 : w1.cell? ⟨w.heap.size, 0, none⟩ = some (.slice A n c) := (hb1.cell (p := ⟨w.heap.size, 0, none⟩) (by go_size)).trans (by simp [go_sem])
  have c_aG1_1 : w1.cell? ⟨w.heap.size, 1, none⟩ = some (.bool own) := (hb1.cell (p := ⟨w.heap.size, 1, none⟩) (by go_size)).trans (by simp [go_sem])
  have l_aG_1 : w.heap.size < w1.heap.size := Nat.lt_of_lt_of_le (by go_size) hb1.size
  have c_aH0_1 : w1.cell? ⟨w.heap.size + 1, 0, none⟩ = some (.slice B m c') := (hb1.cell (p := ⟨w.heap.size + 1, 0, none⟩) (by go_size)).trans (by simp [go_sem])
  have c_aH1_1 : w1.cell? ⟨w.heap.size + 1, 1, none⟩ = some (.bool own) := (hb1.cell (p := ⟨w.heap.size + 1, 1, none⟩) (by go_size)).trans (by simp [go_sem])
  have l_aH_1 : w.heap.size + 1 < w1.heap.size := Nat.lt_of_lt_of_le (by go_size) hb1.size
  clear  hb1 hs1
  go_wp2_with fail
  refine (szGraph_ok _ _ _ _ _ _ (by omega) (by omega)).mono ?_
  rintro e w2 ⟨rfl, hb2⟩
  have hs2 : Below w1.heap.size w1 w2 := (by go_grown : Below w1.heap.size w1 _).trans (hb2.mono (by go_size))
  have z2 : w1.heap.size ≤ w2.heap.size := hs2.size
  have HW2 := hide (HW1.out.trans (hs2.mono HW1.out.size))
  have c_aG0_2 : w2.cell? ⟨w.heap.size, 0, none⟩ = some (.slice A n c) := (hs2.cell (p := ⟨w.heap.size, 0, none⟩) l_aG_1).trans c_aG0_1
  have c_aG1_2 : w2.cell? ⟨w.heap.size, 1, none⟩ = some (.bool own) := (hs2.cell (p := ⟨w.heap.size, 1, none⟩) l_aG_1).trans c_aG1_1
  have l_aG_2 : w.heap.size < w2.heap.size := Nat.lt_of_lt_of_le l_aG_1 z2
  have c_aH0_2 : w2.cell? ⟨w.heap.size + 1, 0, none⟩ = some (.slice B m c') := (hs2.cell (p := ⟨w.heap.size + 1, 0, none⟩) l_aH_1).trans c_aH0_1
  have c_aH1_2 : w2.cell? ⟨w.heap.size + 1, 1, none⟩ = some (.bool own) := (hs2.cell (p := ⟨w.heap.size + 1, 1, none⟩) l_aH_1).trans c_aH1_1
  have l_aH_2 : w.heap.size + 1 < w2.heap.size := Nat.lt_of_lt_of_le l_aH_1 z2
  clear c_aG0_1 c_aG1_1 l_aG_1 c_aH0_1 c_aH1_1 l_aH_1 hb2 hs2
  go_wp2_with fail
  have KK : Hid (w2.drew.cell? ⟨w.heap.size, 0, none⟩ = some (.slice A n c) ∧ w2.drew.cell? ⟨w.heap.size, 1, none⟩ = some (.bool own) ∧ w2.drew.cell? ⟨w.heap.size + 1, 0, none⟩ = some (.slice B m c') ∧ w2.drew.cell? ⟨w.heap.size + 1, 1, none⟩ = some (.bool own)) := hide ⟨c_aG0_2, c_aG1_2, c_aH0_2, c_aH1_2⟩
  have SA2 := hide (HS_A.out.below HW2.out)
  have SB2 := hide (HS_B.out.below HW2.out)
  have KC : Hid (w2.cell? ⟨w.heap.size, 0, none⟩ = some (.slice A n c) ∧ w2.cell? ⟨w.heap.size, 1, none⟩ = some (.bool own) ∧ w2.cell? ⟨w.heap.size + 1, 0, none⟩ = some (.slice B m c') ∧ w2.cell? ⟨w.heap.size + 1, 1, none⟩ = some (.bool own)) := hide ⟨c_aG0_2, c_aG1_2, c_aH0_2, c_aH1_2⟩
  clear c_aG0_2 c_aG1_2 c_aH0_2 c_aH1_2
  apply joinCutOk w2 N R own
  case reg =>
    go_region_held3 (fun w' => w'.cell? ⟨w.heap.size, 0, none⟩ = some (.slice A n c) ∧ w'.cell? ⟨w.heap.size, 1, none⟩ = some (.bool own) ∧ w'.cell? ⟨w.heap.size + 1, 0, none⟩ = some (.slice B m c') ∧ w'.cell? ⟨w.heap.size + 1, 1, none⟩ = some (.bool own)) (((repeat (first | exact KK.out | refine four_alloc _ ?_ | refine four_set (by first | omega | (simp; omega)) (by first | omega | (simp; omega)) ?_ | refine four_below (by assumption) ?_)); done)) (first | (go_at_call 13; refine (toGraph_src (by first | with_reducible exact Src.drew SA2.out | exact Src.alloc (Src.drew SA2.out) _) (by omega)).mono ?_; rintro e u3 ⟨g3, rfl, lo_g3, ha3, hb3⟩; have HA3 := hide ha3; clear ha3; have zs3 : w2.heap.size ≤ u3.heap.size := (by have hzz := hb3.size; (try simp at hzz); omega); (try have HX := hide ((Arr.box w2 26 (.slice none 0 0) (.bool false)).drew.all hb3))) | (go_at_call 13; refine (toGraph_src (by first | with_reducible exact Src.below (Src.drew SB2.out) (by assumption) | exact Src.alloc (Src.below (Src.drew SB2.out) (by assumption)) _ | exact Src.below (Src.alloc (Src.drew SB2.out) _) (by assumption)) (by omega)).mono ?_; rintro e u4 ⟨g4, rfl, lo_g4, ha4, hb4⟩; have HA4 := hide ha4; clear ha4; have zs4 : w2.heap.size ≤ u4.heap.size := (by have hzz := hb4.size; (try simp at hzz); omega); first | have HX := hide (HX.out.all hb4) | have HX := hide ((Arr.box u3 26 (.slice none 0 0) (.bool false)).all hb4) | skip) | (go_at_call 12; refine (HSP.out _ _ _ _ _ (by first | exact HA3.out.all hb4 | exact (HA3.out.all hb4).alloc _ | exact (HA3.out.alloc _).all hb4) (by first | exact HA4.out | exact HA4.out.alloc _)).mono ?_; rintro e u5 ⟨g5, c5, rfl, lo_g5, ha5, hb5⟩; have HA5 := hide ha5; clear ha5; have zs5 : w2.heap.size ≤ u5.heap.size := (by have hzz := hb5.size; (try simp at hzz); omega); (try first | have HX := hide (HX.out.all hb5) | have HX := hide ((Arr.box u4 26 (.slice none 0 0) (.bool false)).all hb5)); try (have x0 := HX.out.cell (k := 0) (by omega); have x1 := HX.out.cell (k := 1) (by omega); have xf := HX.out.frozen 0; have xg := HX.out.frozen 1)) | fail "NOARM")
    all_goals
      first
      | (obtain ⟨g6, hg6⟩ : ∃ g, u5.heap.size = g := ⟨_, rfl⟩; rw [hg6]; refine ⟨g3, g4, g6, g5, c5, rfl, rfl, ?_⟩; subst hg6)
      | (obtain ⟨g6, hg6⟩ : ∃ g, u4.heap.size = g := ⟨_, rfl⟩; rw [hg6]; refine ⟨g3, g4, g6, g5, c5, rfl, rfl, ?_⟩; subst hg6)
      | (obtain ⟨g6, hg6⟩ : ∃ g, u3.heap.size = g := ⟨_, rfl⟩; rw [hg6]; refine ⟨g3, g4, g6, g5, c5, rfl, rfl, ?_⟩; subst hg6)
      | (obtain ⟨g6, hg6⟩ : ∃ g, w2.drew.heap.size = g := ⟨_, rfl⟩; rw [hg6]; refine ⟨g3, g4, g6, g5, c5, rfl, rfl, ?_⟩; subst hg6)
      | (obtain ⟨g6, hg6⟩ : ∃ g, w2.heap.size = g := ⟨_, rfl⟩; rw [hg6]; refine ⟨g3, g4, g6, g5, c5, rfl, rfl, ?_⟩; subst hg6)
      have LO5 : w2.heap.size ≤ g5 := (by (try simp at lo_g5); omega)
      first
      | refine joinKeepOk ?_ (by first | omega | (simp; omega)) LO5 HX.out HA5.out
      | refine joinKeepOk0 ?_ (by first | omega | (simp; omega)) LO5 (Arr.box u5 26 _ _) (HA5.out.alloc _)
      | refine joinKeepOk ?_ (by first | omega | (simp; omega)) LO5 (Arr.box u5 26 _ _) (HA5.out.alloc _)
      repeat (first | exact Below.drew (Below.refl _ _) | refine Below.alloc ?_ (by go_size) _ | refine below_step (by assumption) (by go_size) ?_ | refine Below.drew ?_ | exact Below.refl _ _)
  case cont =>
    intro q3 q4 b3 g3 c_g3 w3 hJ
    obtain ⟨⟨hb3, lo_b3, fJ, hJa, e0, e1⟩, lo_g3, haJ⟩ := hJ
    obtain ⟨c_aG0_2, c_aG1_2, c_aH0_2, c_aH1_2⟩ := KC.out
    clear KC KK SA2 SB2
    have hjl : b3 < w3.heap.size := hJa.lt
    have x0 : w3.cell? ⟨b3, 0, none⟩ = some (.slice (some ⟨g3, 0, none⟩) N c_g3) := by rw [hJa.cell (k := 0) (by omega), e0]
    have x1 : w3.cell? ⟨b3, 1, none⟩ = some (.bool own) := by rw [hJa.cell (k := 1) (by omega), e1]
    clear hJa e0 e1 fJ
    have hs3 : Below w2.heap.size w2 w3 := (by go_grown : Below w2.heap.size w2 _).trans (hb3.mono (by go_size))
    have z3 : w2.heap.size ≤ w3.heap.size := hs3.size
    have HW3 := hide (HW2.out.trans (hs3.mono HW2.out.size))
    have c_aG0_3 : w3.cell? ⟨w.heap.size, 0, none⟩ = some (.slice A n c) := (hs3.cell (p := ⟨w.heap.size, 0, none⟩) l_aG_2).trans c_aG0_2
    have c_aG1_3 : w3.cell? ⟨w.heap.size, 1, none⟩ = some (.bool own) := (hs3.cell (p := ⟨w.heap.size, 1, none⟩) l_aG_2).trans c_aG1_2
    have l_aG_3 : w.heap.size < w3.heap.size := Nat.lt_of_lt_of_le l_aG_2 z3
    have c_aH0_3 : w3.cell? ⟨w.heap.size + 1, 0, none⟩ = some (.slice B m c') := (hs3.cell (p := ⟨w.heap.size + 1, 0, none⟩) l_aH_2).trans c_aH0_2
    have c_aH1_3 : w3.cell? ⟨w.heap.size + 1, 1, none⟩ = some (.bool own) := (hs3.cell (p := ⟨w.heap.size + 1, 1, none⟩) l_aH_2).trans c_aH1_2
    have l_aH_3 : w.heap.size + 1 < w3.heap.size := Nat.lt_of_lt_of_le l_aH_2 z3
    have HA_s_3 := hide haJ
    have hi_s_3 : g3 < w3.heap.size := haJ.lt
    clear c_aG0_2 c_aG1_2 l_aG_2 c_aH0_2 c_aH1_2 l_aH_2 haJ hb3 hs3
    have c_s0_3 := x0
    have c_s1_3 := x1
    have l_s_3 : b3 < w3.heap.size := hjl
    clear x0 x1 hjl
    have k_aG_3 : w.heap.size < w3.heap.size := l_aG_3
    have k_aH_3 : w.heap.size + 1 < w3.heap.size := l_aH_3
    have k_s_3 : b3 < w3.heap.size := l_s_3
    go_wp2_with fail
    refine (toGraph_any _ _ _ f _ _ hn2 (by first | exact (HS_A.out.below HW3.out) | exact Src.alloc (HS_A.out.below HW3.out) _ | exact Src.alloc (Src.alloc (HS_A.out.below HW3.out) _) _ | exact Src.drew (HS_A.out.below HW3.out))).mono ?_
    rintro e w4 ⟨g4, rfl, lo_g4, ha_r, hb4⟩
    try simp only [World.size_alloc] at lo_g4
    have hs4 : Below w3.heap.size w3 w4 := (by go_grown : Below w3.heap.size w3 _).trans (hb4.mono (by go_size))
    have z4 : w3.heap.size ≤ w4.heap.size := hs4.size
    have HW4 := hide (HW3.out.trans (hs4.mono HW3.out.size))
    have c_aG0_4 : w4.cell? ⟨w.heap.size, 0, none⟩ = some (.slice A n c) := (hs4.cell (p := ⟨w.heap.size, 0, none⟩) l_aG_3).trans c_aG0_3
    have c_aG1_4 : w4.cell? ⟨w.heap.size, 1, none⟩ = some (.bool own) := (hs4.cell (p := ⟨w.heap.size, 1, none⟩) l_aG_3).trans c_aG1_3
    have l_aG_4 : w.heap.size < w4.heap.size := Nat.lt_of_lt_of_le l_aG_3 z4
    have c_aH0_4 : w4.cell? ⟨w.heap.size + 1, 0, none⟩ = some (.slice B m c') := (hs4.cell (p := ⟨w.heap.size + 1, 0, none⟩) l_aH_3).trans c_aH0_3
    have c_aH1_4 : w4.cell? ⟨w.heap.size + 1, 1, none⟩ = some (.bool own) := (hs4.cell (p := ⟨w.heap.size + 1, 1, none⟩) l_aH_3).trans c_aH1_3
    have l_aH_4 : w.heap.size + 1 < w4.heap.size := Nat.lt_of_lt_of_le l_aH_3 z4
    have c_s0_4 : w4.cell? ⟨b3, 0, none⟩ = some (.slice (some ⟨g3, 0, none⟩) N c_g3) := (hs4.cell (p := ⟨b3, 0, none⟩) l_s_3).trans c_s0_3
    have c_s1_4 : w4.cell? ⟨b3, 1, none⟩ = some (.bool own) := (hs4.cell (p := ⟨b3, 1, none⟩) l_s_3).trans c_s1_3
    have l_s_4 : b3 < w4.heap.size := Nat.lt_of_lt_of_le l_s_3 z4
    have HA_s_4 := hide (HA_s_3.out.all hs4)
    have HA_x_4 := hide ha_r
    have hi_x_4 : g4 < w4.heap.size := ha_r.lt
    clear c_aG0_3 c_aG1_3 l_aG_3 c_aH0_3 c_aH1_3 l_aH_3 c_s0_3 c_s1_3 l_s_3 HA_s_3 ha_r hb4 hs4
    go_wp2_with fail
    refine (toGraph_any _ _ _ h _ _ hm3 (by first | exact (HS_B.out.below HW4.out) | exact Src.alloc (HS_B.out.below HW4.out) _ | exact Src.alloc (Src.alloc (HS_B.out.below HW4.out) _) _ | exact Src.drew (HS_B.out.below HW4.out))).mono ?_
    rintro e w5 ⟨g5, rfl, lo_g5, ha_r, hb5⟩
    try simp only [World.size_alloc] at lo_g5
    have hs5 : Below w4.heap.size w4 w5 := (by go_grown : Below w4.heap.size w4 _).trans (hb5.mono (by go_size))
    have z5 : w4.heap.size ≤ w5.heap.size := hs5.size
    have HW5 := hide (HW4.out.trans (hs5.mono HW4.out.size))
    have c_aG0_5 : w5.cell? ⟨w.heap.size, 0, none⟩ = some (.slice A n c) := (hs5.cell (p := ⟨w.heap.size, 0, none⟩) l_aG_4).trans c_aG0_4
    have c_aG1_5 : w5.cell? ⟨w.heap.size, 1, none⟩ = some (.bool own) := (hs5.cell (p := ⟨w.heap.size, 1, none⟩) l_aG_4).trans c_aG1_4
    have l_aG_5 : w.heap.size < w5.heap.size := Nat.lt_of_lt_of_le l_aG_4 z5
    have c_aH0_5 : w5.cell? ⟨w.heap.size + 1, 0, none⟩ = some (.slice B m c') := (hs5.cell (p := ⟨w.heap.size + 1, 0, none⟩) l_aH_4).trans c_aH0_4
    have c_aH1_5 : w5.cell? ⟨w.heap.size + 1, 1, none⟩ = some (.bool own) := (hs5.cell (p := ⟨w.heap.size + 1, 1, none⟩) l_aH_4).trans c_aH1_4
    have l_aH_5 : w.heap.size + 1 < w5.heap.size := Nat.lt_of_lt_of_le l_aH_4 z5
    have c_s0_5 : w5.cell? ⟨b3, 0, none⟩ = some (.slice (some ⟨g3, 0, none⟩) N c_g3) := (hs5.cell (p := ⟨b3, 0, none⟩) l_s_4).trans c_s0_4
    have c_s1_5 : w5.cell? ⟨b3, 1, none⟩ = some (.bool own) := (hs5.cell (p := ⟨b3, 1, none⟩) l_s_4).trans c_s1_4
    have l_s_5 : b3 < w5.heap.size := Nat.lt_of_lt_of_le l_s_4 z5
    have c_x0_5 : w5.cell? ⟨w4.heap.size, 0, none⟩ = some (.slice (some ⟨g4, 0, none⟩) n n) := (hb5.cell (p := ⟨w4.heap.size, 0, none⟩) (by go_size)).trans (by simp [go_sem])
    have c_x1_5 : w5.cell? ⟨w4.heap.size, 1, none⟩ = some (.bool own) := (hb5.cell (p := ⟨w4.heap.size, 1, none⟩) (by go_size)).trans (by simp [go_sem])
    have l_x_5 : w4.heap.size < w5.heap.size := Nat.lt_of_lt_of_le (by go_size) hb5.size
    have HA_s_5 := hide (HA_s_4.out.all hs5)
    have HA_x_5 := hide (HA_x_4.out.all hs5)
    have HA_y_5 := hide ha_r
    have hi_y_5 : g5 < w5.heap.size := ha_r.lt
    clear c_aG0_4 c_aG1_4 l_aG_4 c_aH0_4 c_aH1_4 l_aH_4 c_s0_4 c_s1_4 l_s_4 HA_s_4 HA_x_4 ha_r hb5 hs5
    go_wp2_with fail
    refine (HIM.out _ _ _ _ _ (by first | exact (HT.out.below HW5.out) | exact Tab.below (HT.out.below HW5.out) (by go_grown)) (by first | exact HA_x_5.out | exact HA_x_5.out.alloc _ | exact (HA_x_5.out.alloc _).alloc _ | exact HA_x_5.out.drew) (by first | exact HA_y_5.out | exact HA_y_5.out.alloc _ | exact (HA_y_5.out.alloc _).alloc _ | exact HA_y_5.out.drew)).mono ?_
    rintro e w6 ⟨g6, c_g6, rfl, lo_g6, ha_r, hb6⟩
    try simp only [World.size_alloc] at lo_g6
    have hs6 : Below w5.heap.size w5 w6 := (by go_grown : Below w5.heap.size w5 _).trans (hb6.mono (by go_size))
    have z6 : w5.heap.size ≤ w6.heap.size := hs6.size
    have HW6 := hide (HW5.out.trans (hs6.mono HW5.out.size))
    have c_aG0_6 : w6.cell? ⟨w.heap.size, 0, none⟩ = some (.slice A n c) := (hs6.cell (p := ⟨w.heap.size, 0, none⟩) l_aG_5).trans c_aG0_5
    have c_aG1_6 : w6.cell? ⟨w.heap.size, 1, none⟩ = some (.bool own) := (hs6.cell (p := ⟨w.heap.size, 1, none⟩) l_aG_5).trans c_aG1_5
    have l_aG_6 : w.heap.size < w6.heap.size := Nat.lt_of_lt_of_le l_aG_5 z6
    have c_aH0_6 : w6.cell? ⟨w.heap.size + 1, 0, none⟩ = some (.slice B m c') := (hs6.cell (p := ⟨w.heap.size + 1, 0, none⟩) l_aH_5).trans c_aH0_5
    have c_aH1_6 : w6.cell? ⟨w.heap.size + 1, 1, none⟩ = some (.bool own) := (hs6.cell (p := ⟨w.heap.size + 1, 1, none⟩) l_aH_5).trans c_aH1_5
    have l_aH_6 : w.heap.size + 1 < w6.heap.size := Nat.lt_of_lt_of_le l_aH_5 z6
    have c_s0_6 : w6.cell? ⟨b3, 0, none⟩ = some (.slice (some ⟨g3, 0, none⟩) N c_g3) := (hs6.cell (p := ⟨b3, 0, none⟩) l_s_5).trans c_s0_5
    have c_s1_6 : w6.cell? ⟨b3, 1, none⟩ = some (.bool own) := (hs6.cell (p := ⟨b3, 1, none⟩) l_s_5).trans c_s1_5
    have l_s_6 : b3 < w6.heap.size := Nat.lt_of_lt_of_le l_s_5 z6
    have c_x0_6 : w6.cell? ⟨w4.heap.size, 0, none⟩ = some (.slice (some ⟨g4, 0, none⟩) n n) := (hs6.cell (p := ⟨w4.heap.size, 0, none⟩) l_x_5).trans c_x0_5
    have c_x1_6 : w6.cell? ⟨w4.heap.size, 1, none⟩ = some (.bool own) := (hs6.cell (p := ⟨w4.heap.size, 1, none⟩) l_x_5).trans c_x1_5
    have l_x_6 : w4.heap.size < w6.heap.size := Nat.lt_of_lt_of_le l_x_5 z6
    have c_y0_6 : w6.cell? ⟨w5.heap.size, 0, none⟩ = some (.slice (some ⟨g5, 0, none⟩) m m) := (hb6.cell (p := ⟨w5.heap.size, 0, none⟩) (by go_size)).trans (by simp [go_sem])
    have c_y1_6 : w6.cell? ⟨w5.heap.size, 1, none⟩ = some (.bool own) := (hb6.cell (p := ⟨w5.heap.size, 1, none⟩) (by go_size)).trans (by simp [go_sem])
    have l_y_6 : w5.heap.size < w6.heap.size := Nat.lt_of_lt_of_le (by go_size) hb6.size
    have HA_s_6 := hide (HA_s_5.out.all hs6)
    have HA_x_6 := hide (HA_x_5.out.all hs6)
    have HA_y_6 := hide (HA_y_5.out.all hs6)
    have HA_i_6 := hide ha_r
    have hi_i_6 : g6 < w6.heap.size := ha_r.lt
    clear c_aG0_5 c_aG1_5 l_aG_5 c_aH0_5 c_aH1_5 l_aH_5 c_s0_5 c_s1_5 l_s_5 c_x0_5 c_x1_5 l_x_5 HA_s_5 HA_x_5 HA_y_5 ha_r hb6 hs6
    go_wp2_with fail
    refine (eqGraph_true _ _ _ _ _ R _ _ (by omega) (by first | exact Src.of_arr HA_i_6.out | exact Src.of_arr (HA_i_6.out.alloc _) | exact Src.of_arr ((HA_i_6.out.alloc _).alloc _) | exact Src.of_arr HA_i_6.out.drew) (by first | exact Src.of_arr HA_s_6.out | exact Src.of_arr (HA_s_6.out.alloc _) | exact Src.of_arr ((HA_s_6.out.alloc _).alloc _) | exact Src.of_arr HA_s_6.out.drew)).mono ?_
    rintro e w7 ⟨rfl, hb7⟩
    have hs7 : Below w6.heap.size w6 w7 := (by go_grown : Below w6.heap.size w6 _).trans (hb7.mono (by go_size))
    have z7 : w6.heap.size ≤ w7.heap.size := hs7.size
    have HW7 := hide (HW6.out.trans (hs7.mono HW6.out.size))
    have c_aG0_7 : w7.cell? ⟨w.heap.size, 0, none⟩ = some (.slice A n c) := (hs7.cell (p := ⟨w.heap.size, 0, none⟩) l_aG_6).trans c_aG0_6
    have c_aG1_7 : w7.cell? ⟨w.heap.size, 1, none⟩ = some (.bool own) := (hs7.cell (p := ⟨w.heap.size, 1, none⟩) l_aG_6).trans c_aG1_6
    have l_aG_7 : w.heap.size < w7.heap.size := Nat.lt_of_lt_of_le l_aG_6 z7
    have c_aH0_7 : w7.cell? ⟨w.heap.size + 1, 0, none⟩ = some (.slice B m c') := (hs7.cell (p := ⟨w.heap.size + 1, 0, none⟩) l_aH_6).trans c_aH0_6
    have c_aH1_7 : w7.cell? ⟨w.heap.size + 1, 1, none⟩ = some (.bool own) := (hs7.cell (p := ⟨w.heap.size + 1, 1, none⟩) l_aH_6).trans c_aH1_6
    have l_aH_7 : w.heap.size + 1 < w7.heap.size := Nat.lt_of_lt_of_le l_aH_6 z7
    have c_s0_7 : w7.cell? ⟨b3, 0, none⟩ = some (.slice (some ⟨g3, 0, none⟩) N c_g3) := (hs7.cell (p := ⟨b3, 0, none⟩) l_s_6).trans c_s0_6
    have c_s1_7 : w7.cell? ⟨b3, 1, none⟩ = some (.bool own) := (hs7.cell (p := ⟨b3, 1, none⟩) l_s_6).trans c_s1_6
    have l_s_7 : b3 < w7.heap.size := Nat.lt_of_lt_of_le l_s_6 z7
    have c_x0_7 : w7.cell? ⟨w4.heap.size, 0, none⟩ = some (.slice (some ⟨g4, 0, none⟩) n n) := (hs7.cell (p := ⟨w4.heap.size, 0, none⟩) l_x_6).trans c_x0_6
    have c_x1_7 : w7.cell? ⟨w4.heap.size, 1, none⟩ = some (.bool own) := (hs7.cell (p := ⟨w4.heap.size, 1, none⟩) l_x_6).trans c_x1_6
    have l_x_7 : w4.heap.size < w7.heap.size := Nat.lt_of_lt_of_le l_x_6 z7
    have c_y0_7 : w7.cell? ⟨w5.heap.size, 0, none⟩ = some (.slice (some ⟨g5, 0, none⟩) m m) := (hs7.cell (p := ⟨w5.heap.size, 0, none⟩) l_y_6).trans c_y0_6
    have c_y1_7 : w7.cell? ⟨w5.heap.size, 1, none⟩ = some (.bool own) := (hs7.cell (p := ⟨w5.heap.size, 1, none⟩) l_y_6).trans c_y1_6
    have l_y_7 : w5.heap.size < w7.heap.size := Nat.lt_of_lt_of_le l_y_6 z7
    have c_i0_7 : w7.cell? ⟨w6.heap.size, 0, none⟩ = some (.slice (some ⟨g6, 0, none⟩) N c_g6) := (hb7.cell (p := ⟨w6.heap.size, 0, none⟩) (by go_size)).trans (by simp [go_sem])
    have c_i1_7 : w7.cell? ⟨w6.heap.size, 1, none⟩ = some (.bool own) := (hb7.cell (p := ⟨w6.heap.size, 1, none⟩) (by go_size)).trans (by simp [go_sem])
    have l_i_7 : w6.heap.size < w7.heap.size := Nat.lt_of_lt_of_le (by go_size) hb7.size
    have HA_s_7 := hide (HA_s_6.out.all hs7)
    have HA_x_7 := hide (HA_x_6.out.all hs7)
    have HA_y_7 := hide (HA_y_6.out.all hs7)
    have HA_i_7 := hide (HA_i_6.out.all hs7)
    clear c_aG0_6 c_aG1_6 l_aG_6 c_aH0_6 c_aH1_6 l_aH_6 c_s0_6 c_s1_6 l_s_6 c_x0_6 c_x1_6 l_x_6 c_y0_6 c_y1_6 l_y_6 HA_s_6 HA_x_6 HA_y_6 HA_i_6 hb7 hs7
    go_wp2_with fail
    have KK : Hid (w7.drew.cell? ⟨w4.heap.size, 0, none⟩ = some (.slice (some ⟨g4, 0, none⟩) n n) ∧ w7.drew.cell? ⟨w4.heap.size, 1, none⟩ = some (.bool own) ∧ w7.drew.cell? ⟨w.heap.size, 0, none⟩ = some (.slice A n c) ∧ w7.drew.cell? ⟨w.heap.size, 1, none⟩ = some (.bool own)) := hide ⟨c_x0_7, c_x1_7, c_aG0_7, c_aG1_7⟩
    go_region_held3 (fun w' => w'.cell? ⟨w4.heap.size, 0, none⟩ = some (.slice (some ⟨g4, 0, none⟩) n n) ∧ w'.cell? ⟨w4.heap.size, 1, none⟩ = some (.bool own) ∧ w'.cell? ⟨w.heap.size, 0, none⟩ = some (.slice A n c) ∧ w'.cell? ⟨w.heap.size, 1, none⟩ = some (.bool own)) (first | exact KK.out | exact four_below (by assumption) KK.out | exact four_below (by assumption) (four_below (by assumption) KK.out)) (first | (go_at_call 13; refine (toGraph_any _ _ _ f _ _ hn2 (by exact Src.drew (HS_A.out.below HW7.out))).mono ?_; rintro e w8 ⟨g8, rfl, lo_g8, ha_r, hb8⟩; have HA_r := hide ha_r; clear ha_r) | (go_at_call 15; refine (eqGraph_true _ _ _ _ _ f _ _ hn2 (by exact Src.of_arr ((HA_x_7.out.drew).all hb8)) (by exact Src.of_arr HA_r.out)).mono ?_; rintro e w9 ⟨rfl, hb9⟩))
    have hbr : Below w7.heap.size w7 w9 := (Below.drew (Below.refl _ _)).trans (Below.trans hb8 (hb9.mono hb8.size))
    clear KK HA_r lo_g8 hb8 hb9
    have hb9 := hbr
    clear hbr
    have hs9 : Below w7.heap.size w7 w9 := (by go_grown : Below w7.heap.size w7 _).trans (hb9.mono (by go_size))
    have z9 : w7.heap.size ≤ w9.heap.size := hs9.size
    have HW9 := hide (HW7.out.trans (hs9.mono HW7.out.size))
    have c_aG0_9 : w9.cell? ⟨w.heap.size, 0, none⟩ = some (.slice A n c) := (hs9.cell (p := ⟨w.heap.size, 0, none⟩) l_aG_7).trans c_aG0_7
    have c_aG1_9 : w9.cell? ⟨w.heap.size, 1, none⟩ = some (.bool own) := (hs9.cell (p := ⟨w.heap.size, 1, none⟩) l_aG_7).trans c_aG1_7
    have l_aG_9 : w.heap.size < w9.heap.size := Nat.lt_of_lt_of_le l_aG_7 z9
    have c_aH0_9 : w9.cell? ⟨w.heap.size + 1, 0, none⟩ = some (.slice B m c') := (hs9.cell (p := ⟨w.heap.size + 1, 0, none⟩) l_aH_7).trans c_aH0_7
    have c_aH1_9 : w9.cell? ⟨w.heap.size + 1, 1, none⟩ = some (.bool own) := (hs9.cell (p := ⟨w.heap.size + 1, 1, none⟩) l_aH_7).trans c_aH1_7
    have l_aH_9 : w.heap.size + 1 < w9.heap.size := Nat.lt_of_lt_of_le l_aH_7 z9
    have c_s0_9 : w9.cell? ⟨b3, 0, none⟩ = some (.slice (some ⟨g3, 0, none⟩) N c_g3) := (hs9.cell (p := ⟨b3, 0, none⟩) l_s_7).trans c_s0_7
    have c_s1_9 : w9.cell? ⟨b3, 1, none⟩ = some (.bool own) := (hs9.cell (p := ⟨b3, 1, none⟩) l_s_7).trans c_s1_7
    have l_s_9 : b3 < w9.heap.size := Nat.lt_of_lt_of_le l_s_7 z9
    have c_x0_9 : w9.cell? ⟨w4.heap.size, 0, none⟩ = some (.slice (some ⟨g4, 0, none⟩) n n) := (hs9.cell (p := ⟨w4.heap.size, 0, none⟩) l_x_7).trans c_x0_7
    have c_x1_9 : w9.cell? ⟨w4.heap.size, 1, none⟩ = some (.bool own) := (hs9.cell (p := ⟨w4.heap.size, 1, none⟩) l_x_7).trans c_x1_7
    have l_x_9 : w4.heap.size < w9.heap.size := Nat.lt_of_lt_of_le l_x_7 z9
    have c_y0_9 : w9.cell? ⟨w5.heap.size, 0, none⟩ = some (.slice (some ⟨g5, 0, none⟩) m m) := (hs9.cell (p := ⟨w5.heap.size, 0, none⟩) l_y_7).trans c_y0_7
    have c_y1_9 : w9.cell? ⟨w5.heap.size, 1, none⟩ = some (.bool own) := (hs9.cell (p := ⟨w5.heap.size, 1, none⟩) l_y_7).trans c_y1_7
    have l_y_9 : w5.heap.size < w9.heap.size := Nat.lt_of_lt_of_le l_y_7 z9
    have c_i0_9 : w9.cell? ⟨w6.heap.size, 0, none⟩ = some (.slice (some ⟨g6, 0, none⟩) N c_g6) := (hs9.cell (p := ⟨w6.heap.size, 0, none⟩) l_i_7).trans c_i0_7
    have c_i1_9 : w9.cell? ⟨w6.heap.size, 1, none⟩ = some (.bool own) := (hs9.cell (p := ⟨w6.heap.size, 1, none⟩) l_i_7).trans c_i1_7
    have l_i_9 : w6.heap.size < w9.heap.size := Nat.lt_of_lt_of_le l_i_7 z9
    have HA_s_9 := hide (HA_s_7.out.all hs9)
    have HA_x_9 := hide (HA_x_7.out.all hs9)
    have HA_y_9 := hide (HA_y_7.out.all hs9)
    have HA_i_9 := hide (HA_i_7.out.all hs9)
    clear c_aG0_7 c_aG1_7 l_aG_7 c_aH0_7 c_aH1_7 l_aH_7 c_s0_7 c_s1_7 l_s_7 c_x0_7 c_x1_7 l_x_7 c_y0_7 c_y1_7 l_y_7 c_i0_7 c_i1_7 l_i_7 HA_s_7 HA_x_7 HA_y_7 HA_i_7 hb9 hs9
    go_wp2_with fail
    have KK : Hid (w9.drew.cell? ⟨w5.heap.size, 0, none⟩ = some (.slice (some ⟨g5, 0, none⟩) m m) ∧ w9.drew.cell? ⟨w5.heap.size, 1, none⟩ = some (.bool own) ∧ w9.drew.cell? ⟨w.heap.size + 1, 0, none⟩ = some (.slice B m c') ∧ w9.drew.cell? ⟨w.heap.size + 1, 1, none⟩ = some (.bool own)) := hide ⟨c_y0_9, c_y1_9, c_aH0_9, c_aH1_9⟩
    go_region_held3 (fun w' => w'.cell? ⟨w5.heap.size, 0, none⟩ = some (.slice (some ⟨g5, 0, none⟩) m m) ∧ w'.cell? ⟨w5.heap.size, 1, none⟩ = some (.bool own) ∧ w'.cell? ⟨w.heap.size + 1, 0, none⟩ = some (.slice B m c') ∧ w'.cell? ⟨w.heap.size + 1, 1, none⟩ = some (.bool own)) (first | exact KK.out | exact four_below (by assumption) KK.out | exact four_below (by assumption) (four_below (by assumption) KK.out)) (first | (go_at_call 13; refine (toGraph_any _ _ _ h _ _ hm3 (by exact Src.drew (HS_B.out.below HW9.out))).mono ?_; rintro e w10 ⟨g10, rfl, lo_g10, ha_r, hb10⟩; have HA_r := hide ha_r; clear ha_r) | (go_at_call 15; refine (eqGraph_true _ _ _ _ _ h _ _ hm3 (by exact Src.of_arr ((HA_y_9.out.drew).all hb10)) (by exact Src.of_arr HA_r.out)).mono ?_; rintro e w11 ⟨rfl, hb11⟩))
    have hbr : Below w9.heap.size w9 w11 := (Below.drew (Below.refl _ _)).trans (Below.trans hb10 (hb11.mono hb10.size))
    clear KK HA_r lo_g10 hb10 hb11
    have hb11 := hbr
    clear hbr
    have hs11 : Below w9.heap.size w9 w11 := (by go_grown : Below w9.heap.size w9 _).trans (hb11.mono (by go_size))
    have z11 : w9.heap.size ≤ w11.heap.size := hs11.size
    have HW11 := hide (HW9.out.trans (hs11.mono HW9.out.size))
    have c_aG0_11 : w11.cell? ⟨w.heap.size, 0, none⟩ = some (.slice A n c) := (hs11.cell (p := ⟨w.heap.size, 0, none⟩) l_aG_9).trans c_aG0_9
    have c_aG1_11 : w11.cell? ⟨w.heap.size, 1, none⟩ = some (.bool own) := (hs11.cell (p := ⟨w.heap.size, 1, none⟩) l_aG_9).trans c_aG1_9
    have l_aG_11 : w.heap.size < w11.heap.size := Nat.lt_of_lt_of_le l_aG_9 z11
    have c_aH0_11 : w11.cell? ⟨w.heap.size + 1, 0, none⟩ = some (.slice B m c') := (hs11.cell (p := ⟨w.heap.size + 1, 0, none⟩) l_aH_9).trans c_aH0_9
    have c_aH1_11 : w11.cell? ⟨w.heap.size + 1, 1, none⟩ = some (.bool own) := (hs11.cell (p := ⟨w.heap.size + 1, 1, none⟩) l_aH_9).trans c_aH1_9
    have l_aH_11 : w.heap.size + 1 < w11.heap.size := Nat.lt_of_lt_of_le l_aH_9 z11
    have c_s0_11 : w11.cell? ⟨b3, 0, none⟩ = some (.slice (some ⟨g3, 0, none⟩) N c_g3) := (hs11.cell (p := ⟨b3, 0, none⟩) l_s_9).trans c_s0_9
    have c_s1_11 : w11.cell? ⟨b3, 1, none⟩ = some (.bool own) := (hs11.cell (p := ⟨b3, 1, none⟩) l_s_9).trans c_s1_9
    have l_s_11 : b3 < w11.heap.size := Nat.lt_of_lt_of_le l_s_9 z11
    have c_x0_11 : w11.cell? ⟨w4.heap.size, 0, none⟩ = some (.slice (some ⟨g4, 0, none⟩) n n) := (hs11.cell (p := ⟨w4.heap.size, 0, none⟩) l_x_9).trans c_x0_9
    have c_x1_11 : w11.cell? ⟨w4.heap.size, 1, none⟩ = some (.bool own) := (hs11.cell (p := ⟨w4.heap.size, 1, none⟩) l_x_9).trans c_x1_9
    have l_x_11 : w4.heap.size < w11.heap.size := Nat.lt_of_lt_of_le l_x_9 z11
    have c_y0_11 : w11.cell? ⟨w5.heap.size, 0, none⟩ = some (.slice (some ⟨g5, 0, none⟩) m m) := (hs11.cell (p := ⟨w5.heap.size, 0, none⟩) l_y_9).trans c_y0_9
    have c_y1_11 : w11.cell? ⟨w5.heap.size, 1, none⟩ = some (.bool own) := (hs11.cell (p := ⟨w5.heap.size, 1, none⟩) l_y_9).trans c_y1_9
    have l_y_11 : w5.heap.size < w11.heap.size := Nat.lt_of_lt_of_le l_y_9 z11
    have c_i0_11 : w11.cell? ⟨w6.heap.size, 0, none⟩ = some (.slice (some ⟨g6, 0, none⟩) N c_g6) := (hs11.cell (p := ⟨w6.heap.size, 0, none⟩) l_i_9).trans c_i0_9
    have c_i1_11 : w11.cell? ⟨w6.heap.size, 1, none⟩ = some (.bool own) := (hs11.cell (p := ⟨w6.heap.size, 1, none⟩) l_i_9).trans c_i1_9
    have l_i_11 : w6.heap.size < w11.heap.size := Nat.lt_of_lt_of_le l_i_9 z11
    have HA_s_11 := hide (HA_s_9.out.all hs11)
    have HA_x_11 := hide (HA_x_9.out.all hs11)
    have HA_y_11 := hide (HA_y_9.out.all hs11)
    have HA_i_11 := hide (HA_i_9.out.all hs11)
    clear c_aG0_9 c_aG1_9 l_aG_9 c_aH0_9 c_aH1_9 l_aH_9 c_s0_9 c_s1_9 l_s_9 c_x0_9 c_x1_9 l_x_9 c_y0_9 c_y1_9 l_y_9 c_i0_9 c_i1_9 l_i_9 HA_s_9 HA_x_9 HA_y_9 HA_i_9 hb11 hs11
    go_wp2_with fail
    refine (markGraph_arr _ _ _ f _ _ _ hn2 (by omega) (by omega) (by first | exact HA_x_11.out | exact HA_x_11.out.alloc _ | exact (HA_x_11.out.alloc _).alloc _ | exact HA_x_11.out.drew)).mono ?_
    rintro e w12 ⟨rfl, ha_m, hb12⟩
    have hs12 : w11.grownBy w12 (some g4) := grownBy_trans (grownBy_of_below (by go_grown) _) hb12
    have z12 : w11.heap.size ≤ w12.heap.size := hs12.size
    have HW12 := hide (HW11.out.grown hs12 HW11.out.size (fun k hk => by injection hk with hk; have := HW11.out.size; omega))
    have c_aG0_12 : w12.cell? ⟨w.heap.size, 0, none⟩ = some (.slice A n c) := World.grownBy.cell hs12 c_aG0_11 (by intro h; injection h with h; simp at h; omega)
    have c_aG1_12 : w12.cell? ⟨w.heap.size, 1, none⟩ = some (.bool own) := World.grownBy.cell hs12 c_aG1_11 (by intro h; injection h with h; simp at h; omega)
    have l_aG_12 : w.heap.size < w12.heap.size := Nat.lt_of_lt_of_le l_aG_11 z12
    have c_aH0_12 : w12.cell? ⟨w.heap.size + 1, 0, none⟩ = some (.slice B m c') := World.grownBy.cell hs12 c_aH0_11 (by intro h; injection h with h; simp at h; omega)
    have c_aH1_12 : w12.cell? ⟨w.heap.size + 1, 1, none⟩ = some (.bool own) := World.grownBy.cell hs12 c_aH1_11 (by intro h; injection h with h; simp at h; omega)
    have l_aH_12 : w.heap.size + 1 < w12.heap.size := Nat.lt_of_lt_of_le l_aH_11 z12
    have c_s0_12 : w12.cell? ⟨b3, 0, none⟩ = some (.slice (some ⟨g3, 0, none⟩) N c_g3) := World.grownBy.cell hs12 c_s0_11 (by intro h; injection h with h; simp at h; omega)
    have c_s1_12 : w12.cell? ⟨b3, 1, none⟩ = some (.bool own) := World.grownBy.cell hs12 c_s1_11 (by intro h; injection h with h; simp at h; omega)
    have l_s_12 : b3 < w12.heap.size := Nat.lt_of_lt_of_le l_s_11 z12
    have c_x0_12 : w12.cell? ⟨w4.heap.size, 0, none⟩ = some (.slice (some ⟨g4, 0, none⟩) n n) := World.grownBy.cell hs12 c_x0_11 (by intro h; injection h with h; simp at h; omega)
    have c_x1_12 : w12.cell? ⟨w4.heap.size, 1, none⟩ = some (.bool own) := World.grownBy.cell hs12 c_x1_11 (by intro h; injection h with h; simp at h; omega)
    have l_x_12 : w4.heap.size < w12.heap.size := Nat.lt_of_lt_of_le l_x_11 z12
    have c_y0_12 : w12.cell? ⟨w5.heap.size, 0, none⟩ = some (.slice (some ⟨g5, 0, none⟩) m m) := World.grownBy.cell hs12 c_y0_11 (by intro h; injection h with h; simp at h; omega)
    have c_y1_12 : w12.cell? ⟨w5.heap.size, 1, none⟩ = some (.bool own) := World.grownBy.cell hs12 c_y1_11 (by intro h; injection h with h; simp at h; omega)
    have l_y_12 : w5.heap.size < w12.heap.size := Nat.lt_of_lt_of_le l_y_11 z12
    have c_i0_12 : w12.cell? ⟨w6.heap.size, 0, none⟩ = some (.slice (some ⟨g6, 0, none⟩) N c_g6) := World.grownBy.cell hs12 c_i0_11 (by intro h; injection h with h; simp at h; omega)
    have c_i1_12 : w12.cell? ⟨w6.heap.size, 1, none⟩ = some (.bool own) := World.grownBy.cell hs12 c_i1_11 (by intro h; injection h with h; simp at h; omega)
    have l_i_12 : w6.heap.size < w12.heap.size := Nat.lt_of_lt_of_le l_i_11 z12
    have HA_s_12 := hide (HA_s_11.out.of_block (hs12.block g3 (HA_s_11.out.lt) (by intro h; injection h with h; omega)))
    have HA_y_12 := hide (HA_y_11.out.of_block (hs12.block g5 (HA_y_11.out.lt) (by intro h; injection h with h; omega)))
    have HA_i_12 := hide (HA_i_11.out.of_block (hs12.block g6 (HA_i_11.out.lt) (by intro h; injection h with h; omega)))
    have HA_x_12 := hide ha_m
    have hi_x_12 : g4 < w12.heap.size := ha_m.lt
    clear c_aG0_11 c_aG1_11 l_aG_11 c_aH0_11 c_aH1_11 l_aH_11 c_s0_11 c_s1_11 l_s_11 c_x0_11 c_x1_11 l_x_11 c_y0_11 c_y1_11 l_y_11 c_i0_11 c_i1_11 l_i_11 HA_s_11 HA_y_11 HA_i_11 ha_m hb12 hs12
    go_wp2_with fail
    refine (markGraph_arr _ _ _ h _ _ _ hm3 (by omega) (by omega) (by first | exact HA_y_12.out | exact HA_y_12.out.alloc _ | exact (HA_y_12.out.alloc _).alloc _ | exact HA_y_12.out.drew)).mono ?_
    rintro e w13 ⟨rfl, ha_m, hb13⟩
    have hs13 : w12.grownBy w13 (some g5) := grownBy_trans (grownBy_of_below (by go_grown) _) hb13
    have z13 : w12.heap.size ≤ w13.heap.size := hs13.size
    have HW13 := hide (HW12.out.grown hs13 HW12.out.size (fun k hk => by injection hk with hk; have := HW12.out.size; omega))
    have c_aG0_13 : w13.cell? ⟨w.heap.size, 0, none⟩ = some (.slice A n c) := World.grownBy.cell hs13 c_aG0_12 (by intro h; injection h with h; simp at h; omega)
    have c_aG1_13 : w13.cell? ⟨w.heap.size, 1, none⟩ = some (.bool own) := World.grownBy.cell hs13 c_aG1_12 (by intro h; injection h with h; simp at h; omega)
    have l_aG_13 : w.heap.size < w13.heap.size := Nat.lt_of_lt_of_le l_aG_12 z13
    have c_aH0_13 : w13.cell? ⟨w.heap.size + 1, 0, none⟩ = some (.slice B m c') := World.grownBy.cell hs13 c_aH0_12 (by intro h; injection h with h; simp at h; omega)
    have c_aH1_13 : w13.cell? ⟨w.heap.size + 1, 1, none⟩ = some (.bool own) := World.grownBy.cell hs13 c_aH1_12 (by intro h; injection h with h; simp at h; omega)
    have l_aH_13 : w.heap.size + 1 < w13.heap.size := Nat.lt_of_lt_of_le l_aH_12 z13
    have c_s0_13 : w13.cell? ⟨b3, 0, none⟩ = some (.slice (some ⟨g3, 0, none⟩) N c_g3) := World.grownBy.cell hs13 c_s0_12 (by intro h; injection h with h; simp at h; omega)
    have c_s1_13 : w13.cell? ⟨b3, 1, none⟩ = some (.bool own) := World.grownBy.cell hs13 c_s1_12 (by intro h; injection h with h; simp at h; omega)
    have l_s_13 : b3 < w13.heap.size := Nat.lt_of_lt_of_le l_s_12 z13
    have c_x0_13 : w13.cell? ⟨w4.heap.size, 0, none⟩ = some (.slice (some ⟨g4, 0, none⟩) n n) := World.grownBy.cell hs13 c_x0_12 (by intro h; injection h with h; simp at h; omega)
    have c_x1_13 : w13.cell? ⟨w4.heap.size, 1, none⟩ = some (.bool own) := World.grownBy.cell hs13 c_x1_12 (by intro h; injection h with h; simp at h; omega)
    have l_x_13 : w4.heap.size < w13.heap.size := Nat.lt_of_lt_of_le l_x_12 z13
    have c_y0_13 : w13.cell? ⟨w5.heap.size, 0, none⟩ = some (.slice (some ⟨g5, 0, none⟩) m m) := World.grownBy.cell hs13 c_y0_12 (by intro h; injection h with h; simp at h; omega)
    have c_y1_13 : w13.cell? ⟨w5.heap.size, 1, none⟩ = some (.bool own) := World.grownBy.cell hs13 c_y1_12 (by intro h; injection h with h; simp at h; omega)
    have l_y_13 : w5.heap.size < w13.heap.size := Nat.lt_of_lt_of_le l_y_12 z13
    have c_i0_13 : w13.cell? ⟨w6.heap.size, 0, none⟩ = some (.slice (some ⟨g6, 0, none⟩) N c_g6) := World.grownBy.cell hs13 c_i0_12 (by intro h; injection h with h; simp at h; omega)
    have c_i1_13 : w13.cell? ⟨w6.heap.size, 1, none⟩ = some (.bool own) := World.grownBy.cell hs13 c_i1_12 (by intro h; injection h with h; simp at h; omega)
    have l_i_13 : w6.heap.size < w13.heap.size := Nat.lt_of_lt_of_le l_i_12 z13
    have HA_s_13 := hide (HA_s_12.out.of_block (hs13.block g3 (HA_s_12.out.lt) (by intro h; injection h with h; omega)))
    have HA_x_13 := hide (HA_x_12.out.of_block (hs13.block g4 (HA_x_12.out.lt) (by intro h; injection h with h; omega)))
    have HA_i_13 := hide (HA_i_12.out.of_block (hs13.block g6 (HA_i_12.out.lt) (by intro h; injection h with h; omega)))
    have HA_y_13 := hide ha_m
    have hi_y_13 : g5 < w13.heap.size := ha_m.lt
    clear c_aG0_12 c_aG1_12 l_aG_12 c_aH0_12 c_aH1_12 l_aH_12 c_s0_12 c_s1_12 l_s_12 c_x0_12 c_x1_12 l_x_12 c_y0_12 c_y1_12 l_y_12 c_i0_12 c_i1_12 l_i_12 HA_s_12 HA_x_12 HA_i_12 ha_m hb13 hs13
    go_wp2_with fail
    refine (eqGraph_true _ _ _ _ _ R _ _ (by omega) (by first | exact Src.of_arr HA_i_13.out | exact Src.of_arr (HA_i_13.out.alloc _) | exact Src.of_arr ((HA_i_13.out.alloc _).alloc _) | exact Src.of_arr HA_i_13.out.drew) (by first | exact Src.of_arr HA_s_13.out | exact Src.of_arr (HA_s_13.out.alloc _) | exact Src.of_arr ((HA_s_13.out.alloc _).alloc _) | exact Src.of_arr HA_s_13.out.drew)).mono ?_
    rintro e w14 ⟨rfl, hb14⟩
    have hs14 : Below w13.heap.size w13 w14 := (by go_grown : Below w13.heap.size w13 _).trans (hb14.mono (by go_size))
    have z14 : w13.heap.size ≤ w14.heap.size := hs14.size
    have HW14 := hide (HW13.out.trans (hs14.mono HW13.out.size))
    have c_aG0_14 : w14.cell? ⟨w.heap.size, 0, none⟩ = some (.slice A n c) := (hs14.cell (p := ⟨w.heap.size, 0, none⟩) l_aG_13).trans c_aG0_13
    have c_aG1_14 : w14.cell? ⟨w.heap.size, 1, none⟩ = some (.bool own) := (hs14.cell (p := ⟨w.heap.size, 1, none⟩) l_aG_13).trans c_aG1_13
    have l_aG_14 : w.heap.size < w14.heap.size := Nat.lt_of_lt_of_le l_aG_13 z14
    have c_aH0_14 : w14.cell? ⟨w.heap.size + 1, 0, none⟩ = some (.slice B m c') := (hs14.cell (p := ⟨w.heap.size + 1, 0, none⟩) l_aH_13).trans c_aH0_13
    have c_aH1_14 : w14.cell? ⟨w.heap.size + 1, 1, none⟩ = some (.bool own) := (hs14.cell (p := ⟨w.heap.size + 1, 1, none⟩) l_aH_13).trans c_aH1_13
    have l_aH_14 : w.heap.size + 1 < w14.heap.size := Nat.lt_of_lt_of_le l_aH_13 z14
    have c_s0_14 : w14.cell? ⟨b3, 0, none⟩ = some (.slice (some ⟨g3, 0, none⟩) N c_g3) := (hs14.cell (p := ⟨b3, 0, none⟩) l_s_13).trans c_s0_13
    have c_s1_14 : w14.cell? ⟨b3, 1, none⟩ = some (.bool own) := (hs14.cell (p := ⟨b3, 1, none⟩) l_s_13).trans c_s1_13
    have l_s_14 : b3 < w14.heap.size := Nat.lt_of_lt_of_le l_s_13 z14
    have c_x0_14 : w14.cell? ⟨w4.heap.size, 0, none⟩ = some (.slice (some ⟨g4, 0, none⟩) n n) := (hs14.cell (p := ⟨w4.heap.size, 0, none⟩) l_x_13).trans c_x0_13
    have c_x1_14 : w14.cell? ⟨w4.heap.size, 1, none⟩ = some (.bool own) := (hs14.cell (p := ⟨w4.heap.size, 1, none⟩) l_x_13).trans c_x1_13
    have l_x_14 : w4.heap.size < w14.heap.size := Nat.lt_of_lt_of_le l_x_13 z14
    have c_y0_14 : w14.cell? ⟨w5.heap.size, 0, none⟩ = some (.slice (some ⟨g5, 0, none⟩) m m) := (hs14.cell (p := ⟨w5.heap.size, 0, none⟩) l_y_13).trans c_y0_13
    have c_y1_14 : w14.cell? ⟨w5.heap.size, 1, none⟩ = some (.bool own) := (hs14.cell (p := ⟨w5.heap.size, 1, none⟩) l_y_13).trans c_y1_13
    have l_y_14 : w5.heap.size < w14.heap.size := Nat.lt_of_lt_of_le l_y_13 z14
    have c_i0_14 : w14.cell? ⟨w6.heap.size, 0, none⟩ = some (.slice (some ⟨g6, 0, none⟩) N c_g6) := (hs14.cell (p := ⟨w6.heap.size, 0, none⟩) l_i_13).trans c_i0_13
    have c_i1_14 : w14.cell? ⟨w6.heap.size, 1, none⟩ = some (.bool own) := (hs14.cell (p := ⟨w6.heap.size, 1, none⟩) l_i_13).trans c_i1_13
    have l_i_14 : w6.heap.size < w14.heap.size := Nat.lt_of_lt_of_le l_i_13 z14
    have HA_s_14 := hide (HA_s_13.out.all hs14)
    have HA_x_14 := hide (HA_x_13.out.all hs14)
    have HA_y_14 := hide (HA_y_13.out.all hs14)
    have HA_i_14 := hide (HA_i_13.out.all hs14)
    clear c_aG0_13 c_aG1_13 l_aG_13 c_aH0_13 c_aH1_13 l_aH_13 c_s0_13 c_s1_13 l_s_13 c_x0_13 c_x1_13 l_x_13 c_y0_13 c_y1_13 l_y_13 c_i0_13 c_i1_13 l_i_13 HA_s_13 HA_x_13 HA_y_13 HA_i_13 hb14 hs14
    go_wp2_with fail
    refine (markGraph_arr _ _ _ R _ _ _ (by omega) (by omega) (by omega) (by first | exact HA_i_14.out | exact HA_i_14.out.alloc _ | exact (HA_i_14.out.alloc _).alloc _ | exact HA_i_14.out.drew)).mono ?_
    rintro e w15 ⟨rfl, ha_n, hb15⟩
    have hs15 : w14.grownBy w15 (some g6) := grownBy_trans (grownBy_of_below (by go_grown) _) hb15
    have z15 : w14.heap.size ≤ w15.heap.size := hs15.size
    have HW15 := hide (HW14.out.grown hs15 HW14.out.size (fun k hk => by injection hk with hk; have := HW14.out.size; omega))
    have c_aG0_15 : w15.cell? ⟨w.heap.size, 0, none⟩ = some (.slice A n c) := World.grownBy.cell hs15 c_aG0_14 (by intro h; injection h with h; simp at h; omega)
    have c_aG1_15 : w15.cell? ⟨w.heap.size, 1, none⟩ = some (.bool own) := World.grownBy.cell hs15 c_aG1_14 (by intro h; injection h with h; simp at h; omega)
    have l_aG_15 : w.heap.size < w15.heap.size := Nat.lt_of_lt_of_le l_aG_14 z15
    have c_aH0_15 : w15.cell? ⟨w.heap.size + 1, 0, none⟩ = some (.slice B m c') := World.grownBy.cell hs15 c_aH0_14 (by intro h; injection h with h; simp at h; omega)
    have c_aH1_15 : w15.cell? ⟨w.heap.size + 1, 1, none⟩ = some (.bool own) := World.grownBy.cell hs15 c_aH1_14 (by intro h; injection h with h; simp at h; omega)
    have l_aH_15 : w.heap.size + 1 < w15.heap.size := Nat.lt_of_lt_of_le l_aH_14 z15
    have c_s0_15 : w15.cell? ⟨b3, 0, none⟩ = some (.slice (some ⟨g3, 0, none⟩) N c_g3) := World.grownBy.cell hs15 c_s0_14 (by intro h; injection h with h; simp at h; omega)
    have c_s1_15 : w15.cell? ⟨b3, 1, none⟩ = some (.bool own) := World.grownBy.cell hs15 c_s1_14 (by intro h; injection h with h; simp at h; omega)
    have l_s_15 : b3 < w15.heap.size := Nat.lt_of_lt_of_le l_s_14 z15
    have c_x0_15 : w15.cell? ⟨w4.heap.size, 0, none⟩ = some (.slice (some ⟨g4, 0, none⟩) n n) := World.grownBy.cell hs15 c_x0_14 (by intro h; injection h with h; simp at h; omega)
    have c_x1_15 : w15.cell? ⟨w4.heap.size, 1, none⟩ = some (.bool own) := World.grownBy.cell hs15 c_x1_14 (by intro h; injection h with h; simp at h; omega)
    have l_x_15 : w4.heap.size < w15.heap.size := Nat.lt_of_lt_of_le l_x_14 z15
    have c_y0_15 : w15.cell? ⟨w5.heap.size, 0, none⟩ = some (.slice (some ⟨g5, 0, none⟩) m m) := World.grownBy.cell hs15 c_y0_14 (by intro h; injection h with h; simp at h; omega)
    have c_y1_15 : w15.cell? ⟨w5.heap.size, 1, none⟩ = some (.bool own) := World.grownBy.cell hs15 c_y1_14 (by intro h; injection h with h; simp at h; omega)
    have l_y_15 : w5.heap.size < w15.heap.size := Nat.lt_of_lt_of_le l_y_14 z15
    have c_i0_15 : w15.cell? ⟨w6.heap.size, 0, none⟩ = some (.slice (some ⟨g6, 0, none⟩) N c_g6) := World.grownBy.cell hs15 c_i0_14 (by intro h; injection h with h; simp at h; omega)
    have c_i1_15 : w15.cell? ⟨w6.heap.size, 1, none⟩ = some (.bool own) := World.grownBy.cell hs15 c_i1_14 (by intro h; injection h with h; simp at h; omega)
    have l_i_15 : w6.heap.size < w15.heap.size := Nat.lt_of_lt_of_le l_i_14 z15
    have HA_s_15 := hide (HA_s_14.out.of_block (hs15.block g3 (HA_s_14.out.lt) (by intro h; injection h with h; omega)))
    have HA_x_15 := hide (HA_x_14.out.of_block (hs15.block g4 (HA_x_14.out.lt) (by intro h; injection h with h; omega)))
    have HA_y_15 := hide (HA_y_14.out.of_block (hs15.block g5 (HA_y_14.out.lt) (by intro h; injection h with h; omega)))
    have HA_i_15 := hide ha_n
    have hi_i_15 : g6 < w15.heap.size := ha_n.lt
    clear c_aG0_14 c_aG1_14 l_aG_14 c_aH0_14 c_aH1_14 l_aH_14 c_s0_14 c_s1_14 l_s_14 c_x0_14 c_x1_14 l_x_14 c_y0_14 c_y1_14 l_y_14 c_i0_14 c_i1_14 l_i_14 HA_s_14 HA_x_14 HA_y_14 ha_n hb15 hs15
    go_wp2_with fail
    refine (heldGraph_any _ _ _ _ _ _ (by omega) (by omega) (by omega) (by first | exact Src.of_arr HA_i_15.out | exact Src.of_arr (HA_i_15.out.alloc _) | exact Src.of_arr ((HA_i_15.out.alloc _).alloc _) | exact Src.of_arr HA_i_15.out.drew)).mono ?_
    rintro e w16 ⟨rfl, hb16⟩
    have hs16 : Below w15.heap.size w15 w16 := (by go_grown : Below w15.heap.size w15 _).trans (hb16.mono (by go_size))
    have z16 : w15.heap.size ≤ w16.heap.size := hs16.size
    have HW16 := hide (HW15.out.trans (hs16.mono HW15.out.size))
    have c_aG0_16 : w16.cell? ⟨w.heap.size, 0, none⟩ = some (.slice A n c) := (hs16.cell (p := ⟨w.heap.size, 0, none⟩) l_aG_15).trans c_aG0_15
    have c_aG1_16 : w16.cell? ⟨w.heap.size, 1, none⟩ = some (.bool own) := (hs16.cell (p := ⟨w.heap.size, 1, none⟩) l_aG_15).trans c_aG1_15
    have l_aG_16 : w.heap.size < w16.heap.size := Nat.lt_of_lt_of_le l_aG_15 z16
    have c_aH0_16 : w16.cell? ⟨w.heap.size + 1, 0, none⟩ = some (.slice B m c') := (hs16.cell (p := ⟨w.heap.size + 1, 0, none⟩) l_aH_15).trans c_aH0_15
    have c_aH1_16 : w16.cell? ⟨w.heap.size + 1, 1, none⟩ = some (.bool own) := (hs16.cell (p := ⟨w.heap.size + 1, 1, none⟩) l_aH_15).trans c_aH1_15
    have l_aH_16 : w.heap.size + 1 < w16.heap.size := Nat.lt_of_lt_of_le l_aH_15 z16
    have c_s0_16 : w16.cell? ⟨b3, 0, none⟩ = some (.slice (some ⟨g3, 0, none⟩) N c_g3) := (hs16.cell (p := ⟨b3, 0, none⟩) l_s_15).trans c_s0_15
    have c_s1_16 : w16.cell? ⟨b3, 1, none⟩ = some (.bool own) := (hs16.cell (p := ⟨b3, 1, none⟩) l_s_15).trans c_s1_15
    have l_s_16 : b3 < w16.heap.size := Nat.lt_of_lt_of_le l_s_15 z16
    have c_x0_16 : w16.cell? ⟨w4.heap.size, 0, none⟩ = some (.slice (some ⟨g4, 0, none⟩) n n) := (hs16.cell (p := ⟨w4.heap.size, 0, none⟩) l_x_15).trans c_x0_15
    have c_x1_16 : w16.cell? ⟨w4.heap.size, 1, none⟩ = some (.bool own) := (hs16.cell (p := ⟨w4.heap.size, 1, none⟩) l_x_15).trans c_x1_15
    have l_x_16 : w4.heap.size < w16.heap.size := Nat.lt_of_lt_of_le l_x_15 z16
    have c_y0_16 : w16.cell? ⟨w5.heap.size, 0, none⟩ = some (.slice (some ⟨g5, 0, none⟩) m m) := (hs16.cell (p := ⟨w5.heap.size, 0, none⟩) l_y_15).trans c_y0_15
    have c_y1_16 : w16.cell? ⟨w5.heap.size, 1, none⟩ = some (.bool own) := (hs16.cell (p := ⟨w5.heap.size, 1, none⟩) l_y_15).trans c_y1_15
    have l_y_16 : w5.heap.size < w16.heap.size := Nat.lt_of_lt_of_le l_y_15 z16
    have c_i0_16 : w16.cell? ⟨w6.heap.size, 0, none⟩ = some (.slice (some ⟨g6, 0, none⟩) N c_g6) := (hs16.cell (p := ⟨w6.heap.size, 0, none⟩) l_i_15).trans c_i0_15
    have c_i1_16 : w16.cell? ⟨w6.heap.size, 1, none⟩ = some (.bool own) := (hs16.cell (p := ⟨w6.heap.size, 1, none⟩) l_i_15).trans c_i1_15
    have l_i_16 : w6.heap.size < w16.heap.size := Nat.lt_of_lt_of_le l_i_15 z16
    have HA_s_16 := hide (HA_s_15.out.all hs16)
    have HA_x_16 := hide (HA_x_15.out.all hs16)
    have HA_y_16 := hide (HA_y_15.out.all hs16)
    have HA_i_16 := hide (HA_i_15.out.all hs16)
    clear c_aG0_15 c_aG1_15 l_aG_15 c_aH0_15 c_aH1_15 l_aH_15 c_s0_15 c_s1_15 l_s_15 c_x0_15 c_x1_15 l_x_15 c_y0_15 c_y1_15 l_y_15 c_i0_15 c_i1_15 l_i_15 HA_s_15 HA_x_15 HA_y_15 HA_i_15 hb16 hs16
    go_wp2_with fail
    have KK : Hid (w16.drew.cell? ⟨w.heap.size, 0, none⟩ = some (.slice A n c) ∧ w16.drew.cell? ⟨w.heap.size, 1, none⟩ = some (.bool own) ∧ w16.drew.cell? ⟨w.heap.size + 1, 0, none⟩ = some (.slice B m c') ∧ w16.drew.cell? ⟨w.heap.size + 1, 1, none⟩ = some (.bool own)) := hide ⟨c_aG0_16, c_aG1_16, c_aH0_16, c_aH1_16⟩
    have SA2 := hide (HS_A.out.below HW16.out)
    have SB2 := hide (HS_B.out.below HW16.out)
    have HT2 := hide (HT.out.below HW16.out)
    have KC : Hid (w16.cell? ⟨w.heap.size, 0, none⟩ = some (.slice A n c) ∧ w16.cell? ⟨w.heap.size, 1, none⟩ = some (.bool own) ∧ w16.cell? ⟨w.heap.size + 1, 0, none⟩ = some (.slice B m c') ∧ w16.cell? ⟨w.heap.size + 1, 1, none⟩ = some (.bool own) ∧ w16.cell? ⟨b3, 0, none⟩ = some (.slice (some ⟨g3, 0, none⟩) N c_g3) ∧ w16.cell? ⟨b3, 1, none⟩ = some (.bool own) ∧ w16.cell? ⟨w4.heap.size, 0, none⟩ = some (.slice (some ⟨g4, 0, none⟩) n n) ∧ w16.cell? ⟨w4.heap.size, 1, none⟩ = some (.bool own) ∧ w16.cell? ⟨w5.heap.size, 0, none⟩ = some (.slice (some ⟨g5, 0, none⟩) m m) ∧ w16.cell? ⟨w5.heap.size, 1, none⟩ = some (.bool own) ∧ w16.cell? ⟨w6.heap.size, 0, none⟩ = some (.slice (some ⟨g6, 0, none⟩) N c_g6) ∧ w16.cell? ⟨w6.heap.size, 1, none⟩ = some (.bool own)) := hide ⟨c_aG0_16, c_aG1_16, c_aH0_16, c_aH1_16, c_s0_16, c_s1_16, c_x0_16, c_x1_16, c_y0_16, c_y1_16, c_i0_16, c_i1_16⟩
    clear c_aG0_16 c_aG1_16 c_aH0_16 c_aH1_16 c_s0_16 c_s1_16 c_x0_16 c_x1_16 c_y0_16 c_y1_16 c_i0_16 c_i1_16
    apply joinCutOk w16 N R own
    case reg =>
      go_region_held3 (fun w' => w'.cell? ⟨w.heap.size, 0, none⟩ = some (.slice A n c) ∧ w'.cell? ⟨w.heap.size, 1, none⟩ = some (.bool own) ∧ w'.cell? ⟨w.heap.size + 1, 0, none⟩ = some (.slice B m c') ∧ w'.cell? ⟨w.heap.size + 1, 1, none⟩ = some (.bool own)) (((repeat (first | exact KK.out | refine four_alloc _ ?_ | refine four_set (by first | omega | (simp; omega)) (by first | omega | (simp; omega)) ?_ | refine four_below (by assumption) ?_)); done)) (first | (go_at_call 13; refine (toGraph_src (by first | with_reducible exact Src.drew SA2.out | exact Src.alloc (Src.drew SA2.out) _) (by omega)).mono ?_; rintro e u3 ⟨g3, rfl, lo_g3, ha3, hb3⟩; have HA3 := hide ha3; clear ha3; have HT3 := hide (Tab.below (by first | exact HT2.out | exact HT2.out.below (by go_grown)) hb3); have zs3 : w16.heap.size ≤ u3.heap.size := (by have hzz := hb3.size; (try simp at hzz); omega); (try have HX := hide ((Arr.box w16 26 (.slice none 0 0) (.bool false)).drew.all hb3))) | (go_at_call 13; refine (toGraph_src (by first | with_reducible exact Src.below (Src.drew SB2.out) (by assumption) | exact Src.alloc (Src.below (Src.drew SB2.out) (by assumption)) _ | exact Src.below (Src.alloc (Src.drew SB2.out) _) (by assumption)) (by omega)).mono ?_; rintro e u4 ⟨g4, rfl, lo_g4, ha4, hb4⟩; have HA4 := hide ha4; clear ha4; have HT4 := hide (Tab.below (by first | exact HT3.out | exact HT3.out.below (by go_grown)) hb4); have zs4 : w16.heap.size ≤ u4.heap.size := (by have hzz := hb4.size; (try simp at hzz); omega); first | have HX := hide (HX.out.all hb4) | have HX := hide ((Arr.box u3 26 (.slice none 0 0) (.bool false)).all hb4) | skip) | (go_at_call 14; refine (HIM.out _ _ _ _ _ (by first | exact HT4.out | exact HT4.out.below (by go_grown)) (by first | exact HA3.out.all hb4 | exact (HA3.out.all hb4).alloc _ | exact (HA3.out.alloc _).all hb4) (by first | exact HA4.out | exact HA4.out.alloc _)).mono ?_; rintro e u5 ⟨g5, c5, rfl, lo_g5, ha5, hb5⟩; have HA5 := hide ha5; clear ha5; have zs5 : w16.heap.size ≤ u5.heap.size := (by have hzz := hb5.size; (try simp at hzz); omega); (try first | have HX := hide (HX.out.all hb5) | have HX := hide ((Arr.box u4 26 (.slice none 0 0) (.bool false)).all hb5)); try (have x0 := HX.out.cell (k := 0) (by omega); have x1 := HX.out.cell (k := 1) (by omega); have xf := HX.out.frozen 0; have xg := HX.out.frozen 1)) | fail "NOARM")
      all_goals
        first
        | (obtain ⟨g6, hg6⟩ : ∃ g, u5.heap.size = g := ⟨_, rfl⟩; rw [hg6]; refine ⟨g3, g4, g6, g5, c5, rfl, rfl, ?_⟩; subst hg6)
        | (obtain ⟨g6, hg6⟩ : ∃ g, u4.heap.size = g := ⟨_, rfl⟩; rw [hg6]; refine ⟨g3, g4, g6, g5, c5, rfl, rfl, ?_⟩; subst hg6)
        | (obtain ⟨g6, hg6⟩ : ∃ g, u3.heap.size = g := ⟨_, rfl⟩; rw [hg6]; refine ⟨g3, g4, g6, g5, c5, rfl, rfl, ?_⟩; subst hg6)
        | (obtain ⟨g6, hg6⟩ : ∃ g, w16.drew.heap.size = g := ⟨_, rfl⟩; rw [hg6]; refine ⟨g3, g4, g6, g5, c5, rfl, rfl, ?_⟩; subst hg6)
        | (obtain ⟨g6, hg6⟩ : ∃ g, w16.heap.size = g := ⟨_, rfl⟩; rw [hg6]; refine ⟨g3, g4, g6, g5, c5, rfl, rfl, ?_⟩; subst hg6)
        have LO5 : w16.heap.size ≤ g5 := (by (try simp at lo_g5); omega)
        first
        | refine joinKeepOk ?_ (by first | omega | (simp; omega)) LO5 HX.out HA5.out
        | refine joinKeepOk0 ?_ (by first | omega | (simp; omega)) LO5 (Arr.box u5 26 _ _) (HA5.out.alloc _)
        | refine joinKeepOk ?_ (by first | omega | (simp; omega)) LO5 (Arr.box u5 26 _ _) (HA5.out.alloc _)
        repeat (first | exact Below.drew (Below.refl _ _) | refine Below.alloc ?_ (by go_size) _ | refine below_step (by assumption) (by go_size) ?_ | refine Below.drew ?_ | exact Below.refl _ _)
    case cont =>
      intro q3 q4 b17 g17 c_g17 w17 hJ
      obtain ⟨⟨hb17, lo_b17, fJ, hJa, e0, e1⟩, lo_g17, haJ⟩ := hJ
      obtain ⟨c_aG0_16, c_aG1_16, c_aH0_16, c_aH1_16, c_s0_16, c_s1_16, c_x0_16, c_x1_16, c_y0_16, c_y1_16, c_i0_16, c_i1_16⟩ := KC.out
      clear KC KK SA2 SB2 HT2
      have hjl : b17 < w17.heap.size := hJa.lt
      have x0 : w17.cell? ⟨b17, 0, none⟩ = some (.slice (some ⟨g17, 0, none⟩) N c_g17) := by rw [hJa.cell (k := 0) (by omega), e0]
      have x1 : w17.cell? ⟨b17, 1, none⟩ = some (.bool own) := by rw [hJa.cell (k := 1) (by omega), e1]
      clear hJa e0 e1 fJ
      have hs17 : Below w16.heap.size w16 w17 := (by go_grown : Below w16.heap.size w16 _).trans (hb17.mono (by go_size))
      have z17 : w16.heap.size ≤ w17.heap.size := hs17.size
      have HW17 := hide (HW16.out.trans (hs17.mono HW16.out.size))
      have c_aG0_17 : w17.cell? ⟨w.heap.size, 0, none⟩ = some (.slice A n c) := (hs17.cell (p := ⟨w.heap.size, 0, none⟩) l_aG_16).trans c_aG0_16
      have c_aG1_17 : w17.cell? ⟨w.heap.size, 1, none⟩ = some (.bool own) := (hs17.cell (p := ⟨w.heap.size, 1, none⟩) l_aG_16).trans c_aG1_16
      have l_aG_17 : w.heap.size < w17.heap.size := Nat.lt_of_lt_of_le l_aG_16 z17
      have c_aH0_17 : w17.cell? ⟨w.heap.size + 1, 0, none⟩ = some (.slice B m c') := (hs17.cell (p := ⟨w.heap.size + 1, 0, none⟩) l_aH_16).trans c_aH0_16
      have c_aH1_17 : w17.cell? ⟨w.heap.size + 1, 1, none⟩ = some (.bool own) := (hs17.cell (p := ⟨w.heap.size + 1, 1, none⟩) l_aH_16).trans c_aH1_16
      have l_aH_17 : w.heap.size + 1 < w17.heap.size := Nat.lt_of_lt_of_le l_aH_16 z17
      have c_s0_17 : w17.cell? ⟨b3, 0, none⟩ = some (.slice (some ⟨g3, 0, none⟩) N c_g3) := (hs17.cell (p := ⟨b3, 0, none⟩) l_s_16).trans c_s0_16
      have c_s1_17 : w17.cell? ⟨b3, 1, none⟩ = some (.bool own) := (hs17.cell (p := ⟨b3, 1, none⟩) l_s_16).trans c_s1_16
      have l_s_17 : b3 < w17.heap.size := Nat.lt_of_lt_of_le l_s_16 z17
      have c_x0_17 : w17.cell? ⟨w4.heap.size, 0, none⟩ = some (.slice (some ⟨g4, 0, none⟩) n n) := (hs17.cell (p := ⟨w4.heap.size, 0, none⟩) l_x_16).trans c_x0_16
      have c_x1_17 : w17.cell? ⟨w4.heap.size, 1, none⟩ = some (.bool own) := (hs17.cell (p := ⟨w4.heap.size, 1, none⟩) l_x_16).trans c_x1_16
      have l_x_17 : w4.heap.size < w17.heap.size := Nat.lt_of_lt_of_le l_x_16 z17
      have c_y0_17 : w17.cell? ⟨w5.heap.size, 0, none⟩ = some (.slice (some ⟨g5, 0, none⟩) m m) := (hs17.cell (p := ⟨w5.heap.size, 0, none⟩) l_y_16).trans c_y0_16
      have c_y1_17 : w17.cell? ⟨w5.heap.size, 1, none⟩ = some (.bool own) := (hs17.cell (p := ⟨w5.heap.size, 1, none⟩) l_y_16).trans c_y1_16
      have l_y_17 : w5.heap.size < w17.heap.size := Nat.lt_of_lt_of_le l_y_16 z17
      have c_i0_17 : w17.cell? ⟨w6.heap.size, 0, none⟩ = some (.slice (some ⟨g6, 0, none⟩) N c_g6) := (hs17.cell (p := ⟨w6.heap.size, 0, none⟩) l_i_16).trans c_i0_16
      have c_i1_17 : w17.cell? ⟨w6.heap.size, 1, none⟩ = some (.bool own) := (hs17.cell (p := ⟨w6.heap.size, 1, none⟩) l_i_16).trans c_i1_16
      have l_i_17 : w6.heap.size < w17.heap.size := Nat.lt_of_lt_of_le l_i_16 z17
      have HA_s_17 := hide (HA_s_16.out.all hs17)
      have HA_x_17 := hide (HA_x_16.out.all hs17)
      have HA_y_17 := hide (HA_y_16.out.all hs17)
      have HA_i_17 := hide (HA_i_16.out.all hs17)
      have HA_j_17 := hide haJ
      have hi_j_17 : g17 < w17.heap.size := haJ.lt
      clear c_aG0_16 c_aG1_16 l_aG_16 c_aH0_16 c_aH1_16 l_aH_16 c_s0_16 c_s1_16 l_s_16 c_x0_16 c_x1_16 l_x_16 c_y0_16 c_y1_16 l_y_16 c_i0_16 c_i1_16 l_i_16 HA_s_16 HA_x_16 HA_y_16 HA_i_16 haJ hb17 hs17
      have c_j0_17 := x0
      have c_j1_17 := x1
      have l_j_17 : b17 < w17.heap.size := hjl
      clear x0 x1 hjl
      have k_aG_17 : w.heap.size < w17.heap.size := l_aG_17
      have k_aH_17 : w.heap.size + 1 < w17.heap.size := l_aH_17
      have k_s_17 : b3 < w17.heap.size := l_s_17
      have k_x_17 : w4.heap.size < w17.heap.size := l_x_17
      have k_y_17 : w5.heap.size < w17.heap.size := l_y_17
      have k_i_17 : w6.heap.size < w17.heap.size := l_i_17
      have k_j_17 : b17 < w17.heap.size := l_j_17
      go_wp2_with fail
      refine (eqGraph_true _ _ _ _ _ R _ _ (by omega) (by first | exact Src.of_arr HA_j_17.out | exact Src.of_arr (HA_j_17.out.alloc _) | exact Src.of_arr ((HA_j_17.out.alloc _).alloc _) | exact Src.of_arr HA_j_17.out.drew) (by first | exact Src.of_arr HA_s_17.out | exact Src.of_arr (HA_s_17.out.alloc _) | exact Src.of_arr ((HA_s_17.out.alloc _).alloc _) | exact Src.of_arr HA_s_17.out.drew)).mono ?_
      rintro e w18 ⟨rfl, hb18⟩
      have hs18 : Below w17.heap.size w17 w18 := (by go_grown : Below w17.heap.size w17 _).trans (hb18.mono (by go_size))
      have z18 : w17.heap.size ≤ w18.heap.size := hs18.size
      have HW18 := hide (HW17.out.trans (hs18.mono HW17.out.size))
      have c_aG0_18 : w18.cell? ⟨w.heap.size, 0, none⟩ = some (.slice A n c) := (hs18.cell (p := ⟨w.heap.size, 0, none⟩) l_aG_17).trans c_aG0_17
      have c_aG1_18 : w18.cell? ⟨w.heap.size, 1, none⟩ = some (.bool own) := (hs18.cell (p := ⟨w.heap.size, 1, none⟩) l_aG_17).trans c_aG1_17
      have l_aG_18 : w.heap.size < w18.heap.size := Nat.lt_of_lt_of_le l_aG_17 z18
      have c_aH0_18 : w18.cell? ⟨w.heap.size + 1, 0, none⟩ = some (.slice B m c') := (hs18.cell (p := ⟨w.heap.size + 1, 0, none⟩) l_aH_17).trans c_aH0_17
      have c_aH1_18 : w18.cell? ⟨w.heap.size + 1, 1, none⟩ = some (.bool own) := (hs18.cell (p := ⟨w.heap.size + 1, 1, none⟩) l_aH_17).trans c_aH1_17
      have l_aH_18 : w.heap.size + 1 < w18.heap.size := Nat.lt_of_lt_of_le l_aH_17 z18
      have c_s0_18 : w18.cell? ⟨b3, 0, none⟩ = some (.slice (some ⟨g3, 0, none⟩) N c_g3) := (hs18.cell (p := ⟨b3, 0, none⟩) l_s_17).trans c_s0_17
      have c_s1_18 : w18.cell? ⟨b3, 1, none⟩ = some (.bool own) := (hs18.cell (p := ⟨b3, 1, none⟩) l_s_17).trans c_s1_17
      have l_s_18 : b3 < w18.heap.size := Nat.lt_of_lt_of_le l_s_17 z18
      have c_x0_18 : w18.cell? ⟨w4.heap.size, 0, none⟩ = some (.slice (some ⟨g4, 0, none⟩) n n) := (hs18.cell (p := ⟨w4.heap.size, 0, none⟩) l_x_17).trans c_x0_17
      have c_x1_18 : w18.cell? ⟨w4.heap.size, 1, none⟩ = some (.bool own) := (hs18.cell (p := ⟨w4.heap.size, 1, none⟩) l_x_17).trans c_x1_17
      have l_x_18 : w4.heap.size < w18.heap.size := Nat.lt_of_lt_of_le l_x_17 z18
      have c_y0_18 : w18.cell? ⟨w5.heap.size, 0, none⟩ = some (.slice (some ⟨g5, 0, none⟩) m m) := (hs18.cell (p := ⟨w5.heap.size, 0, none⟩) l_y_17).trans c_y0_17
      have c_y1_18 : w18.cell? ⟨w5.heap.size, 1, none⟩ = some (.bool own) := (hs18.cell (p := ⟨w5.heap.size, 1, none⟩) l_y_17).trans c_y1_17
      have l_y_18 : w5.heap.size < w18.heap.size := Nat.lt_of_lt_of_le l_y_17 z18
      have c_i0_18 : w18.cell? ⟨w6.heap.size, 0, none⟩ = some (.slice (some ⟨g6, 0, none⟩) N c_g6) := (hs18.cell (p := ⟨w6.heap.size, 0, none⟩) l_i_17).trans c_i0_17
      have c_i1_18 : w18.cell? ⟨w6.heap.size, 1, none⟩ = some (.bool own) := (hs18.cell (p := ⟨w6.heap.size, 1, none⟩) l_i_17).trans c_i1_17
      have l_i_18 : w6.heap.size < w18.heap.size := Nat.lt_of_lt_of_le l_i_17 z18
      have c_j0_18 : w18.cell? ⟨b17, 0, none⟩ = some (.slice (some ⟨g17, 0, none⟩) N c_g17) := (hs18.cell (p := ⟨b17, 0, none⟩) l_j_17).trans c_j0_17
      have c_j1_18 : w18.cell? ⟨b17, 1, none⟩ = some (.bool own) := (hs18.cell (p := ⟨b17, 1, none⟩) l_j_17).trans c_j1_17
      have l_j_18 : b17 < w18.heap.size := Nat.lt_of_lt_of_le l_j_17 z18
      have HA_s_18 := hide (HA_s_17.out.all hs18)
      have HA_x_18 := hide (HA_x_17.out.all hs18)
      have HA_y_18 := hide (HA_y_17.out.all hs18)
      have HA_i_18 := hide (HA_i_17.out.all hs18)
      have HA_j_18 := hide (HA_j_17.out.all hs18)
      clear c_aG0_17 c_aG1_17 l_aG_17 c_aH0_17 c_aH1_17 l_aH_17 c_s0_17 c_s1_17 l_s_17 c_x0_17 c_x1_17 l_x_17 c_y0_17 c_y1_17 l_y_17 c_i0_17 c_i1_17 l_i_17 c_j0_17 c_j1_17 l_j_17 HA_s_17 HA_x_17 HA_y_17 HA_i_17 HA_j_17 hb18 hs18
      go_wp2_with fail
      refine (heldGraph_any _ _ _ _ _ _ (by omega) (by omega) (by omega) (by first | exact Src.of_arr HA_i_18.out | exact Src.of_arr (HA_i_18.out.alloc _) | exact Src.of_arr ((HA_i_18.out.alloc _).alloc _) | exact Src.of_arr HA_i_18.out.drew)).mono ?_
      rintro e w19 ⟨rfl, hb19⟩
      have hs19 : Below w18.heap.size w18 w19 := (by go_grown : Below w18.heap.size w18 _).trans (hb19.mono (by go_size))
      have z19 : w18.heap.size ≤ w19.heap.size := hs19.size
      have HW19 := hide (HW18.out.trans (hs19.mono HW18.out.size))
      have c_aG0_19 : w19.cell? ⟨w.heap.size, 0, none⟩ = some (.slice A n c) := (hs19.cell (p := ⟨w.heap.size, 0, none⟩) l_aG_18).trans c_aG0_18
      have c_aG1_19 : w19.cell? ⟨w.heap.size, 1, none⟩ = some (.bool own) := (hs19.cell (p := ⟨w.heap.size, 1, none⟩) l_aG_18).trans c_aG1_18
      have l_aG_19 : w.heap.size < w19.heap.size := Nat.lt_of_lt_of_le l_aG_18 z19
      have c_aH0_19 : w19.cell? ⟨w.heap.size + 1, 0, none⟩ = some (.slice B m c') := (hs19.cell (p := ⟨w.heap.size + 1, 0, none⟩) l_aH_18).trans c_aH0_18
      have c_aH1_19 : w19.cell? ⟨w.heap.size + 1, 1, none⟩ = some (.bool own) := (hs19.cell (p := ⟨w.heap.size + 1, 1, none⟩) l_aH_18).trans c_aH1_18
      have l_aH_19 : w.heap.size + 1 < w19.heap.size := Nat.lt_of_lt_of_le l_aH_18 z19
      have c_s0_19 : w19.cell? ⟨b3, 0, none⟩ = some (.slice (some ⟨g3, 0, none⟩) N c_g3) := (hs19.cell (p := ⟨b3, 0, none⟩) l_s_18).trans c_s0_18
      have c_s1_19 : w19.cell? ⟨b3, 1, none⟩ = some (.bool own) := (hs19.cell (p := ⟨b3, 1, none⟩) l_s_18).trans c_s1_18
      have l_s_19 : b3 < w19.heap.size := Nat.lt_of_lt_of_le l_s_18 z19
      have c_x0_19 : w19.cell? ⟨w4.heap.size, 0, none⟩ = some (.slice (some ⟨g4, 0, none⟩) n n) := (hs19.cell (p := ⟨w4.heap.size, 0, none⟩) l_x_18).trans c_x0_18
      have c_x1_19 : w19.cell? ⟨w4.heap.size, 1, none⟩ = some (.bool own) := (hs19.cell (p := ⟨w4.heap.size, 1, none⟩) l_x_18).trans c_x1_18
      have l_x_19 : w4.heap.size < w19.heap.size := Nat.lt_of_lt_of_le l_x_18 z19
      have c_y0_19 : w19.cell? ⟨w5.heap.size, 0, none⟩ = some (.slice (some ⟨g5, 0, none⟩) m m) := (hs19.cell (p := ⟨w5.heap.size, 0, none⟩) l_y_18).trans c_y0_18
      have c_y1_19 : w19.cell? ⟨w5.heap.size, 1, none⟩ = some (.bool own) := (hs19.cell (p := ⟨w5.heap.size, 1, none⟩) l_y_18).trans c_y1_18
      have l_y_19 : w5.heap.size < w19.heap.size := Nat.lt_of_lt_of_le l_y_18 z19
      have c_i0_19 : w19.cell? ⟨w6.heap.size, 0, none⟩ = some (.slice (some ⟨g6, 0, none⟩) N c_g6) := (hs19.cell (p := ⟨w6.heap.size, 0, none⟩) l_i_18).trans c_i0_18
      have c_i1_19 : w19.cell? ⟨w6.heap.size, 1, none⟩ = some (.bool own) := (hs19.cell (p := ⟨w6.heap.size, 1, none⟩) l_i_18).trans c_i1_18
      have l_i_19 : w6.heap.size < w19.heap.size := Nat.lt_of_lt_of_le l_i_18 z19
      have c_j0_19 : w19.cell? ⟨b17, 0, none⟩ = some (.slice (some ⟨g17, 0, none⟩) N c_g17) := (hs19.cell (p := ⟨b17, 0, none⟩) l_j_18).trans c_j0_18
      have c_j1_19 : w19.cell? ⟨b17, 1, none⟩ = some (.bool own) := (hs19.cell (p := ⟨b17, 1, none⟩) l_j_18).trans c_j1_18
      have l_j_19 : b17 < w19.heap.size := Nat.lt_of_lt_of_le l_j_18 z19
      have HA_s_19 := hide (HA_s_18.out.all hs19)
      have HA_x_19 := hide (HA_x_18.out.all hs19)
      have HA_y_19 := hide (HA_y_18.out.all hs19)
      have HA_i_19 := hide (HA_i_18.out.all hs19)
      have HA_j_19 := hide (HA_j_18.out.all hs19)
      clear c_aG0_18 c_aG1_18 l_aG_18 c_aH0_18 c_aH1_18 l_aH_18 c_s0_18 c_s1_18 l_s_18 c_x0_18 c_x1_18 l_x_18 c_y0_18 c_y1_18 l_y_18 c_i0_18 c_i1_18 l_i_18 c_j0_18 c_j1_18 l_j_18 HA_s_18 HA_x_18 HA_y_18 HA_i_18 HA_j_18 hb19 hs19
      go_wp2
      go_ret
      exact ⟨rfl, by have h := HW19.out; have hz := h.size; go_grown⟩
end Go.Proofs.YtdpoceijnbbmgaaDoor
