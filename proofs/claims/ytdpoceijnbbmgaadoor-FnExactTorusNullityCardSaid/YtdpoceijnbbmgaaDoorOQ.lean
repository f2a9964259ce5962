/-
PathProduct: both sides, and the statement, walked.
-/
import Derived.Test.YtdpoceijnbbmgaaDoorOP
import Derived.Test.YtdpoceijnbbmgaaDoorTG8
import Derived.Test.YtdpoceijnbbmgaaDoorNB
import Derived.Test.YtdpoceijnbbmgaaDoorTQ
namespace Go.Proofs.YtdpoceijnbbmgaaDoor
open Go.RowKit
set_option maxHeartbeats 4000000
theorem fi41 {n : Nat} (h : n ≤ 41) : fi n < 2199023255552 := Nat.lt_of_lt_of_le (fi_lt n) (Nat.pow_le_pow_right (n := 2) (j := 41) (by decide) h)
theorem isSide_any (l n : Int) (w : World) : Calls Tryd.prog 69 #[.int .i64 l, .int .i64 n] w fun e w' => e = .returned (.bool (inB n l 40)) ∧ w' = w := by
  by_cases h1 : l ≤ n
  · by_cases h2 : n ≤ 40
    · have h : inB n l 40 = true := by simp only [inB, decide_eq_true_eq]; exact ⟨h1, h2⟩
      rw [h]
      go_enter Tryd.func69, Tryd.ntmps69
      go_wp2
      go_ret
      exact ⟨rfl, rfl⟩
    · have h : inB n l 40 = false := by simp only [inB, decide_eq_false_iff_not]; exact fun h => h2 h.2
      rw [h]
      go_enter Tryd.func69, Tryd.ntmps69
      go_wp2
      go_ret
      exact ⟨rfl, rfl⟩
  · have h : inB n l 40 = false := by simp only [inB, decide_eq_false_iff_not]; exact fun h => h1 h.1
    rw [h]
    go_enter Tryd.func69, Tryd.ntmps69
    go_wp2
    go_ret
    exact ⟨rfl, rfl⟩
/-- The nullity of the product with a path. -/
def ppN (n : Nat) (F : Nat → Nat) (own : Bool) (m : Nat) : Nat := nl n (fun j => pm n (tog F own) (fi (m + 1)) (bl (fi (m + 1))) j)
theorem pqSpec_a (g n c : Nat) (f : Nat → Int) (own : Bool) (x : Int) (w : World) (hn : n ≤ 1048576) (hgd : goodB n f = false) (ha : Arr w 3 g n (iv f)) :
    Calls Tryd.prog 30 #[.agg #[.slice (some ⟨g, 0, none⟩) n c, .bool own], .int .i64 x] w fun e w' => e = .returned (.tuple #[.int .i64 0, .bool false]) ∧ Below w.heap.size w w' := by
  have HA := hide ha
  have HG := hide hgd
  clear ha hgd
  go_enter Tryd.func30, Tryd.ntmps30
  go_wp2_with fail
  refine (grGood_any _ _ _ f _ _ (by omega) (HA.out.alloc _)).mono ?_
  rintro e w1 ⟨rfl, hb1⟩
  rw [HG.out]
  have hp := (Arr.box w 26 (.slice (some ⟨g, 0, none⟩) n c) (.bool own)).all hb1
  have HX1 := hide hp
  have c0 : w1.cell? ⟨w.heap.size, 0, none⟩ = some (.slice (some ⟨g, 0, none⟩) n c) := hp.cell (k := 0) (by omega)
  have c1 : w1.cell? ⟨w.heap.size, 1, none⟩ = some (.bool own) := hp.cell (k := 1) (by omega)
  have hl1 := hp.lt
  have HB1 := hide ((by go_grown : Below w.heap.size w _).trans (hb1.mono (by simp)))
  have HA1 := hide ((HA.out.alloc _).all hb1)
  clear hb1 hp
  go_wp2
  go_ret2
  exact ⟨rfl, HB1.out⟩
theorem pqSpec_b (g n c : Nat) (F : Nat → Nat) (own : Bool) (x : Int) (w : World) (hn : n ≤ 16) (hgd : goodB n (nv F) = true) (ha : Arr w 3 g n (iv (nv F))) (hx : inB x 1 40 = false) :
    Calls Tryd.prog 30 #[.agg #[.slice (some ⟨g, 0, none⟩) n c, .bool own], .int .i64 x] w fun e w' => e = .returned (.tuple #[.int .i64 0, .bool false]) ∧ Below w.heap.size w w' := by
  have HA := hide ha
  have HG := hide hgd
  have HX := hide hx
  clear ha hgd hx
  go_enter Tryd.func30, Tryd.ntmps30
  go_wp2_with fail
  refine (grGood_any _ _ _ (nv F) _ _ (by omega) (HA.out.alloc _)).mono ?_
  rintro e w1 ⟨rfl, hb1⟩
  rw [HG.out]
  have hp := (Arr.box w 26 (.slice (some ⟨g, 0, none⟩) n c) (.bool own)).all hb1
  have HX1 := hide hp
  have c0 : w1.cell? ⟨w.heap.size, 0, none⟩ = some (.slice (some ⟨g, 0, none⟩) n c) := hp.cell (k := 0) (by omega)
  have c1 : w1.cell? ⟨w.heap.size, 1, none⟩ = some (.bool own) := hp.cell (k := 1) (by omega)
  have hl1 := hp.lt
  have HB1 := hide ((by go_grown : Below w.heap.size w _).trans (hb1.mono (by simp)))
  have HA1 := hide ((HA.out.alloc _).all hb1)
  clear hb1 hp
  go_wp2_with fail
  refine (l1InG_any _ _ _ _).mono ?_
  rintro e w' ⟨rfl, hw⟩
  subst w'
  rw [HX.out]
  go_wp2
  go_ret2
  exact ⟨rfl, HB1.out⟩
theorem pqSpec_ok (g n c m : Nat) (F : Nat → Nat) (own : Bool) (w : World) (h1 : 1 ≤ n) (hn : n ≤ 16) (hF : ∀ k, k < n → F k < 2 ^ n) (hgd : goodB n (nv F) = true) (ha : Arr w 3 g n (iv (nv F))) (h3 : 1 ≤ m) (h40 : m ≤ 40) (hx : inB (m : Nat) 1 40 = true) :
    Calls Tryd.prog 30 #[.agg #[.slice (some ⟨g, 0, none⟩) n c, .bool own], .int .i64 m] w fun e w' => e = .returned (.tuple #[.int .i64 (ppN n F own m : Nat), .bool true]) ∧ Below w.heap.size w w' := by
  have HA := hide ha
  have HG := hide hgd
  have HX := hide hx
  have HF := hide hF
  have HF16 : Hid (∀ k, k < n → F k < 65536) := hide fun k hk => Nat.lt_of_lt_of_le (hF k hk) (p16 hn)
  have HTL : Hid (∀ k, k < n → tog F own k < 2 ^ n) := hide fun k hk => tog_lt2 hk (hF k hk)

  clear ha hgd hx hF
  go_enter Tryd.func30, Tryd.ntmps30
  go_wp2_with fail
  refine (grGood_any _ _ _ (nv F) _ _ (by omega) (HA.out.alloc _)).mono ?_
  rintro e w1 ⟨rfl, hb1⟩
  rw [HG.out]
  have hp := (Arr.box w 26 (.slice (some ⟨g, 0, none⟩) n c) (.bool own)).all hb1
  have HX1 := hide hp
  have c0 : w1.cell? ⟨w.heap.size, 0, none⟩ = some (.slice (some ⟨g, 0, none⟩) n c) := hp.cell (k := 0) (by omega)
  have c1 : w1.cell? ⟨w.heap.size, 1, none⟩ = some (.bool own) := hp.cell (k := 1) (by omega)
  have hl1 := hp.lt
  have HB1 := hide ((by go_grown : Below w.heap.size w _).trans (hb1.mono (by simp)))
  have HA1 := hide ((HA.out.alloc _).all hb1)
  clear hb1 hp
  go_wp2_with fail
  refine (l1InG_any _ _ _ _).mono ?_
  rintro e w' ⟨rfl, hw⟩
  subst w'
  rw [HX.out]
  obtain ⟨m1, hm1⟩ : ∃ m1, m + 1 = m1 := ⟨_, rfl⟩
  have e1 : (m : Int) + 1 = (m1 : Int) := by omega
  have HPP : Hid (nl n (fun j => pm n (tog F own) (fi m1) (bl (fi m1)) j) = ppN n F own m) := hide (by rw [← hm1]; rfl)
  have hm41 : m1 ≤ 41 := by omega
  clear hm1
  go_wp2_with fail
  refine (prMap_any _ _ _ F own _ h1 hn HF16.out HA1.out).mono ?_
  rintro e w2 ⟨g2, d2, rfl, hlo2, ha2, hb2⟩
  have HA2 := hide ha2
  have HB2 := hide (HB1.out.trans (hb2.mono HB1.out.size))
  clear ha2 hb2
  go_wp2_with fail
  try simp only [e1]
  refine (T.poFibonacci_any m1 _ hm41).mono ?_
  rintro e w' ⟨rfl, hw⟩
  subst w'
  go_wp2_with fail
  refine (prPoly_any (some ⟨g2, 0, none⟩) n d2 (fi m1) (tog F own) _ h1 (by omega) (fi41 hm41) (Src.of_arr HA2.out) HTL.out).mono ?_
  rintro e w3 ⟨g3, d3, rfl, hlo3, ha3, hb3⟩
  have HA3 := hide ha3
  have HB3 := hide (HB2.out.trans (hb3.mono HB2.out.size))
  clear ha3 hb3
  go_wp2_with fail
  refine (prNullity_any (some ⟨g3, 0, none⟩) n d3 _ _ (by omega) (fun j hj => pm_lt HTL.out (fi m1) j hj _) (Src.of_arr HA3.out)).mono ?_
  rintro e w4 ⟨rfl, hb4⟩
  rw [HPP.out]
  have HB4 := hide (HB3.out.trans (hb4.mono HB3.out.size))
  go_wp2
  go_ret2
  exact ⟨rfl, HB4.out⟩
theorem pqImpl_a (g n c : Nat) (f : Nat → Int) (own : Bool) (x : Int) (w : World) (hn : n ≤ 1048576) (hgd : goodB n f = false) (ha : Arr w 3 g n (iv f)) :
    Calls Tryd.prog 31 #[.agg #[.slice (some ⟨g, 0, none⟩) n c, .bool own], .int .i64 x] w fun e w' => e = .returned (.tuple #[.int .i64 0, .bool false]) ∧ Below w.heap.size w w' := by
  have HA := hide ha
  have HG := hide hgd
  clear ha hgd
  go_enter Tryd.func31, Tryd.ntmps31
  go_wp2_with fail
  refine (isGraph_any _ _ _ f _ _ (by omega) (HA.out.alloc _)).mono ?_
  rintro e w1 ⟨rfl, hb1⟩
  rw [HG.out]
  have hp := (Arr.box w 26 (.slice (some ⟨g, 0, none⟩) n c) (.bool own)).all hb1
  have HX1 := hide hp
  have c0 : w1.cell? ⟨w.heap.size, 0, none⟩ = some (.slice (some ⟨g, 0, none⟩) n c) := hp.cell (k := 0) (by omega)
  have c1 : w1.cell? ⟨w.heap.size, 1, none⟩ = some (.bool own) := hp.cell (k := 1) (by omega)
  have hl1 := hp.lt
  have HB1 := hide ((by go_grown : Below w.heap.size w _).trans (hb1.mono (by simp)))
  have HA1 := hide ((HA.out.alloc _).all hb1)
  clear hb1 hp
  go_wp2
  go_ret2
  exact ⟨rfl, HB1.out⟩
theorem pqImpl_b (g n c : Nat) (F : Nat → Nat) (own : Bool) (x : Int) (w : World) (hn : n ≤ 16) (hgd : goodB n (nv F) = true) (ha : Arr w 3 g n (iv (nv F))) (hx : inB x 1 40 = false) :
    Calls Tryd.prog 31 #[.agg #[.slice (some ⟨g, 0, none⟩) n c, .bool own], .int .i64 x] w fun e w' => e = .returned (.tuple #[.int .i64 0, .bool false]) ∧ Below w.heap.size w w' := by
  have HA := hide ha
  have HG := hide hgd
  have HX := hide hx
  clear ha hgd hx
  go_enter Tryd.func31, Tryd.ntmps31
  go_wp2_with fail
  refine (isGraph_any _ _ _ (nv F) _ _ (by omega) (HA.out.alloc _)).mono ?_
  rintro e w1 ⟨rfl, hb1⟩
  rw [HG.out]
  have hp := (Arr.box w 26 (.slice (some ⟨g, 0, none⟩) n c) (.bool own)).all hb1
  have HX1 := hide hp
  have c0 : w1.cell? ⟨w.heap.size, 0, none⟩ = some (.slice (some ⟨g, 0, none⟩) n c) := hp.cell (k := 0) (by omega)
  have c1 : w1.cell? ⟨w.heap.size, 1, none⟩ = some (.bool own) := hp.cell (k := 1) (by omega)
  have hl1 := hp.lt
  have HB1 := hide ((by go_grown : Below w.heap.size w _).trans (hb1.mono (by simp)))
  have HA1 := hide ((HA.out.alloc _).all hb1)
  clear hb1 hp
  go_wp2_with fail
  refine (isSide_any _ _ _).mono ?_
  rintro e w' ⟨rfl, hw⟩
  subst w'
  rw [HX.out]
  go_wp2
  go_ret2
  exact ⟨rfl, HB1.out⟩
theorem pqImpl_ok (g n c m : Nat) (F : Nat → Nat) (own : Bool) (w : World) (h1 : 1 ≤ n) (hn : n ≤ 16) (hF : ∀ k, k < n → F k < 2 ^ n) (hgd : goodB n (nv F) = true) (hT : Tab w) (ha : Arr w 3 g n (iv (nv F))) (h3 : 1 ≤ m) (h40 : m ≤ 40) (hx : inB (m : Nat) 1 40 = true) :
    Calls Tryd.prog 31 #[.agg #[.slice (some ⟨g, 0, none⟩) n c, .bool own], .int .i64 m] w fun e w' => e = .returned (.tuple #[.int .i64 (ppN n F own m : Nat), .bool true]) ∧ Below w.heap.size w w' := by
  have HA := hide ha
  have HG := hide hgd
  have HX := hide hx
  have HF := hide hF
  have HF16 : Hid (∀ k, k < n → F k < 65536) := hide fun k hk => Nat.lt_of_lt_of_le (hF k hk) (p16 hn)
  have HTL : Hid (∀ k, k < n → tog F own k < 2 ^ n) := hide fun k hk => tog_lt2 hk (hF k hk)
  have HT := hide hT
  clear ha hgd hx hF hT
  go_enter Tryd.func31, Tryd.ntmps31
  go_wp2_with fail
  refine (isGraph_any _ _ _ (nv F) _ _ (by omega) (HA.out.alloc _)).mono ?_
  rintro e w1 ⟨rfl, hb1⟩
  rw [HG.out]
  have hp := (Arr.box w 26 (.slice (some ⟨g, 0, none⟩) n c) (.bool own)).all hb1
  have HX1 := hide hp
  have c0 : w1.cell? ⟨w.heap.size, 0, none⟩ = some (.slice (some ⟨g, 0, none⟩) n c) := hp.cell (k := 0) (by omega)
  have c1 : w1.cell? ⟨w.heap.size, 1, none⟩ = some (.bool own) := hp.cell (k := 1) (by omega)
  have hl1 := hp.lt
  have HB1 := hide ((by go_grown : Below w.heap.size w _).trans (hb1.mono (by simp)))
  have HA1 := hide ((HA.out.alloc _).all hb1)
  clear hb1 hp
  go_wp2_with fail
  refine (isSide_any _ _ _).mono ?_
  rintro e w' ⟨rfl, hw⟩
  subst w'
  rw [HX.out]
  obtain ⟨m1, hm1⟩ : ∃ m1, m + 1 = m1 := ⟨_, rfl⟩
  have e1 : (m : Int) + 1 = (m1 : Int) := by omega
  have HPP : Hid (nl n (fun j => pm n (tog F own) (fi m1) (bl (fi m1)) j) = ppN n F own m) := hide (by rw [← hm1]; rfl)
  have hm41 : m1 ≤ 41 := by omega
  have hm2 : (m1 : Int) - 1 = (m : Nat) := by omega
  clear hm1
  go_wp2_with fail
  try simp only [e1]
  refine (T.fbImpl_ok m1 m _ hm2 hm41).mono ?_
  rintro e w2 ⟨rfl, hb2⟩
  have HX2 := hide (HX1.out.all hb2)
  have HA2 := hide (HA1.out.all hb2)
  have HB2 := hide (HB1.out.trans (hb2.mono HB1.out.size))
  clear hb2 c0 c1 hl1
  have c0 : w2.cell? ⟨w.heap.size, 0, none⟩ = some (.slice (some ⟨g, 0, none⟩) n c) := HX2.out.cell (k := 0) (by omega)
  have c1 : w2.cell? ⟨w.heap.size, 1, none⟩ = some (.bool own) := HX2.out.cell (k := 1) (by omega)
  go_wp2_with fail
  refine (allToggles_any _ _ _ F own _ hn HF16.out HA2.out).mono ?_
  rintro e w3 ⟨g3, d3, rfl, hlo3, ha3, hb3⟩
  have HA3 := hide ha3
  have HB3 := hide (HB2.out.trans (hb3.mono HB2.out.size))
  clear ha3 hb3
  go_wp2_with fail
  refine (setMapWith_any (some ⟨g3, 0, none⟩) n d3 (tog F own) _ (by omega) (Src.of_arr HA3.out)).mono ?_
  rintro e w4 ⟨g4, rfl, hlo4, ha4, hb4⟩
  have HA4 := hide ha4
  have HB4 := hide (HB3.out.trans (hb4.mono HB3.out.size))
  clear ha4 hb4
  go_wp2_with fail
  refine (ofPoly_any (some ⟨g4, 0, none⟩) n n (fi m1) (tog F own) _ h1 (by omega) (fi41 hm41) (HT.out.below HB4.out) (Src.of_arr HA4.out) HTL.out).mono ?_
  rintro e w5 ⟨g5, rfl, hlo5, ha5, hb5⟩
  have HA5 := hide ha5
  have HB5 := hide (HB4.out.trans (hb5.mono HB4.out.size))
  clear ha5 hb5
  go_wp2_with fail
  refine (mapNullity_any (some ⟨g5, 0, none⟩) n n _ _ (by omega) (fun j hj => pm_lt HTL.out (fi m1) j hj _) (Src.of_arr HA5.out)).mono ?_
  rintro e w6 ⟨rfl, hb6⟩
  rw [HPP.out]
  have HB6 := hide (HB5.out.trans (hb6.mono HB5.out.size))
  go_wp2
  go_ret2
  exact ⟨rfl, HB6.out⟩
theorem lawPathProductL_pair (A : Option Addr) (n c : Nat) (f : Nat → Int) (own : Bool) (x : Int) (v : Int) (ok : Bool) (w : World) (hn2 : n ≤ 1048576) (HSP : Hid (∀ (g c : Nat) (w : World), Arr w 3 g n (iv f) → Calls Tryd.prog 30 #[.agg #[.slice (some ⟨g, 0, none⟩) n c, .bool own], .int .i64 x] w (fun e w' => e = .returned (.tuple #[.int .i64 v, .bool ok]) ∧ Below w.heap.size w w'))) (HIM : Hid (∀ (g c : Nat) (w : World), Tab w → Arr w 3 g n (iv f) → Calls Tryd.prog 31 #[.agg #[.slice (some ⟨g, 0, none⟩) n c, .bool own], .int .i64 x] w (fun e w' => e = .returned (.tuple #[.int .i64 v, .bool ok]) ∧ Below w.heap.size w w'))) (HS_A : Hid (Src w A n (iv f))) (HT : Hid (Tab w)) :
    Calls Tryd.prog 8 #[.agg #[.slice A n c, .bool own], .int .i64 x] w fun e w' => e = .returned (.bool true) ∧ Below w.heap.size w w' := by
  go_enter Tryd.func8, Tryd.ntmps8
  go_wp2_with fail
  refine (szGraph_ok _ _ _ _ _ _ (by omega) (by omega)).mono ?_
  rintro e w1 ⟨rfl, hb1⟩
  have hs1 : Below w.heap.size w w1 := (by go_grown : Below w.heap.size w _).trans (hb1.mono (by go_size))
  have z1 : w.heap.size ≤ w1.heap.size := hs1.size
  have HW1 := hide hs1
  have c_aG0_1 : w1.cell? ⟨w.heap.size, 0, none⟩ = some (.slice A n c) := (hb1.cell (p := ⟨w.heap.size, 0, none⟩) (by go_size)).trans (by simp [go_sem])
  have c_aG1_1 : w1.cell? ⟨w.heap.size, 1, none⟩ = some (.bool own) := (hb1.cell (p := ⟨w.heap.size, 1, none⟩) (by go_size)).trans (by simp [go_sem])
  have l_aG_1 : w.heap.size < w1.heap.size := Nat.lt_of_lt_of_le (by go_size) hb1.size
  clear  hb1 hs1
  go_wp2_with fail
  refine (toGraph_any _ _ _ f _ _ hn2 (by first | exact (HS_A.out.below HW1.out) | exact Src.alloc (HS_A.out.below HW1.out) _ | exact Src.alloc (Src.alloc (HS_A.out.below HW1.out) _) _ | exact Src.drew (HS_A.out.below HW1.out))).mono ?_
  rintro e w2 ⟨g2, rfl, lo_g2, ha2, hb2⟩
  try simp only [World.size_alloc] at lo_g2
  have hs2 : Below w1.heap.size w1 w2 := (by go_grown : Below w1.heap.size w1 _).trans (hb2.mono (by go_size))
  have z2 : w1.heap.size ≤ w2.heap.size := hs2.size
  have HW2 := hide (HW1.out.trans (hs2.mono HW1.out.size))
  have c_aG0_2 : w2.cell? ⟨w.heap.size, 0, none⟩ = some (.slice A n c) := (hs2.cell (p := ⟨w.heap.size, 0, none⟩) l_aG_1).trans c_aG0_1
  have c_aG1_2 : w2.cell? ⟨w.heap.size, 1, none⟩ = some (.bool own) := (hs2.cell (p := ⟨w.heap.size, 1, none⟩) l_aG_1).trans c_aG1_1
  have l_aG_2 : w.heap.size < w2.heap.size := Nat.lt_of_lt_of_le l_aG_1 z2
  have HA_t_2 := hide ha2
  have hi_t_2 : g2 < w2.heap.size := ha2.lt
  clear c_aG0_1 c_aG1_1 l_aG_1 ha2 hb2 hs2
  go_wp2_with fail
  refine (HSP.out _ _ _ (by first | exact HA_t_2.out | exact HA_t_2.out.alloc _ | exact (HA_t_2.out.alloc _).alloc _ | exact HA_t_2.out.drew)).mono ?_
  rintro e w3 ⟨rfl, hb3⟩
  have hs3 : Below w2.heap.size w2 w3 := (by go_grown : Below w2.heap.size w2 _).trans (hb3.mono (by go_size))
  have z3 : w2.heap.size ≤ w3.heap.size := hs3.size
  have HW3 := hide (HW2.out.trans (hs3.mono HW2.out.size))
  have c_aG0_3 : w3.cell? ⟨w.heap.size, 0, none⟩ = some (.slice A n c) := (hs3.cell (p := ⟨w.heap.size, 0, none⟩) l_aG_2).trans c_aG0_2
  have c_aG1_3 : w3.cell? ⟨w.heap.size, 1, none⟩ = some (.bool own) := (hs3.cell (p := ⟨w.heap.size, 1, none⟩) l_aG_2).trans c_aG1_2
  have l_aG_3 : w.heap.size < w3.heap.size := Nat.lt_of_lt_of_le l_aG_2 z3
  have HA_t_3 := hide (HA_t_2.out.all hs3)
  clear c_aG0_2 c_aG1_2 l_aG_2 HA_t_2 hb3 hs3
  go_wp2_with fail
  refine (toGraph_any _ _ _ f _ _ hn2 (by first | exact (HS_A.out.below HW3.out) | exact Src.alloc (HS_A.out.below HW3.out) _ | exact Src.alloc (Src.alloc (HS_A.out.below HW3.out) _) _ | exact Src.drew (HS_A.out.below HW3.out))).mono ?_
  rintro e w4 ⟨g4, rfl, lo_g4, ha4, hb4⟩
  try simp only [World.size_alloc] at lo_g4
  have hs4 : Below w3.heap.size w3 w4 := (by go_grown : Below w3.heap.size w3 _).trans (hb4.mono (by go_size))
  have z4 : w3.heap.size ≤ w4.heap.size := hs4.size
  have HW4 := hide (HW3.out.trans (hs4.mono HW3.out.size))
  have c_aG0_4 : w4.cell? ⟨w.heap.size, 0, none⟩ = some (.slice A n c) := (hs4.cell (p := ⟨w.heap.size, 0, none⟩) l_aG_3).trans c_aG0_3
  have c_aG1_4 : w4.cell? ⟨w.heap.size, 1, none⟩ = some (.bool own) := (hs4.cell (p := ⟨w.heap.size, 1, none⟩) l_aG_3).trans c_aG1_3
  have l_aG_4 : w.heap.size < w4.heap.size := Nat.lt_of_lt_of_le l_aG_3 z4
  have HA_t_4 := hide (HA_t_3.out.all hs4)
  have HA_x_4 := hide ha4
  have hi_x_4 : g4 < w4.heap.size := ha4.lt
  clear c_aG0_3 c_aG1_3 l_aG_3 HA_t_3 ha4 hb4 hs4
  go_wp2_with fail
  refine (HIM.out _ _ _ (by first | exact (HT.out.below HW4.out) | exact Tab.below (HT.out.below HW4.out) (by go_grown)) (by first | exact HA_x_4.out | exact HA_x_4.out.alloc _ | exact (HA_x_4.out.alloc _).alloc _ | exact HA_x_4.out.drew)).mono ?_
  rintro e w5 ⟨rfl, hb5⟩
  have hs5 : Below w4.heap.size w4 w5 := (by go_grown : Below w4.heap.size w4 _).trans (hb5.mono (by go_size))
  have z5 : w4.heap.size ≤ w5.heap.size := hs5.size
  have HW5 := hide (HW4.out.trans (hs5.mono HW4.out.size))
  have c_aG0_5 : w5.cell? ⟨w.heap.size, 0, none⟩ = some (.slice A n c) := (hs5.cell (p := ⟨w.heap.size, 0, none⟩) l_aG_4).trans c_aG0_4
  have c_aG1_5 : w5.cell? ⟨w.heap.size, 1, none⟩ = some (.bool own) := (hs5.cell (p := ⟨w.heap.size, 1, none⟩) l_aG_4).trans c_aG1_4
  have l_aG_5 : w.heap.size < w5.heap.size := Nat.lt_of_lt_of_le l_aG_4 z5
  have c_x0_5 : w5.cell? ⟨w4.heap.size, 0, none⟩ = some (.slice (some ⟨g4, 0, none⟩) n n) := (hb5.cell (p := ⟨w4.heap.size, 0, none⟩) (by go_size)).trans (by simp [go_sem])
  have c_x1_5 : w5.cell? ⟨w4.heap.size, 1, none⟩ = some (.bool own) := (hb5.cell (p := ⟨w4.heap.size, 1, none⟩) (by go_size)).trans (by simp [go_sem])
  have l_x_5 : w4.heap.size < w5.heap.size := Nat.lt_of_lt_of_le (by go_size) hb5.size
  have HA_t_5 := hide (HA_t_4.out.all hs5)
  have HA_x_5 := hide (HA_x_4.out.all hs5)
  clear c_aG0_4 c_aG1_4 l_aG_4 HA_t_4 HA_x_4 hb5 hs5
  go_wp2_with fail
  have KK : Hid (w5.drew.cell? ⟨w4.heap.size, 0, none⟩ = some (.slice (some ⟨g4, 0, none⟩) n n) ∧ w5.drew.cell? ⟨w4.heap.size, 1, none⟩ = some (.bool own) ∧ w5.drew.cell? ⟨w.heap.size, 0, none⟩ = some (.slice A n c) ∧ w5.drew.cell? ⟨w.heap.size, 1, none⟩ = some (.bool own)) := hide ⟨c_x0_5, c_x1_5, c_aG0_5, c_aG1_5⟩
  go_region_held3 (fun w' => w'.cell? ⟨w4.heap.size, 0, none⟩ = some (.slice (some ⟨g4, 0, none⟩) n n) ∧ w'.cell? ⟨w4.heap.size, 1, none⟩ = some (.bool own) ∧ w'.cell? ⟨w.heap.size, 0, none⟩ = some (.slice A n c) ∧ w'.cell? ⟨w.heap.size, 1, none⟩ = some (.bool own)) (first | exact KK.out | exact four_below (by assumption) KK.out | exact four_below (by assumption) (four_below (by assumption) KK.out)) (first | (go_at_call 13; refine (toGraph_any _ _ _ f _ _ hn2 (by exact Src.drew (HS_A.out.below HW5.out))).mono ?_; rintro e w6 ⟨g6, rfl, lo_g6, ha_r, hb6⟩; have HA_r := hide ha_r; clear ha_r) | (go_at_call 15; refine (eqGraph_true _ _ _ _ _ f _ _ hn2 (by exact Src.of_arr ((HA_x_5.out.drew).all hb6)) (by exact Src.of_arr HA_r.out)).mono ?_; rintro e w7 ⟨rfl, hb7⟩))
  have hbr : Below w5.heap.size w5 w7 := (Below.drew (Below.refl _ _)).trans (Below.trans hb6 (hb7.mono hb6.size))
  clear KK HA_r lo_g6 hb6 hb7
  have hb7 := hbr
  clear hbr
  have hs7 : Below w5.heap.size w5 w7 := (by go_grown : Below w5.heap.size w5 _).trans (hb7.mono (by go_size))
  have z7 : w5.heap.size ≤ w7.heap.size := hs7.size
  have HW7 := hide (HW5.out.trans (hs7.mono HW5.out.size))
  have c_aG0_7 : w7.cell? ⟨w.heap.size, 0, none⟩ = some (.slice A n c) := (hs7.cell (p := ⟨w.heap.size, 0, none⟩) l_aG_5).trans c_aG0_5
  have c_aG1_7 : w7.cell? ⟨w.heap.size, 1, none⟩ = some (.bool own) := (hs7.cell (p := ⟨w.heap.size, 1, none⟩) l_aG_5).trans c_aG1_5
  have l_aG_7 : w.heap.size < w7.heap.size := Nat.lt_of_lt_of_le l_aG_5 z7
  have c_x0_7 : w7.cell? ⟨w4.heap.size, 0, none⟩ = some (.slice (some ⟨g4, 0, none⟩) n n) := (hs7.cell (p := ⟨w4.heap.size, 0, none⟩) l_x_5).trans c_x0_5
  have c_x1_7 : w7.cell? ⟨w4.heap.size, 1, none⟩ = some (.bool own) := (hs7.cell (p := ⟨w4.heap.size, 1, none⟩) l_x_5).trans c_x1_5
  have l_x_7 : w4.heap.size < w7.heap.size := Nat.lt_of_lt_of_le l_x_5 z7
  have HA_t_7 := hide (HA_t_5.out.all hs7)
  have HA_x_7 := hide (HA_x_5.out.all hs7)
  clear c_aG0_5 c_aG1_5 l_aG_5 c_x0_5 c_x1_5 l_x_5 HA_t_5 HA_x_5 hb7 hs7
  go_wp2
  go_ret
  exact ⟨rfl, by have h := HW7.out; have hz := h.size; go_grown⟩
theorem lawPathProductL_big (A : Option Addr) (n c : Nat) (own : Bool) (x : Int) (w : World) (hn : n ≤ 9223372036854775807) (hbig : 1048576 < n) :
    Calls Tryd.prog 8 #[.agg #[.slice A n c, .bool own], .int .i64 x] w fun e w' => e = .returned (.bool true) ∧ Below w.heap.size w w' := by
  have hbig' : (1048576 : Int) < n := by omega
  go_enter Tryd.func8, Tryd.ntmps8
  go_wp2_with (go_at_call 11; refine (szGraph_big _ _ _ _ _ _ hn hbig' (by omega) (by omega)).mono ?_; rintro e w' ⟨rfl, hb⟩)
  go_ret
  exact ⟨rfl, (by go_grown : Below w.heap.size w _).trans (hb.mono (by simp))⟩
theorem lawPathProduct (A : Option Addr) (n c : Nat) (f : Nat → Int) (own : Bool) (x : Int) (w : World) (hn : n ≤ 9223372036854775807) (hs : Src w A n (iv f)) (hT : Tab w) :
    Calls Tryd.prog 8 #[.agg #[.slice A n c, .bool own], .int .i64 x] w fun e w' => e = .returned (.bool true) ∧ Below w.heap.size w w' := by
  by_cases hbig : 1048576 < n
  · exact lawPathProductL_big A n c own x w hn hbig
  · cases hg : goodB n f
    · exact lawPathProductL_pair A n c f own x 0 false w (by omega) (hide fun g c w ha => pqSpec_a g n c f own x w (by omega) hg ha) (hide fun g c w _ ha => pqImpl_a g n c f own x w (by omega) hg ha) (hide hs) (hide hT)
    · obtain ⟨F, he, h2, h16, hG⟩ := good_nat (goodB_iff.1 hg)
      have hg2 := goodB_yes hG
      cases hx : inB x 1 40
      · exact lawPathProductL_pair A n c f own x 0 false w (by omega) (hide fun g c w ha => pqSpec_b g n c F own x w hG.2.1 hg2 (ha.congr fun k hk => by simp only [iv]; rw [he k hk]) hx) (hide fun g c w _ ha => pqImpl_b g n c F own x w hG.2.1 hg2 (ha.congr fun k hk => by simp only [iv]; rw [he k hk]) hx) (hide hs) (hide hT)
      · obtain ⟨m, rfl, hm1, hm2⟩ : ∃ m : Nat, x = m ∧ 1 ≤ m ∧ m ≤ 40 := by
          simp only [inB, decide_eq_true_eq] at hx
          exact ⟨x.toNat, by omega, by omega, by omega⟩
        exact lawPathProductL_pair A n c f own m _ true w (by omega) (hide fun g c w ha => pqSpec_ok g n c m F own w hG.1 hG.2.1 h2 hg2 (ha.congr fun k hk => by simp only [iv]; rw [he k hk]) hm1 hm2 hx) (hide fun g c w ht ha => pqImpl_ok g n c m F own w hG.1 hG.2.1 h2 hg2 ht (ha.congr fun k hk => by simp only [iv]; rw [he k hk]) hm1 hm2 hx) (hide hs) (hide hT)
end Go.Proofs.YtdpoceijnbbmgaaDoor
