import Derived.Test.YtodbhokokdckkaaSM
namespace Go.Proofs.Ytodbhokokdckkaa
open Go.RowKit
set_option maxHeartbeats 1000000
/-- Two results, and nothing that was there has changed. -/
def Two (w : World) (v : Value) (ok : Bool) (e : Ending) (w' : World) : Prop := e = .returned (.tuple #[v, .bool ok]) ∧ Below w.heap.size w w'
theorem wrap_pow16 {m : Nat} (h : m ≤ 16) : RowKit.wrap64 (2 ^ m) = ((2 ^ m : Nat) : Int) := by
  have h3 := pow16n h
  rw [← pow_nat]
  generalize 2 ^ m = x at h3
  exact IntWalk.wrap64_in _ (by omega)
theorem qS_fit {T : Nat → Nat} {n : Nat} (hn : n ≤ 16) (hT : ∀ i, i < n → T i < 2 ^ n) : (qS T n n).1.length ≤ 16 := by
  have := bas_length (inv_at T n n (by omega)).bq (inv_at T n n (by omega)).low
  omega
theorem rankSpec_no (g n c : Nat) (f : Nat → Int) (own : Bool) (w : World) (hn : n ≤ 1048576) (hgd : goodB n f = false) (ha : Arr w 3 g n (iv f)) :
    Calls Try.prog 37 #[.agg #[.slice (some ⟨g, 0, none⟩) n c, .bool own]] w (Two w (.int .i64 0) false) := by
  have HA := hide ha
  clear ha
  go_enter Try.func37, Try.ntmps37
  go_wp2_with fail
  refine (grGood_any _ _ _ f _ _ hn (HA.out.alloc _)).mono ?_
  rintro e w1 ⟨rfl, hb1⟩
  have hr := (Arr.box w 26 (.slice (some ⟨g, 0, none⟩) n c) (.bool own)).all hb1
  go_wp2
  go_ret2
  exact ⟨rfl, (by go_grown : Below w.heap.size w _).trans (hb1.mono (by simp))⟩
theorem rankSpec_ok (g n c : Nat) (F : Nat → Nat) (own : Bool) (w : World) (hn : n ≤ 16) (hF : ∀ j, j < n → F j < 2 ^ n) (hgd : goodB n (nv F) = true) (ha : Arr w 3 g n (iv (nv F))) :
    Calls Try.prog 37 #[.agg #[.slice (some ⟨g, 0, none⟩) n c, .bool own]] w (Two w (.int .i64 ((iS (tog F own) n).length : Nat)) true) := by
  have HA := hide ha
  have HF := hide hF
  have HT := hide (tog_all (own := own) hF)
  clear ha hF
  go_enter Try.func37, Try.ntmps37
  go_wp2_with fail
  refine (grGood_any _ _ _ (nv F) _ _ (by omega) (HA.out.alloc _)).mono ?_
  rintro e w1 ⟨rfl, hb1⟩
  have hp := (Arr.box w 26 (.slice (some ⟨g, 0, none⟩) n c) (.bool own)).all hb1
  have HA1 := hide ((HA.out.alloc _).all hb1)
  have HB1 := hide ((by go_grown : Below w.heap.size w _).trans (hb1.mono (by simp)))
  have c0_1 : w1.cell? ⟨w.heap.size, 0, none⟩ = some (.slice (some ⟨g, 0, none⟩) n c) := hp.cell (by omega)
  have c1_1 : w1.cell? ⟨w.heap.size, 1, none⟩ = some (.bool own) := hp.cell (by omega)
  have HX1 := hide hp
  clear hp hb1
  go_wp2_with fail
  refine (soImage_any _ _ _ F _ _ hn HF.out HA1.out).mono ?_
  rintro e w2 ⟨A, d, m, rfl, hm, hs, hb2⟩
  subst hm
  have HB2 := hide (HB1.out.trans (hb2.mono HB1.out.size))
  clear hs hb2
  go_wp2
  go_ret2
  exact ⟨rfl, HB2.out⟩
theorem nullSpec_no (g n c : Nat) (f : Nat → Int) (own : Bool) (w : World) (hn : n ≤ 1048576) (hgd : goodB n f = false) (ha : Arr w 3 g n (iv f)) :
    Calls Try.prog 39 #[.agg #[.slice (some ⟨g, 0, none⟩) n c, .bool own]] w (Two w (.int .i64 0) false) := by
  have HA := hide ha
  clear ha
  go_enter Try.func39, Try.ntmps39
  go_wp2_with fail
  refine (grGood_any _ _ _ f _ _ hn (HA.out.alloc _)).mono ?_
  rintro e w1 ⟨rfl, hb1⟩
  have hr := (Arr.box w 26 (.slice (some ⟨g, 0, none⟩) n c) (.bool own)).all hb1
  go_wp2
  go_ret2
  exact ⟨rfl, (by go_grown : Below w.heap.size w _).trans (hb1.mono (by simp))⟩
theorem nullSpec_ok (g n c : Nat) (F : Nat → Nat) (own : Bool) (w : World) (hn : n ≤ 16) (hF : ∀ j, j < n → F j < 2 ^ n) (hgd : goodB n (nv F) = true) (ha : Arr w 3 g n (iv (nv F))) :
    Calls Try.prog 39 #[.agg #[.slice (some ⟨g, 0, none⟩) n c, .bool own]] w (Two w (.int .i64 (((qS (tog F own) n n).1).length : Nat)) true) := by
  have HA := hide ha
  have HF := hide hF
  have HT := hide (tog_all (own := own) hF)
  clear ha hF
  go_enter Try.func39, Try.ntmps39
  go_wp2_with fail
  refine (grGood_any _ _ _ (nv F) _ _ (by omega) (HA.out.alloc _)).mono ?_
  rintro e w1 ⟨rfl, hb1⟩
  have hp := (Arr.box w 26 (.slice (some ⟨g, 0, none⟩) n c) (.bool own)).all hb1
  have HA1 := hide ((HA.out.alloc _).all hb1)
  have HB1 := hide ((by go_grown : Below w.heap.size w _).trans (hb1.mono (by simp)))
  have c0_1 : w1.cell? ⟨w.heap.size, 0, none⟩ = some (.slice (some ⟨g, 0, none⟩) n c) := hp.cell (by omega)
  have c1_1 : w1.cell? ⟨w.heap.size, 1, none⟩ = some (.bool own) := hp.cell (by omega)
  have HX1 := hide hp
  clear hp hb1
  go_wp2_with fail
  refine (soQuiet_any _ _ _ F _ _ hn HF.out HA1.out).mono ?_
  rintro e w2 ⟨A, d, m, rfl, hm, hs, hb2⟩
  subst hm
  have HB2 := hide (HB1.out.trans (hb2.mono HB1.out.size))
  clear hs hb2
  go_wp2
  go_ret2
  exact ⟨rfl, HB2.out⟩
theorem csSpec_no (g n c : Nat) (f : Nat → Int) (own : Bool) (w : World) (hn : n ≤ 1048576) (hgd : goodB n f = false) (ha : Arr w 3 g n (iv f)) :
    Calls Try.prog 62 #[.agg #[.slice (some ⟨g, 0, none⟩) n c, .bool own]] w (Two w (.int .i64 0) false) := by
  have HA := hide ha
  clear ha
  go_enter Try.func62, Try.ntmps62
  go_wp2_with fail
  refine (grGood_any _ _ _ f _ _ hn (HA.out.alloc _)).mono ?_
  rintro e w1 ⟨rfl, hb1⟩
  have hr := (Arr.box w 26 (.slice (some ⟨g, 0, none⟩) n c) (.bool own)).all hb1
  go_wp2
  go_ret2
  exact ⟨rfl, (by go_grown : Below w.heap.size w _).trans (hb1.mono (by simp))⟩
theorem csSpec_ok (g n c : Nat) (F : Nat → Nat) (own : Bool) (w : World) (hn : n ≤ 16) (hF : ∀ j, j < n → F j < 2 ^ n) (hgd : goodB n (nv F) = true) (ha : Arr w 3 g n (iv (nv F))) :
    Calls Try.prog 62 #[.agg #[.slice (some ⟨g, 0, none⟩) n c, .bool own]] w (Two w (.int .i64 (RowKit.wrap64 (2 ^ (iS (tog F own) n).length))) true) := by
  have HA := hide ha
  have HF := hide hF
  have HT := hide (tog_all (own := own) hF)
  clear ha hF
  go_enter Try.func62, Try.ntmps62
  go_wp2_with fail
  refine (grGood_any _ _ _ (nv F) _ _ (by omega) (HA.out.alloc _)).mono ?_
  rintro e w1 ⟨rfl, hb1⟩
  have hp := (Arr.box w 26 (.slice (some ⟨g, 0, none⟩) n c) (.bool own)).all hb1
  have HA1 := hide ((HA.out.alloc _).all hb1)
  have HB1 := hide ((by go_grown : Below w.heap.size w _).trans (hb1.mono (by simp)))
  have c0_1 : w1.cell? ⟨w.heap.size, 0, none⟩ = some (.slice (some ⟨g, 0, none⟩) n c) := hp.cell (by omega)
  have c1_1 : w1.cell? ⟨w.heap.size, 1, none⟩ = some (.bool own) := hp.cell (by omega)
  have HX1 := hide hp
  clear hp hb1
  go_wp2_with fail
  refine (soImage_any _ _ _ F _ _ hn HF.out HA1.out).mono ?_
  rintro e w2 ⟨A, d, m, rfl, hm, hs, hb2⟩
  have hm16 : m ≤ 16 := by have := (iS_fit hn HT.out (Nat.le_refl n)).2; omega
  have HM := hide hm
  have HB2 := hide (HB1.out.trans (hb2.mono HB1.out.size))
  clear hm hs hb2
  go_wp2
  go_ret2
  exact ⟨by rw [HM.out]; rfl, HB2.out⟩
/-- A call hands back a list and true. -/
def ListOk (w : World) (L : List Nat) (e : Ending) (w' : World) : Prop :=
  ∃ (A : Option Addr) (m d : Nat), e = .returned (.tuple #[.slice A m d, .bool true]) ∧ L.length = m ∧ OL w' w.heap.size (.slice A m d) L ∧ Below w.heap.size w w'
def ListRead (w : World) (L : List Nat) (e : Ending) (w' : World) : Prop :=
  ∃ (A : Option Addr) (m d : Nat), e = .returned (.tuple #[.slice A m d, .bool true]) ∧ L.length = m ∧ Src w' A m (lv L) ∧ Below w.heap.size w w'
theorem imageSpec_no (g n c : Nat) (f : Nat → Int) (own : Bool) (w : World) (hn : n ≤ 1048576) (hgd : goodB n f = false) (ha : Arr w 3 g n (iv f)) :
    Calls Try.prog 48 #[.agg #[.slice (some ⟨g, 0, none⟩) n c, .bool own]] w (Two w (.slice none 0 0) false) := by
  have HA := hide ha
  clear ha
  go_enter Try.func48, Try.ntmps48
  go_wp2_with fail
  refine (grGood_any _ _ _ f _ _ hn (HA.out.alloc _)).mono ?_
  rintro e w1 ⟨rfl, hb1⟩
  have hr := (Arr.box w 26 (.slice (some ⟨g, 0, none⟩) n c) (.bool own)).all hb1
  go_wp2
  go_ret2
  exact ⟨rfl, (by go_grown : Below w.heap.size w _).trans (hb1.mono (by simp))⟩
theorem imageSpec_ok (g n c : Nat) (F : Nat → Nat) (own : Bool) (w : World) (hn : n ≤ 16) (hF : ∀ j, j < n → F j < 2 ^ n) (hgd : goodB n (nv F) = true) (ha : Arr w 3 g n (iv (nv F))) :
    Calls Try.prog 48 #[.agg #[.slice (some ⟨g, 0, none⟩) n c, .bool own]] w (ListRead w (iS (tog F own) n)) := by
  have HA := hide ha
  have HF := hide hF
  have HT := hide (tog_all (own := own) hF)
  clear ha hF
  go_enter Try.func48, Try.ntmps48
  go_wp2_with fail
  refine (grGood_any _ _ _ (nv F) _ _ (by omega) (HA.out.alloc _)).mono ?_
  rintro e w1 ⟨rfl, hb1⟩
  have hp := (Arr.box w 26 (.slice (some ⟨g, 0, none⟩) n c) (.bool own)).all hb1
  have HA1 := hide ((HA.out.alloc _).all hb1)
  have HB1 := hide ((by go_grown : Below w.heap.size w _).trans (hb1.mono (by simp)))
  have c0_1 : w1.cell? ⟨w.heap.size, 0, none⟩ = some (.slice (some ⟨g, 0, none⟩) n c) := hp.cell (by omega)
  have c1_1 : w1.cell? ⟨w.heap.size, 1, none⟩ = some (.bool own) := hp.cell (by omega)
  have HX1 := hide hp
  clear hp hb1
  go_wp2_with fail
  refine (soImage_any _ _ _ F _ _ hn HF.out HA1.out).mono ?_
  rintro e w2 ⟨A, d, m, rfl, hm, hs, hb2⟩
  have HM := hide hm
  have HS := hide hs
  have HB2 := hide (HB1.out.trans (hb2.mono HB1.out.size))
  clear hm hs hb2
  go_wp2
  go_ret2
  exact ⟨A, m, d, rfl, HM.out, HS.out, HB2.out⟩
theorem quietSpec_no (g n c : Nat) (f : Nat → Int) (own : Bool) (w : World) (hn : n ≤ 1048576) (hgd : goodB n f = false) (ha : Arr w 3 g n (iv f)) :
    Calls Try.prog 41 #[.agg #[.slice (some ⟨g, 0, none⟩) n c, .bool own]] w (Two w (.slice none 0 0) false) := by
  have HA := hide ha
  clear ha
  go_enter Try.func41, Try.ntmps41
  go_wp2_with fail
  refine (grGood_any _ _ _ f _ _ hn (HA.out.alloc _)).mono ?_
  rintro e w1 ⟨rfl, hb1⟩
  have hr := (Arr.box w 26 (.slice (some ⟨g, 0, none⟩) n c) (.bool own)).all hb1
  go_wp2
  go_ret2
  exact ⟨rfl, (by go_grown : Below w.heap.size w _).trans (hb1.mono (by simp))⟩
theorem quietSpec_ok (g n c : Nat) (F : Nat → Nat) (own : Bool) (w : World) (hn : n ≤ 16) (hF : ∀ j, j < n → F j < 2 ^ n) (hgd : goodB n (nv F) = true) (ha : Arr w 3 g n (iv (nv F))) :
    Calls Try.prog 41 #[.agg #[.slice (some ⟨g, 0, none⟩) n c, .bool own]] w (ListRead w ((qS (tog F own) n n).1)) := by
  have HA := hide ha
  have HF := hide hF
  have HT := hide (tog_all (own := own) hF)
  clear ha hF
  go_enter Try.func41, Try.ntmps41
  go_wp2_with fail
  refine (grGood_any _ _ _ (nv F) _ _ (by omega) (HA.out.alloc _)).mono ?_
  rintro e w1 ⟨rfl, hb1⟩
  have hp := (Arr.box w 26 (.slice (some ⟨g, 0, none⟩) n c) (.bool own)).all hb1
  have HA1 := hide ((HA.out.alloc _).all hb1)
  have HB1 := hide ((by go_grown : Below w.heap.size w _).trans (hb1.mono (by simp)))
  have c0_1 : w1.cell? ⟨w.heap.size, 0, none⟩ = some (.slice (some ⟨g, 0, none⟩) n c) := hp.cell (by omega)
  have c1_1 : w1.cell? ⟨w.heap.size, 1, none⟩ = some (.bool own) := hp.cell (by omega)
  have HX1 := hide hp
  clear hp hb1
  go_wp2_with fail
  refine (soQuiet_any _ _ _ F _ _ hn HF.out HA1.out).mono ?_
  rintro e w2 ⟨A, d, m, rfl, hm, hs, hb2⟩
  have HM := hide hm
  have HS := hide hs
  have HB2 := hide (HB1.out.trans (hb2.mono HB1.out.size))
  clear hm hs hb2
  go_wp2
  go_ret2
  exact ⟨A, m, d, rfl, HM.out, HS.out, HB2.out⟩
theorem imageImpl_no (g n c : Nat) (f : Nat → Int) (own : Bool) (w : World) (hn : n ≤ 1048576) (hgd : goodB n f = false) (ha : Arr w 3 g n (iv f)) :
    Calls Try.prog 49 #[.agg #[.slice (some ⟨g, 0, none⟩) n c, .bool own]] w (Two w (.slice none 0 0) false) := by
  have HA := hide ha
  clear ha
  go_enter Try.func49, Try.ntmps49
  go_wp2_with fail
  refine (isGraph_any _ _ _ f _ _ hn (HA.out.alloc _)).mono ?_
  rintro e w1 ⟨rfl, hb1⟩
  have hr := (Arr.box w 26 (.slice (some ⟨g, 0, none⟩) n c) (.bool own)).all hb1
  go_wp2
  go_ret2
  exact ⟨rfl, (by go_grown : Below w.heap.size w _).trans (hb1.mono (by simp))⟩
theorem imageImpl_ok (g n c : Nat) (F : Nat → Nat) (own : Bool) (w : World) (hn : n ≤ 16) (hF : ∀ j, j < n → F j < 2 ^ n) (hgd : goodB n (nv F) = true) (ha : Arr w 3 g n (iv (nv F))) :
    Calls Try.prog 49 #[.agg #[.slice (some ⟨g, 0, none⟩) n c, .bool own]] w (ListOk w (iS (tog F own) n)) := by
  have HA := hide ha
  have HF := hide hF
  have HT := hide (tog_all (own := own) hF)
  clear ha hF
  go_enter Try.func49, Try.ntmps49
  go_wp2_with fail
  refine (isGraph_any _ _ _ (nv F) _ _ (by omega) (HA.out.alloc _)).mono ?_
  rintro e w1 ⟨rfl, hb1⟩
  have hp := (Arr.box w 26 (.slice (some ⟨g, 0, none⟩) n c) (.bool own)).all hb1
  have HA1 := hide ((HA.out.alloc _).all hb1)
  have HB1 := hide ((by go_grown : Below w.heap.size w _).trans (hb1.mono (by simp)))
  have c0_1 : w1.cell? ⟨w.heap.size, 0, none⟩ = some (.slice (some ⟨g, 0, none⟩) n c) := hp.cell (by omega)
  have c1_1 : w1.cell? ⟨w.heap.size, 1, none⟩ = some (.bool own) := hp.cell (by omega)
  have HX1 := hide hp
  clear hp hb1
  go_wp2_with fail
  refine (quietAndImage_any _ _ _ F _ _ hn HF.out HA1.out).mono ?_
  rintro e w2 ⟨A1, A2, n1, n2, c1, c2, rfl, hm1, hm2, ho1, ho2, hb2⟩
  have HM1 := hide hm1
  have HM2 := hide hm2
  have HO1 := hide ho1
  have HO2 := hide ho2
  have HB2 := hide (HB1.out.trans (hb2.mono HB1.out.size))
  clear hm1 hm2 ho1 ho2 hb2
  go_wp2
  go_ret2
  exact ⟨A2, n2, c2, rfl, HM2.out, HO2.out.mono HB1.out.size, HB2.out⟩
theorem quietImpl_no (g n c : Nat) (f : Nat → Int) (own : Bool) (w : World) (hn : n ≤ 1048576) (hgd : goodB n f = false) (ha : Arr w 3 g n (iv f)) :
    Calls Try.prog 42 #[.agg #[.slice (some ⟨g, 0, none⟩) n c, .bool own]] w (Two w (.slice none 0 0) false) := by
  have HA := hide ha
  clear ha
  go_enter Try.func42, Try.ntmps42
  go_wp2_with fail
  refine (isGraph_any _ _ _ f _ _ hn (HA.out.alloc _)).mono ?_
  rintro e w1 ⟨rfl, hb1⟩
  have hr := (Arr.box w 26 (.slice (some ⟨g, 0, none⟩) n c) (.bool own)).all hb1
  go_wp2
  go_ret2
  exact ⟨rfl, (by go_grown : Below w.heap.size w _).trans (hb1.mono (by simp))⟩
theorem quietImpl_ok (g n c : Nat) (F : Nat → Nat) (own : Bool) (w : World) (hn : n ≤ 16) (hF : ∀ j, j < n → F j < 2 ^ n) (hgd : goodB n (nv F) = true) (ha : Arr w 3 g n (iv (nv F))) :
    Calls Try.prog 42 #[.agg #[.slice (some ⟨g, 0, none⟩) n c, .bool own]] w (ListOk w ((qS (tog F own) n n).1)) := by
  have HA := hide ha
  have HF := hide hF
  have HT := hide (tog_all (own := own) hF)
  clear ha hF
  go_enter Try.func42, Try.ntmps42
  go_wp2_with fail
  refine (isGraph_any _ _ _ (nv F) _ _ (by omega) (HA.out.alloc _)).mono ?_
  rintro e w1 ⟨rfl, hb1⟩
  have hp := (Arr.box w 26 (.slice (some ⟨g, 0, none⟩) n c) (.bool own)).all hb1
  have HA1 := hide ((HA.out.alloc _).all hb1)
  have HB1 := hide ((by go_grown : Below w.heap.size w _).trans (hb1.mono (by simp)))
  have c0_1 : w1.cell? ⟨w.heap.size, 0, none⟩ = some (.slice (some ⟨g, 0, none⟩) n c) := hp.cell (by omega)
  have c1_1 : w1.cell? ⟨w.heap.size, 1, none⟩ = some (.bool own) := hp.cell (by omega)
  have HX1 := hide hp
  clear hp hb1
  go_wp2_with fail
  refine (quietAndImage_any _ _ _ F _ _ hn HF.out HA1.out).mono ?_
  rintro e w2 ⟨A1, A2, n1, n2, c1, c2, rfl, hm1, hm2, ho1, ho2, hb2⟩
  have HM1 := hide hm1
  have HM2 := hide hm2
  have HO1 := hide ho1
  have HO2 := hide ho2
  have HB2 := hide (HB1.out.trans (hb2.mono HB1.out.size))
  clear hm1 hm2 ho1 ho2 hb2
  go_wp2
  go_ret2
  exact ⟨A1, n1, c1, rfl, HM1.out, HO1.out.mono HB1.out.size, HB2.out⟩
theorem rankImpl_no (g n c : Nat) (f : Nat → Int) (own : Bool) (w : World) (hn : n ≤ 1048576) (hgd : goodB n f = false) (ha : Arr w 3 g n (iv f)) :
    Calls Try.prog 38 #[.agg #[.slice (some ⟨g, 0, none⟩) n c, .bool own]] w (Two w (.int .i64 0) false) := by
  have HA := hide ha
  have HG := hide hgd
  clear ha hgd
  go_enter Try.func38, Try.ntmps38
  go_wp2_with fail
  refine (imageImpl_no _ _ _ f _ _ hn HG.out (HA.out.alloc _)).mono ?_
  rintro e w1 ⟨rfl, hb1⟩
  go_wp2
  go_ret2
  exact ⟨rfl, (by go_grown : Below w.heap.size w _).trans (hb1.mono (by simp))⟩
theorem rankImpl_ok (g n c : Nat) (F : Nat → Nat) (own : Bool) (w : World) (hn : n ≤ 16) (hF : ∀ j, j < n → F j < 2 ^ n) (hgd : goodB n (nv F) = true) (ha : Arr w 3 g n (iv (nv F))) :
    Calls Try.prog 38 #[.agg #[.slice (some ⟨g, 0, none⟩) n c, .bool own]] w (Two w (.int .i64 ((iS (tog F own) n).length : Nat)) true) := by
  have HA := hide ha
  have HF := hide hF
  have HG := hide hgd
  have HT := hide (tog_all (own := own) hF)
  clear ha hF hgd
  go_enter Try.func38, Try.ntmps38
  go_wp2_with fail
  refine (imageImpl_ok _ _ _ F _ _ hn HF.out HG.out (HA.out.alloc _)).mono ?_
  rintro e w1 ⟨A, m, d, rfl, hm, ho, hb1⟩
  subst hm
  have HB1 := hide ((by go_grown : Below w.heap.size w _).trans (hb1.mono (by simp)))
  clear ho hb1
  go_wp2
  go_ret2
  exact ⟨rfl, HB1.out⟩
theorem nullImpl_no (g n c : Nat) (f : Nat → Int) (own : Bool) (w : World) (hn : n ≤ 1048576) (hgd : goodB n f = false) (ha : Arr w 3 g n (iv f)) :
    Calls Try.prog 40 #[.agg #[.slice (some ⟨g, 0, none⟩) n c, .bool own]] w (Two w (.int .i64 0) false) := by
  have HA := hide ha
  have HG := hide hgd
  clear ha hgd
  go_enter Try.func40, Try.ntmps40
  go_wp2_with fail
  refine (quietImpl_no _ _ _ f _ _ hn HG.out (HA.out.alloc _)).mono ?_
  rintro e w1 ⟨rfl, hb1⟩
  go_wp2
  go_ret2
  exact ⟨rfl, (by go_grown : Below w.heap.size w _).trans (hb1.mono (by simp))⟩
theorem nullImpl_ok (g n c : Nat) (F : Nat → Nat) (own : Bool) (w : World) (hn : n ≤ 16) (hF : ∀ j, j < n → F j < 2 ^ n) (hgd : goodB n (nv F) = true) (ha : Arr w 3 g n (iv (nv F))) :
    Calls Try.prog 40 #[.agg #[.slice (some ⟨g, 0, none⟩) n c, .bool own]] w (Two w (.int .i64 (((qS (tog F own) n n).1).length : Nat)) true) := by
  have HA := hide ha
  have HF := hide hF
  have HG := hide hgd
  have HT := hide (tog_all (own := own) hF)
  clear ha hF hgd
  go_enter Try.func40, Try.ntmps40
  go_wp2_with fail
  refine (quietImpl_ok _ _ _ F _ _ hn HF.out HG.out (HA.out.alloc _)).mono ?_
  rintro e w1 ⟨A, m, d, rfl, hm, ho, hb1⟩
  subst hm
  have HB1 := hide ((by go_grown : Below w.heap.size w _).trans (hb1.mono (by simp)))
  clear ho hb1
  go_wp2
  go_ret2
  exact ⟨rfl, HB1.out⟩
theorem csImpl_no (g n c : Nat) (f : Nat → Int) (own : Bool) (w : World) (hn : n ≤ 1048576) (hgd : goodB n f = false) (ha : Arr w 3 g n (iv f)) :
    Calls Try.prog 63 #[.agg #[.slice (some ⟨g, 0, none⟩) n c, .bool own]] w (Two w (.int .i64 0) false) := by
  have HA := hide ha
  have HG := hide hgd
  clear ha hgd
  go_enter Try.func63, Try.ntmps63
  go_wp2_with fail
  refine (rankImpl_no _ _ _ f _ _ hn HG.out (HA.out.alloc _)).mono ?_
  rintro e w1 ⟨rfl, hb1⟩
  go_wp2
  go_ret2
  exact ⟨rfl, (by go_grown : Below w.heap.size w _).trans (hb1.mono (by simp))⟩
theorem csImpl_ok (g n c : Nat) (F : Nat → Nat) (own : Bool) (w : World) (hn : n ≤ 16) (hF : ∀ j, j < n → F j < 2 ^ n) (hgd : goodB n (nv F) = true) (ha : Arr w 3 g n (iv (nv F))) :
    Calls Try.prog 63 #[.agg #[.slice (some ⟨g, 0, none⟩) n c, .bool own]] w (Two w (.int .i64 (RowKit.wrap64 (2 ^ (iS (tog F own) n).length))) true) := by
  have HA := hide ha
  have HF := hide hF
  have HG := hide hgd
  have HT := hide (tog_all (own := own) hF)
  clear ha hF hgd
  go_enter Try.func63, Try.ntmps63
  go_wp2_with fail
  refine (rankImpl_ok _ _ _ F _ _ hn HF.out HG.out (HA.out.alloc _)).mono ?_
  rintro e w1 ⟨rfl, hb1⟩
  obtain ⟨m, hm⟩ : ∃ m, (iS (tog F own) n).length = m := ⟨_, rfl⟩
  rw [hm]
  have hm16 : m ≤ 16 := by have := (iS_fit hn HT.out (Nat.le_refl n)).2; omega
  have HM := hide hm
  clear hm
  have HB1 := hide ((by go_grown : Below w.heap.size w _).trans (hb1.mono (by simp)))
  clear hb1
  go_wp2
  go_ret2
  exact ⟨by rw [HM.out]; rfl, HB1.out⟩
end Go.Proofs.Ytodbhokokdckkaa
