import Derived.Test.YtodbhokokdckkaaSO
import Derived.Deep.RegionHeld3
namespace Go.Proofs.Ytodbhokokdckkaa
open Go.RowKit
set_option maxHeartbeats 2000000
theorem solB_iff (T : Nat → Nat) (n s : Nat) : solB T n s = decide (lin (iS T n) s = 0) := by
  have h := (inv_at T n n (by omega)).tops (s <<< n)
  rw [solB, h.2, Nat.shiftLeft_shiftRight]
theorem solveSpec_no (g n c : Nat) (f : Nat → Int) (own : Bool) (s : Int) (w : World) (hn : n ≤ 1048576) (hno : setB n f s = false) (ha : Arr w 3 g n (iv f)) :
    Calls Try.prog 52 #[.agg #[.slice (some ⟨g, 0, none⟩) n c, .bool own], .int .i64 s] w (Two w (.int .i64 0) false) := by
  have HA := hide ha
  clear ha
  go_enter Try.func52, Try.ntmps52
  go_wp2_with fail
  refine (grSet_any _ _ _ f _ _ _ hn (HA.out.alloc _)).mono ?_
  rintro e w1 ⟨rfl, hb1⟩
  go_wp2
  go_ret2
  exact ⟨rfl, (by go_grown : Below w.heap.size w _).trans (hb1.mono (by simp))⟩
theorem solveSpec_ok (g n c : Nat) (F : Nat → Nat) (own : Bool) (q : Nat) (w : World) (hn : n ≤ 16) (hF : ∀ j, j < n → F j < 2 ^ n) (hq : q < 2 ^ n) (hset : setB n (nv F) q = true) (ha : Arr w 3 g n (iv (nv F))) :
    Calls Try.prog 52 #[.agg #[.slice (some ⟨g, 0, none⟩) n c, .bool own], .int .i64 q] w (Two w (.int .i64 (solV (tog F own) n q : Nat)) (solB (tog F own) n q)) := by
  have HA := hide ha
  have HF := hide hF
  clear ha hF
  go_enter Try.func52, Try.ntmps52
  go_wp2_with fail
  refine (grSet_any _ _ _ (nv F) _ _ _ (by omega) (HA.out.alloc _)).mono ?_
  rintro e w1 ⟨rfl, hb1⟩
  have hp := (Arr.box w 26 (.slice (some ⟨g, 0, none⟩) n c) (.bool own)).all hb1
  have HA1 := hide ((HA.out.alloc _).all hb1)
  have HB1 := hide ((by go_grown : Below w.heap.size w _).trans (hb1.mono (by simp)))
  have c0_1 : w1.cell? ⟨w.heap.size, 0, none⟩ = some (.slice (some ⟨g, 0, none⟩) n c) := hp.cell (by omega)
  have c1_1 : w1.cell? ⟨w.heap.size, 1, none⟩ = some (.bool own) := hp.cell (by omega)
  have HX1 := hide hp
  clear hp hb1
  go_wp2_with fail
  refine (soSolve_any _ _ _ F _ _ _ hq hn HF.out HA1.out).mono ?_
  rintro e w2 ⟨rfl, hb2⟩
  have HB2 := hide (HB1.out.trans (hb2.mono HB1.out.size))
  clear hb2
  go_wp2
  go_ret2
  exact ⟨rfl, HB2.out⟩
theorem soCan_any (g n c : Nat) (F : Nat → Nat) (own : Bool) (q : Nat) (w : World) (hn : n ≤ 16) (hF : ∀ j, j < n → F j < 2 ^ n) (hq : q < 2 ^ n) (ha : Arr w 3 g n (iv (nv F))) :
    Calls Try.prog 89 #[.agg #[.slice (some ⟨g, 0, none⟩) n c, .bool own], .int .i64 q] w fun e w' => e = .returned (.bool (solB (tog F own) n q)) ∧ Below w.heap.size w w' := by
  have h16 := pow16n hn
  have HA := hide ha
  have HF := hide hF
  have HT := hide (tog_all (own := own) hF)
  have HFit := hide (iS_fit hn HT.out (Nat.le_refl n))
  have hbas := iS_bas (tog F own) n
  obtain ⟨x, hx⟩ : ∃ x, rdr (iS (tog F own) n) q = x := ⟨_, rfl⟩
  have HX := hide hx
  have HV : Hid (solB (tog F own) n q = decide (x = 0)) := hide (by rw [solB_iff, ← hx, rdr_lin hbas])
  have HBas := hide hbas
  clear ha hF hbas hx
  go_enter Try.func89, Try.ntmps89
  go_wp2_with fail
  refine (soImage_any _ _ _ F _ _ hn HF.out (HA.out.alloc _)).mono ?_
  rintro e w1 ⟨A, d, m, rfl, hm, hs, hb1⟩
  have hm64 : m ≤ 64 := by have := HFit.out.2; omega
  have HM := hide hm
  have HS := hide hs
  have HB1 := hide ((by go_grown : Below w.heap.size w _).trans (hb1.mono (by simp)))
  clear hm hs hb1
  go_wp2_with fail
  refine (soReduce_any _ _ _ _ _ _ HFit.out.1 HBas.out.1 (by omega) HM.out hm64 HS.out).mono ?_
  rintro e w2 ⟨rfl, rfl⟩
  simp only [HX.out]
  by_cases hz : x = 0
  · have HZ := hide hz
    have e1 : ((x : Int) == 0) = true := by rw [hz]; rfl
    clear hz
    go_wp2
    go_ret
    exact ⟨by rw [HV.out, decide_eq_true HZ.out]; rfl, HB1.out⟩
  · have HZ := hide hz
    have e1 : ((x : Int) == 0) = false := nat_ne0 hz
    clear hz
    go_wp2
    go_ret
    exact ⟨by rw [HV.out, decide_eq_false HZ.out]; rfl, HB1.out⟩
theorem canSpec_no (g n c : Nat) (f : Nat → Int) (own : Bool) (s : Int) (w : World) (hn : n ≤ 1048576) (hno : setB n f s = false) (ha : Arr w 3 g n (iv f)) :
    Calls Try.prog 50 #[.agg #[.slice (some ⟨g, 0, none⟩) n c, .bool own], .int .i64 s] w (Two w (.bool false) false) := by
  have HA := hide ha
  clear ha
  go_enter Try.func50, Try.ntmps50
  go_wp2_with fail
  refine (grSet_any _ _ _ f _ _ _ hn (HA.out.alloc _)).mono ?_
  rintro e w1 ⟨rfl, hb1⟩
  go_wp2
  go_ret2
  exact ⟨rfl, (by go_grown : Below w.heap.size w _).trans (hb1.mono (by simp))⟩
theorem canSpec_ok (g n c : Nat) (F : Nat → Nat) (own : Bool) (q : Nat) (w : World) (hn : n ≤ 16) (hF : ∀ j, j < n → F j < 2 ^ n) (hq : q < 2 ^ n) (hset : setB n (nv F) q = true) (ha : Arr w 3 g n (iv (nv F))) :
    Calls Try.prog 50 #[.agg #[.slice (some ⟨g, 0, none⟩) n c, .bool own], .int .i64 q] w (Two w (.bool (solB (tog F own) n q)) true) := by
  have HA := hide ha
  have HF := hide hF
  clear ha hF
  go_enter Try.func50, Try.ntmps50
  go_wp2_with fail
  refine (grSet_any _ _ _ (nv F) _ _ _ (by omega) (HA.out.alloc _)).mono ?_
  rintro e w1 ⟨rfl, hb1⟩
  have hp := (Arr.box w 26 (.slice (some ⟨g, 0, none⟩) n c) (.bool own)).all hb1
  have HA1 := hide ((HA.out.alloc _).all hb1)
  have HB1 := hide ((by go_grown : Below w.heap.size w _).trans (hb1.mono (by simp)))
  have c0_1 : w1.cell? ⟨w.heap.size, 0, none⟩ = some (.slice (some ⟨g, 0, none⟩) n c) := hp.cell (by omega)
  have c1_1 : w1.cell? ⟨w.heap.size, 1, none⟩ = some (.bool own) := hp.cell (by omega)
  have HX1 := hide hp
  clear hp hb1
  go_wp2_with fail
  refine (soCan_any _ _ _ F _ _ _ hn HF.out hq HA1.out).mono ?_
  rintro e w2 ⟨rfl, hb2⟩
  have HB2 := hide (HB1.out.trans (hb2.mono HB1.out.size))
  clear hb2
  go_wp2
  go_ret2
  exact ⟨rfl, HB2.out⟩
theorem canImpl_no (g n c : Nat) (f : Nat → Int) (own : Bool) (s : Int) (w : World) (hn : n ≤ 1048576) (hno : setB n f s = false) (ha : Arr w 3 g n (iv f)) :
    Calls Try.prog 51 #[.agg #[.slice (some ⟨g, 0, none⟩) n c, .bool own], .int .i64 s] w (Two w (.bool false) false) := by
  have HA := hide ha
  have HN := hide hno
  clear ha hno
  go_enter Try.func51, Try.ntmps51
  go_wp2_with fail
  refine (solveImpl_no _ _ _ f _ _ _ hn HN.out (HA.out.alloc _)).mono ?_
  rintro e w1 ⟨rfl, hb1⟩
  have hp := (Arr.box w 26 (.slice (some ⟨g, 0, none⟩) n c) (.bool own)).all hb1
  have HA1 := hide ((HA.out.alloc _).all hb1)
  have HB1 := hide ((by go_grown : Below w.heap.size w _).trans (hb1.mono (by simp)))
  have c0_1 : w1.cell? ⟨w.heap.size, 0, none⟩ = some (.slice (some ⟨g, 0, none⟩) n c) := hp.cell (by omega)
  have c1_1 : w1.cell? ⟨w.heap.size, 1, none⟩ = some (.bool own) := hp.cell (by omega)
  have HX1 := hide hp
  clear hp hb1
  go_wp2_with fail
  refine (isBoard_any _ _ _ f _ _ _ hn HA1.out).mono ?_
  rintro e w2 ⟨rfl, hb2⟩
  have HB2 := hide (HB1.out.trans (hb2.mono HB1.out.size))
  clear hb2
  go_wp2
  go_ret2
  exact ⟨by rw [HN.out]; rfl, HB2.out⟩
theorem canImpl_ok (g n c : Nat) (F : Nat → Nat) (own : Bool) (q : Nat) (w : World) (hn : n ≤ 16) (hF : ∀ j, j < n → F j < 2 ^ n) (hq : q < 2 ^ n) (hset : setB n (nv F) q = true) (ha : Arr w 3 g n (iv (nv F))) :
    Calls Try.prog 51 #[.agg #[.slice (some ⟨g, 0, none⟩) n c, .bool own], .int .i64 q] w (Two w (.bool (solB (tog F own) n q)) true) := by
  have HA := hide ha
  have HF := hide hF
  have HN := hide hset
  clear ha hF hset
  go_enter Try.func51, Try.ntmps51
  go_wp2_with fail
  refine (solveImpl_ok _ _ _ F _ _ _ hn HF.out hq HN.out (HA.out.alloc _)).mono ?_
  rintro e w1 ⟨rfl, hb1⟩
  have hp := (Arr.box w 26 (.slice (some ⟨g, 0, none⟩) n c) (.bool own)).all hb1
  have HA1 := hide ((HA.out.alloc _).all hb1)
  have HB1 := hide ((by go_grown : Below w.heap.size w _).trans (hb1.mono (by simp)))
  have c0_1 : w1.cell? ⟨w.heap.size, 0, none⟩ = some (.slice (some ⟨g, 0, none⟩) n c) := hp.cell (by omega)
  have c1_1 : w1.cell? ⟨w.heap.size, 1, none⟩ = some (.bool own) := hp.cell (by omega)
  have HX1 := hide hp
  clear hp hb1
  go_wp2_with fail
  refine (isBoard_any _ _ _ (nv F) _ _ _ (by omega) HA1.out).mono ?_
  rintro e w2 ⟨rfl, hb2⟩
  have HB2 := hide (HB1.out.trans (hb2.mono HB1.out.size))
  clear hb2
  go_wp2
  go_ret2
  exact ⟨by rw [HN.out]; rfl, HB2.out⟩
theorem allSet (n : Nat) (F : Nat → Nat) (hgd : goodB n (nv F) = true) (p : Nat) (hp : 2 ^ n = p) : setB n (nv F) ((p - 1 : Nat) : Int) = true := by
  have h1 := Nat.two_pow_pos n
  simp only [setB, hgd, Bool.true_and, inB, decide_eq_true_eq]
  rw [← pow_nat]
  omega
theorem allSpec_no (g n c : Nat) (f : Nat → Int) (own : Bool) (w : World) (hn : n ≤ 1048576) (hgd : goodB n f = false) (ha : Arr w 3 g n (iv f)) :
    Calls Try.prog 60 #[.agg #[.slice (some ⟨g, 0, none⟩) n c, .bool own]] w (Two w (.int .i64 0) false) := by
  have HA := hide ha
  clear ha
  go_enter Try.func60, Try.ntmps60
  go_wp2_with fail
  refine (grGood_any _ _ _ f _ _ hn (HA.out.alloc _)).mono ?_
  rintro e w1 ⟨rfl, hb1⟩
  go_wp2
  go_ret2
  exact ⟨rfl, (by go_grown : Below w.heap.size w _).trans (hb1.mono (by simp))⟩
theorem allSpec_ok (g n c : Nat) (F : Nat → Nat) (own : Bool) (w : World) (hn : n ≤ 16) (hF : ∀ j, j < n → F j < 2 ^ n) (hgd : goodB n (nv F) = true) (ha : Arr w 3 g n (iv (nv F))) :
    Calls Try.prog 60 #[.agg #[.slice (some ⟨g, 0, none⟩) n c, .bool own]] w (Two w (.int .i64 (solV (tog F own) n (2 ^ n - 1) : Nat)) (solB (tog F own) n (2 ^ n - 1))) := by
  have h16 := pow16n hn
  have h1 := Nat.two_pow_pos n
  have HA := hide ha
  have HF := hide hF
  obtain ⟨p, hp⟩ : ∃ p, 2 ^ n = p := ⟨_, rfl⟩
  rw [hp] at h16 h1
  have e5 : IntKind.i64.wrap (2 ^ n) = (p : Int) := by rw [← hp, ← pow_nat, IntWalk.i64_in _ (by rw [hp]; omega)]
  have e6 : IntKind.i64.wrap ((p : Int) - 1) = ((p - 1 : Nat) : Int) := by rw [IntWalk.i64_in _ (by omega)]; omega
  have hq : p - 1 < 2 ^ n := by omega
  have HPp := hide hp
  clear ha hF hp
  go_enter Try.func60, Try.ntmps60
  go_wp2_with fail
  refine (grGood_any _ _ _ (nv F) _ _ (by omega) (HA.out.alloc _)).mono ?_
  rintro e w1 ⟨rfl, hb1⟩
  have hp := (Arr.box w 26 (.slice (some ⟨g, 0, none⟩) n c) (.bool own)).all hb1
  have HA1 := hide ((HA.out.alloc _).all hb1)
  have HB1 := hide ((by go_grown : Below w.heap.size w _).trans (hb1.mono (by simp)))
  have c0_1 : w1.cell? ⟨w.heap.size, 0, none⟩ = some (.slice (some ⟨g, 0, none⟩) n c) := hp.cell (by omega)
  have c1_1 : w1.cell? ⟨w.heap.size, 1, none⟩ = some (.bool own) := hp.cell (by omega)
  have HX1 := hide hp
  clear hp hb1
  have KK : Hid (w1.drew.cell? ⟨w.heap.size, 0, none⟩ = some (.slice (some ⟨g, 0, none⟩) n c) ∧ w1.drew.cell? ⟨w.heap.size, 1, none⟩ = some (.bool own)) := hide ⟨c0_1, c1_1⟩
  go_wp2
  go_region_held3 (fun w' => w'.cell? ⟨w.heap.size, 0, none⟩ = some (.slice (some ⟨g, 0, none⟩) n c) ∧ w'.cell? ⟨w.heap.size, 1, none⟩ = some (.bool own)) (first | exact KK.out | exact two_below (by assumption) KK.out) ((go_at_call 91; refine (soSolve_any _ _ _ F _ _ _ hq hn HF.out (by exact HA1.out.drew)).mono ?_; rintro e w2 ⟨rfl, hb2⟩))
  have HB2 := hide (HB1.out.trans (((Below.drew (Below.refl w1.heap.size w1)).trans hb2).mono HB1.out.size))
  clear hb2
  go_wp2
  go_ret2
  exact ⟨by rw [HPp.out]; rfl, HB2.out⟩
theorem allImpl_ok (g n c : Nat) (F : Nat → Nat) (own : Bool) (w : World) (hn : n ≤ 16) (hF : ∀ j, j < n → F j < 2 ^ n) (hgd : goodB n (nv F) = true) (ha : Arr w 3 g n (iv (nv F))) :
    Calls Try.prog 61 #[.agg #[.slice (some ⟨g, 0, none⟩) n c, .bool own]] w (Two w (.int .i64 (solV (tog F own) n (2 ^ n - 1) : Nat)) (solB (tog F own) n (2 ^ n - 1))) := by
  have h16 := pow16n hn
  have h1 := Nat.two_pow_pos n
  have HA := hide ha
  have HF := hide hF
  obtain ⟨p, hp⟩ : ∃ p, 2 ^ n = p := ⟨_, rfl⟩
  have HSet := hide (allSet n F hgd p hp)
  rw [hp] at h16 h1
  have e5 : IntKind.i64.wrap (2 ^ n) = (p : Int) := by rw [← hp, ← pow_nat, IntWalk.i64_in _ (by rw [hp]; omega)]
  have e6 : IntKind.i64.wrap ((p : Int) - 1) = ((p - 1 : Nat) : Int) := by rw [IntWalk.i64_in _ (by omega)]; omega
  have hq : p - 1 < 2 ^ n := by omega
  have HPp := hide hp
  have KK : Hid ((w.alloc (.cells #[.slice (some ⟨g, 0, none⟩) n c, .bool own] 26)).drew.cell? ⟨w.heap.size, 0, none⟩ = some (.slice (some ⟨g, 0, none⟩) n c) ∧ (w.alloc (.cells #[.slice (some ⟨g, 0, none⟩) n c, .bool own] 26)).drew.cell? ⟨w.heap.size, 1, none⟩ = some (.bool own)) := hide ⟨(Arr.box w 26 _ _).cell (k := 0) (by omega), (Arr.box w 26 _ _).cell (k := 1) (by omega)⟩
  clear ha hF hp hgd
  go_enter Try.func61, Try.ntmps61
  go_wp2
  go_region_held3 (fun w' => w'.cell? ⟨w.heap.size, 0, none⟩ = some (.slice (some ⟨g, 0, none⟩) n c) ∧ w'.cell? ⟨w.heap.size, 1, none⟩ = some (.bool own)) (first | exact KK.out | exact two_below (by assumption) KK.out) ((go_at_call 53; refine (solveImpl_ok _ _ _ F _ _ _ hn HF.out hq HSet.out (by exact (HA.out.alloc _).drew)).mono ?_; rintro e w3 ⟨rfl, hb3⟩))
  have HB3 := hide (((by go_grown : Below w.heap.size w (w.alloc (.cells #[.slice (some ⟨g, 0, none⟩) n c, .bool own] 26))).trans ((Below.drew (Below.refl w.heap.size _)).trans (hb3.mono (by simp)))))
  clear hb3
  go_wp2
  go_ret2
  exact ⟨by rw [HPp.out]; rfl, HB3.out⟩
theorem setB_good {n : Nat} {f : Nat → Int} (h : goodB n f = false) (s : Int) : setB n f s = false := by simp [setB, h]
theorem allImpl_no (g n c : Nat) (f : Nat → Int) (own : Bool) (w : World) (hn : n ≤ 1048576) (hgd : goodB n f = false) (ha : Arr w 3 g n (iv f)) :
    Calls Try.prog 61 #[.agg #[.slice (some ⟨g, 0, none⟩) n c, .bool own]] w (Two w (.int .i64 0) false) := by
  have HA := hide ha
  have HG := hide hgd
  have KK : Hid ((w.alloc (.cells #[.slice (some ⟨g, 0, none⟩) n c, .bool own] 26)).drew.cell? ⟨w.heap.size, 0, none⟩ = some (.slice (some ⟨g, 0, none⟩) n c) ∧ (w.alloc (.cells #[.slice (some ⟨g, 0, none⟩) n c, .bool own] 26)).drew.cell? ⟨w.heap.size, 1, none⟩ = some (.bool own)) := hide ⟨(Arr.box w 26 _ _).cell (k := 0) (by omega), (Arr.box w 26 _ _).cell (k := 1) (by omega)⟩
  clear ha hgd
  go_enter Try.func61, Try.ntmps61
  go_wp2
  go_region_held3 (fun w' => w'.cell? ⟨w.heap.size, 0, none⟩ = some (.slice (some ⟨g, 0, none⟩) n c) ∧ w'.cell? ⟨w.heap.size, 1, none⟩ = some (.bool own)) (first | exact KK.out | exact two_below (by assumption) KK.out) ((go_at_call 53; refine (solveImpl_no _ _ _ f _ _ _ hn (setB_good HG.out _) (by exact (HA.out.alloc _).drew)).mono ?_; rintro e w3 ⟨rfl, hb3⟩))
  have HB3 := hide (((by go_grown : Below w.heap.size w (w.alloc (.cells #[.slice (some ⟨g, 0, none⟩) n c, .bool own] 26))).trans ((Below.drew (Below.refl w.heap.size _)).trans (hb3.mono (by simp)))))
  clear hb3
  go_wp2
  go_ret2
  exact ⟨rfl, HB3.out⟩
end Go.Proofs.Ytodbhokokdckkaa
