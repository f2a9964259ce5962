import Derived.Test.YtodbhokokdckkaaSW
namespace Go.Proofs.Ytodbhokokdckkaa
open Go.RowKit
set_option maxHeartbeats 2000000
/-- x added to the first k sets. -/
def addL (S : List Nat) (x k : Nat) : List Nat := (S.take k).map (fun s => s ^^^ x) ++ S.drop k
theorem addL_length (S : List Nat) (x k : Nat) : (addL S x k).length = S.length := by
  simp only [addL, List.length_append, List.length_map, List.length_take, List.length_drop]; omega
theorem addL_zero (S : List Nat) (x : Nat) : addL S x 0 = S := by simp [addL]
theorem addL_all (S : List Nat) (x n : Nat) (h : S.length = n) : addL S x n = S.map (fun s => s ^^^ x) := by subst h; simp [addL]
theorem addL_get {S : List Nat} {x k : Nat} (h : k < S.length) : lv (addL S x k) k = .int .i64 (S[k] : Nat) := by
  simp only [lv, addL, List.getD_eq_getElem?_getD]
  rw [List.getElem?_append_right (by simp; omega)]
  simp [Nat.min_eq_left (Nat.le_of_lt h), h]
theorem addL_succ {S : List Nat} {x k : Nat} (h : k < S.length) : addL S x (k + 1) = (addL S x k).set k (S[k] ^^^ x) := by
  simp only [addL]
  rw [List.take_succ_eq_append_getElem h, List.map_append, List.set_append_right _ _ (by simp; omega)]
  have : k - ((S.take k).map (fun s => s ^^^ x)).length = 0 := by simp; omega
  rw [this, List.drop_eq_getElem_cons h]
  simp only [List.map_cons, List.map_nil, List.set_cons_zero, List.append_assoc, List.cons_append, List.nil_append]
/-- All sets of presses that solve q, in order. -/
def solL (T : Nat → Nat) (n q : Nat) : List Nat := if solB T n q then (sums (qS T n n).1).map (fun s => s ^^^ solV T n q) else []
theorem solL_length (T : Nat → Nat) (n q : Nat) : (solL T n q).length = if solB T n q then 2 ^ (qS T n n).1.length else 0 := by
  unfold solL; split
  · rw [List.length_map, sums_length]
  · rfl
theorem solV_lt {T : Nat → Nat} {n q : Nat} : solV T n q < 2 ^ n := by
  unfold solV; split
  · exact shr_eq_zero.1 ‹_›
  · exact Nat.two_pow_pos n
theorem solutions_no (g n c : Nat) (F : Nat → Nat) (own : Bool) (q : Nat) (w : World) (hn : n ≤ 16) (hF : ∀ j, j < n → F j < 2 ^ n) (hq : q < 2 ^ n) (hset : setB n (nv F) q = true) (hsol : solB (tog F own) n q = false) (ha : Arr w 3 g n (iv (nv F))) :
    Calls Try.prog 96 #[.agg #[.slice (some ⟨g, 0, none⟩) n c, .bool own], .int .i64 q] w fun e w' => e = .returned (.slice none 0 0) ∧ Below w.heap.size w w' := by
  have HA := hide ha
  have HF := hide hF
  have HSet := hide hset
  have HSol := hide hsol
  clear ha hF hset hsol
  go_enter Try.func96, Try.ntmps96
  go_wp2_with fail
  refine (solveImpl_ok _ _ _ F _ _ _ hn HF.out hq HSet.out (HA.out.alloc _)).mono ?_
  rintro e w1 ⟨rfl, hb1⟩
  simp only [HSol.out]
  have HB1 := hide ((by go_grown : Below w.heap.size w _).trans (hb1.mono (by simp)))
  clear hb1
  go_wp2
  go_ret
  exact ⟨rfl, HB1.out⟩
theorem solutions_yes (g n c : Nat) (F : Nat → Nat) (own : Bool) (q : Nat) (w : World) (hn : n ≤ 16) (hF : ∀ j, j < n → F j < 2 ^ n) (hq : q < 2 ^ n) (hset : setB n (nv F) q = true) (hsol : solB (tog F own) n q = true) (ha : Arr w 3 g n (iv (nv F))) :
    Calls Try.prog 96 #[.agg #[.slice (some ⟨g, 0, none⟩) n c, .bool own], .int .i64 q] w (GrownL w.heap.size w ((sums (qS (tog F own) n n).1).map (fun s => s ^^^ solV (tog F own) n q))) := by
  have h16 := pow16n hn
  have HA := hide ha
  have HF := hide hF
  have HT := hide (tog_all (own := own) hF)
  have HSet := hide hset
  have HSol := hide hsol
  have hxlt := solV_lt (T := tog F own) (n := n) (q := q)
  have HQ16 := hide (qS_lt16 (T := tog F own) hn)
  have hQl := qS_fit hn HT.out
  obtain ⟨x, hx⟩ : ∃ x, solV (tog F own) n q = x := ⟨_, rfl⟩
  obtain ⟨Q, hQ⟩ : ∃ Q, (qS (tog F own) n n).1 = Q := ⟨_, rfl⟩
  rw [hx] at hxlt
  rw [hQ] at HQ16 hQl
  have HX := hide hx
  have HQ := hide hQ
  have HSb : Hid (∀ s ∈ sums Q, s < 65536) := hide (sums_lt (m := 16) HQ16.out)
  have hlS := sums_length Q
  have hl16 := two_pow_le16 hQl
  obtain ⟨S, hS⟩ : ∃ S, sums Q = S := ⟨_, rfl⟩
  rw [hS] at HSb hlS
  have HSs := hide hS
  have HLS := hide hlS
  clear ha hF hset hsol hx hQ hS hlS
  go_enter Try.func96, Try.ntmps96
  go_wp2_with fail
  refine (solveImpl_ok _ _ _ F _ _ _ hn HF.out hq HSet.out (HA.out.alloc _)).mono ?_
  rintro e w1 ⟨rfl, hb1⟩
  simp only [HSol.out, HX.out]
  have hp := (Arr.box w 26 (.slice (some ⟨g, 0, none⟩) n c) (.bool own)).all hb1
  have HA1 := hide ((HA.out.alloc _).all hb1)
  have HB1 := hide ((by go_grown : Below w.heap.size w _).trans (hb1.mono (by simp)))
  have c0_1 : w1.cell? ⟨w.heap.size, 0, none⟩ = some (.slice (some ⟨g, 0, none⟩) n c) := hp.cell (by omega)
  have c1_1 : w1.cell? ⟨w.heap.size, 1, none⟩ = some (.bool own) := hp.cell (by omega)
  have HX1 := hide hp
  clear hp hb1
  go_wp2_with fail
  refine (quietAndImage_any _ _ _ F _ _ hn HF.out HA1.out).mono ?_
  rintro e w2 ⟨A, A2, m, n2, d, d2, rfl, hm, _, ho, _, hb2⟩
  rw [HQ.out] at hm ho
  have HM := hide hm
  have HO := hide ho
  have hm16 : m ≤ 16 := by omega
  have HB2 := hide (HB1.out.trans (hb2.mono HB1.out.size))
  have hz2 := hb2.size
  have hz1 := HB1.out.size
  clear hm ho hb2 c0_1 c1_1
  go_wp2_with fail
  refine (sumsOf_any _ _ _ _ _ HQ16.out HM.out hm16 (HO.out.src HM.out)).mono ?_
  rintro e w3 ⟨A3, d3, p, rfl, hp, ho3, hb3⟩
  rw [HSs.out] at hp ho3
  have HPl := hide hp
  have hp16 : p ≤ 65536 := by have := HLS.out; omega
  have HO3 := hide (ho3.mono (by omega : w.heap.size ≤ w2.heap.size))
  have HB3 := hide (HB2.out.trans (hb3.mono (by omega)))
  clear hp ho3 hb3
  go_wp2
  go_loopw [28] (fun i wr => ∃ k : Nat, k ≤ p ∧ i = .int .i64 k ∧ OL wr w.heap.size (.slice A3 p d3) (addL S x k) ∧ Below w.heap.size w wr) (fun i _ => p - (intOf i).toNat)
  case atStart => exact ⟨0, by omega, rfl, by rw [addL_zero]; exact HO3.out, HB3.out⟩
  case round =>
    obtain ⟨k, hk, rfl, ho, hb⟩ := hrel
    have HO' := hide ho
    have HB' := hide hb
    have hml : Hid ((addL S x k).length = p) := hide (by rw [addL_length]; exact HPl.out)
    clear ho hb
    by_cases hlt : k < p
    · have hkn : k < S.length := by rw [HPl.out]; exact hlt
      rcases HO'.out.cases hml.out with ⟨_, h1, _⟩ | ⟨g3, cur, rfl, hBg, hg, hnc, hmx, hcs, hcur⟩
      · omega
      · obtain ⟨y, hy⟩ : ∃ y, S[k] = y := ⟨_, rfl⟩
        have hy16 := HSb.out y (by rw [← hy]; exact List.getElem_mem hkn)
        have hc : wr.cell? ⟨g3, k, none⟩ = some (.int .i64 (y : Nat)) := by rw [hg.cell, hcur k hlt, addL_get hkn, hy]
        have hfz : wr.frozen? ⟨g3, k, none⟩ = false := hg.frozen k
        have HK : Hid (addL S x (k + 1) = (addL S x k).set k (y ^^^ x)) := hide (by rw [addL_succ hkn, hy])
        have e1 := i64_xor_nat y x (by omega) (by omega)
        clear hy hkn hg hcur hcs
        go_wp2
        go_roundw
        case rel => exact ⟨k + 1, by omega, by go_num, by rw [HK.out]; exact HO'.out.set hml.out k _, HB'.out.setCell (by simp; omega) _⟩
        case measure => simp [intOf]; omega
    · have hkp : k = p := by omega
      subst hkp
      have HF : Hid (addL S x k = S.map (fun s => s ^^^ x)) := hide (addL_all S x k HPl.out)
      go_wp2
      go_ret
      refine ⟨A3, d3, k, rfl, ?_, ?_, HB'.out⟩
      · rw [HQ.out, HSs.out, HX.out, ← HF.out]; exact hml.out
      · rw [HQ.out, HSs.out, HX.out, ← HF.out]; exact HO'.out
/-- How many they are. -/
def cntV (T : Nat → Nat) (n q : Nat) : Nat := if solB T n q then 2 ^ (qS T n n).1.length else 0
theorem cntImpl_ok (g n c : Nat) (F : Nat → Nat) (own : Bool) (q : Nat) (w : World) (hn : n ≤ 16) (hF : ∀ j, j < n → F j < 2 ^ n) (hq : q < 2 ^ n) (hset : setB n (nv F) q = true) (ha : Arr w 3 g n (iv (nv F))) :
    Calls Try.prog 57 #[.agg #[.slice (some ⟨g, 0, none⟩) n c, .bool own], .int .i64 q] w (Two w (.int .i64 (cntV (tog F own) n q : Nat)) true) := by
  have HA := hide ha
  have HF := hide hF
  have HSet := hide hset
  clear ha hF hset
  cases hsol : solB (tog F own) n q
  · have HSol := hide hsol
    have HV : Hid (cntV (tog F own) n q = 0) := hide (by rw [cntV, hsol]; rfl)
    clear hsol
    go_enter Try.func57, Try.ntmps57
    go_wp2_with fail
    refine (isBoard_any _ _ _ (nv F) _ _ _ (by omega) (HA.out.alloc _)).mono ?_
    rintro e w1 ⟨rfl, hb1⟩
    simp only [HSet.out]
    have hp := (Arr.box w 26 (.slice (some ⟨g, 0, none⟩) n c) (.bool own)).all hb1
    have HA1 := hide ((HA.out.alloc _).all hb1)
    have HB1 := hide ((by go_grown : Below w.heap.size w _).trans (hb1.mono (by simp)))
    have c0_1 : w1.cell? ⟨w.heap.size, 0, none⟩ = some (.slice (some ⟨g, 0, none⟩) n c) := hp.cell (by omega)
    have c1_1 : w1.cell? ⟨w.heap.size, 1, none⟩ = some (.bool own) := hp.cell (by omega)
    have HX1 := hide hp
    clear hp hb1
    go_wp2_with fail
    refine (solutions_no _ _ _ F _ _ _ hn HF.out hq HSet.out HSol.out HA1.out).mono ?_
    rintro e w2 ⟨rfl, hb2⟩
    have HB2 := hide (HB1.out.trans (hb2.mono HB1.out.size))
    clear hb2
    go_wp2
    go_ret2
    exact ⟨by rw [HV.out]; rfl, HB2.out⟩
  · have HSol := hide hsol
    have HV : Hid (cntV (tog F own) n q = ((sums (qS (tog F own) n n).1).map (fun s => s ^^^ solV (tog F own) n q)).length) := hide (by rw [cntV, hsol, List.length_map, sums_length]; rfl)
    clear hsol
    go_enter Try.func57, Try.ntmps57
    go_wp2_with fail
    refine (isBoard_any _ _ _ (nv F) _ _ _ (by omega) (HA.out.alloc _)).mono ?_
    rintro e w1 ⟨rfl, hb1⟩
    simp only [HSet.out]
    have hp := (Arr.box w 26 (.slice (some ⟨g, 0, none⟩) n c) (.bool own)).all hb1
    have HA1 := hide ((HA.out.alloc _).all hb1)
    have HB1 := hide ((by go_grown : Below w.heap.size w _).trans (hb1.mono (by simp)))
    have c0_1 : w1.cell? ⟨w.heap.size, 0, none⟩ = some (.slice (some ⟨g, 0, none⟩) n c) := hp.cell (by omega)
    have c1_1 : w1.cell? ⟨w.heap.size, 1, none⟩ = some (.bool own) := hp.cell (by omega)
    have HX1 := hide hp
    clear hp hb1
    go_wp2_with fail
    refine (solutions_yes _ _ _ F _ _ _ hn HF.out hq HSet.out HSol.out HA1.out).mono ?_
    rintro e w2 ⟨A, d, m, rfl, hm, ho, hb2⟩
    have HV2 : Hid (cntV (tog F own) n q = m) := hide (by rw [HV.out, hm])
    have HB2 := hide (HB1.out.trans (hb2.mono HB1.out.size))
    clear hb2 hm ho
    go_wp2
    go_ret2
    exact ⟨by rw [HV2.out]; rfl, HB2.out⟩
theorem cntSpec_ok (g n c : Nat) (F : Nat → Nat) (own : Bool) (q : Nat) (w : World) (hn : n ≤ 16) (hF : ∀ j, j < n → F j < 2 ^ n) (hq : q < 2 ^ n) (hset : setB n (nv F) q = true) (ha : Arr w 3 g n (iv (nv F))) :
    Calls Try.prog 56 #[.agg #[.slice (some ⟨g, 0, none⟩) n c, .bool own], .int .i64 q] w (Two w (.int .i64 (cntV (tog F own) n q : Nat)) true) := by
  have HA := hide ha
  have HF := hide hF
  have HT := hide (tog_all (own := own) hF)
  have HSet := hide hset
  have hQl := qS_fit hn HT.out
  clear ha hF hset
  cases hsol : solB (tog F own) n q
  · have HSol := hide hsol
    have HV : Hid (cntV (tog F own) n q = 0) := hide (by rw [cntV, hsol]; rfl)
    clear hsol hQl
    go_enter Try.func56, Try.ntmps56
    go_wp2_with fail
    refine (grSet_any _ _ _ (nv F) _ _ _ (by omega) (HA.out.alloc _)).mono ?_
    rintro e w1 ⟨rfl, hb1⟩
    simp only [HSet.out]
    have hp := (Arr.box w 26 (.slice (some ⟨g, 0, none⟩) n c) (.bool own)).all hb1
    have HA1 := hide ((HA.out.alloc _).all hb1)
    have HB1 := hide ((by go_grown : Below w.heap.size w _).trans (hb1.mono (by simp)))
    have c0_1 : w1.cell? ⟨w.heap.size, 0, none⟩ = some (.slice (some ⟨g, 0, none⟩) n c) := hp.cell (by omega)
    have c1_1 : w1.cell? ⟨w.heap.size, 1, none⟩ = some (.bool own) := hp.cell (by omega)
    have HX1 := hide hp
    clear hp hb1
    go_wp2_with fail
    refine (soCan_any _ _ _ F _ _ _ hn HF.out hq HA1.out).mono ?_
    rintro e w2 ⟨rfl, hb2⟩
    simp only [HSol.out]
    have HB2 := hide (HB1.out.trans (hb2.mono HB1.out.size))
    clear hb2
    go_wp2
    go_ret2
    exact ⟨by rw [HV.out]; rfl, HB2.out⟩
  · have HSol := hide hsol
    have HV : Hid (cntV (tog F own) n q = 2 ^ (qS (tog F own) n n).1.length) := hide (by rw [cntV, hsol]; rfl)
    clear hsol
    obtain ⟨m, hm⟩ : ∃ m, (qS (tog F own) n n).1.length = m := ⟨_, rfl⟩
    rw [hm] at HV hQl
    have HM0 := hide hm
    have e0 := wrap_pow16 hQl
    obtain ⟨p, hp⟩ : ∃ p, 2 ^ m = p := ⟨_, rfl⟩
    rw [hp] at e0 HV
    have HE := hide e0
    clear hm hp e0
    go_enter Try.func56, Try.ntmps56
    go_wp2_with fail
    refine (grSet_any _ _ _ (nv F) _ _ _ (by omega) (HA.out.alloc _)).mono ?_
    rintro e w1 ⟨rfl, hb1⟩
    simp only [HSet.out]
    have hp := (Arr.box w 26 (.slice (some ⟨g, 0, none⟩) n c) (.bool own)).all hb1
    have HA1 := hide ((HA.out.alloc _).all hb1)
    have HB1 := hide ((by go_grown : Below w.heap.size w _).trans (hb1.mono (by simp)))
    have c0_1 : w1.cell? ⟨w.heap.size, 0, none⟩ = some (.slice (some ⟨g, 0, none⟩) n c) := hp.cell (by omega)
    have c1_1 : w1.cell? ⟨w.heap.size, 1, none⟩ = some (.bool own) := hp.cell (by omega)
    have HX1 := hide hp
    clear hp hb1
    go_wp2_with fail
    refine (soCan_any _ _ _ F _ _ _ hn HF.out hq HA1.out).mono ?_
    rintro e w2 ⟨rfl, hb2⟩
    simp only [HSol.out]
    have hp := HX1.out.all hb2
    have HA2 := hide (HA1.out.all hb2)
    have HB2 := hide (HB1.out.trans (hb2.mono HB1.out.size))
    have c0_2 : w2.cell? ⟨w.heap.size, 0, none⟩ = some (.slice (some ⟨g, 0, none⟩) n c) := hp.cell (by omega)
    have c1_2 : w2.cell? ⟨w.heap.size, 1, none⟩ = some (.bool own) := hp.cell (by omega)
    have HX2 := hide hp
    clear hp hb2 c0_1 c1_1
    go_wp2_with fail
    refine (soQuiet_any _ _ _ F _ _ hn HF.out HA2.out).mono ?_
    rintro e w3 ⟨A, d, m3, rfl, hm, hs, hb3⟩
    rw [HM0.out] at hm
    have HB3 := hide (HB2.out.trans (hb3.mono HB2.out.size))
    subst hm
    clear hb3 hs
    go_wp2
    go_ret2
    exact ⟨by rw [HV.out, ← HE.out]; rfl, HB3.out⟩
theorem cntImpl_no (g n c : Nat) (f : Nat → Int) (own : Bool) (s : Int) (w : World) (hn : n ≤ 1048576) (hno : setB n f s = false) (ha : Arr w 3 g n (iv f)) :
    Calls Try.prog 57 #[.agg #[.slice (some ⟨g, 0, none⟩) n c, .bool own], .int .i64 s] w (Two w (.int .i64 0) false) := by
  have HA := hide ha
  clear ha
  go_enter Try.func57, Try.ntmps57
  go_wp2_with fail
  refine (isBoard_any _ _ _ f _ _ _ hn (HA.out.alloc _)).mono ?_
  rintro e w1 ⟨rfl, hb1⟩
  go_wp2
  go_ret2
  exact ⟨rfl, (by go_grown : Below w.heap.size w _).trans (hb1.mono (by simp))⟩
theorem cntSpec_no (g n c : Nat) (f : Nat → Int) (own : Bool) (s : Int) (w : World) (hn : n ≤ 1048576) (hno : setB n f s = false) (ha : Arr w 3 g n (iv f)) :
    Calls Try.prog 56 #[.agg #[.slice (some ⟨g, 0, none⟩) n c, .bool own], .int .i64 s] w (Two w (.int .i64 0) false) := by
  have HA := hide ha
  clear ha
  go_enter Try.func56, Try.ntmps56
  go_wp2_with fail
  refine (grSet_any _ _ _ f _ _ _ hn (HA.out.alloc _)).mono ?_
  rintro e w1 ⟨rfl, hb1⟩
  go_wp2
  go_ret2
  exact ⟨rfl, (by go_grown : Below w.heap.size w _).trans (hb1.mono (by simp))⟩
end Go.Proofs.Ytodbhokokdckkaa
