import Derived.Test.YtodbhokokdckkaaSX
namespace Go.Proofs.Ytodbhokokdckkaa
open Go.RowKit
set_option maxHeartbeats 2000000
theorem qpSpec_big (g n c : Nat) (F : Nat → Nat) (own : Bool) (w : World) (hn : n ≤ 16) (hF : ∀ j, j < n → F j < 2 ^ n) (hgd : goodB n (nv F) = true) (h8 : 8 < ((qS (tog F own) n n).1).length) (ha : Arr w 3 g n (iv (nv F))) :
    Calls Try.prog 46 #[.agg #[.slice (some ⟨g, 0, none⟩) n c, .bool own]] w (Two w (.slice none 0 0) false) := by
  have HA := hide ha
  have HF := hide hF
  have HT := hide (tog_all (own := own) hF)
  have HG := hide hgd
  have HQ16 := hide (qS_lt16 (T := tog F own) hn)
  have hQl := qS_fit hn HT.out
  obtain ⟨Q, hQ⟩ : ∃ Q, (qS (tog F own) n n).1 = Q := ⟨_, rfl⟩
  rw [hQ] at HQ16 hQl h8
  have HQ := hide hQ
  have H8 := hide h8
  clear ha hF hgd hQ h8
  go_enter Try.func46, Try.ntmps46
  go_wp2_with fail
  refine (grGood_any _ _ _ (nv F) _ _ (by omega) (HA.out.alloc _)).mono ?_
  rintro e w1 ⟨rfl, hb1⟩
  simp only [HG.out]
  have hp := (Arr.box w 26 (.slice (some ⟨g, 0, none⟩) n c) (.bool own)).all hb1
  have HA1 := hide ((HA.out.alloc _).all hb1)
  have HB1 := hide ((by go_grown : Below w.heap.size w _).trans (hb1.mono (by simp)))
  have c0_1 : w1.cell? ⟨w.heap.size, 0, none⟩ = some (.slice (some ⟨g, 0, none⟩) n c) := hp.cell (by omega)
  have c1_1 : w1.cell? ⟨w.heap.size, 1, none⟩ = some (.bool own) := hp.cell (by omega)
  have HX1 := hide hp
  clear hp hb1
  go_wp2_with fail
  refine (soQuiet_any _ _ _ F _ _ hn HF.out HA1.out).mono ?_
  rintro e w2 ⟨A, d, m, rfl, hm, hs, hb2⟩
  rw [HQ.out] at hm hs
  have hm8 : 8 < m := by have := H8.out; omega
  have HB2 := hide (HB1.out.trans (hb2.mono HB1.out.size))
  clear hm hs hb2
  go_wp2
  go_ret2
  exact ⟨rfl, HB2.out⟩
theorem qpSpec_ok (g n c : Nat) (F : Nat → Nat) (own : Bool) (w : World) (hn : n ≤ 16) (hF : ∀ j, j < n → F j < 2 ^ n) (hgd : goodB n (nv F) = true) (h8 : ((qS (tog F own) n n).1).length ≤ 8) (ha : Arr w 3 g n (iv (nv F))) :
    Calls Try.prog 46 #[.agg #[.slice (some ⟨g, 0, none⟩) n c, .bool own]] w (ListRead w (sums ((qS (tog F own) n n).1))) := by
  have HA := hide ha
  have HF := hide hF
  have HT := hide (tog_all (own := own) hF)
  have HG := hide hgd
  have HQ16 := hide (qS_lt16 (T := tog F own) hn)
  have hQl := qS_fit hn HT.out
  obtain ⟨Q, hQ⟩ : ∃ Q, (qS (tog F own) n n).1 = Q := ⟨_, rfl⟩
  rw [hQ] at HQ16 hQl h8
  have HQ := hide hQ
  have H8 := hide h8
  clear ha hF hgd hQ h8
  go_enter Try.func46, Try.ntmps46
  go_wp2_with fail
  refine (grGood_any _ _ _ (nv F) _ _ (by omega) (HA.out.alloc _)).mono ?_
  rintro e w1 ⟨rfl, hb1⟩
  simp only [HG.out]
  have hp := (Arr.box w 26 (.slice (some ⟨g, 0, none⟩) n c) (.bool own)).all hb1
  have HA1 := hide ((HA.out.alloc _).all hb1)
  have HB1 := hide ((by go_grown : Below w.heap.size w _).trans (hb1.mono (by simp)))
  have c0_1 : w1.cell? ⟨w.heap.size, 0, none⟩ = some (.slice (some ⟨g, 0, none⟩) n c) := hp.cell (by omega)
  have c1_1 : w1.cell? ⟨w.heap.size, 1, none⟩ = some (.bool own) := hp.cell (by omega)
  have HX1 := hide hp
  clear hp hb1
  go_wp2_with fail
  refine (soQuiet_any _ _ _ F _ _ hn HF.out HA1.out).mono ?_
  rintro e w2 ⟨A, d, m, rfl, hm, hs, hb2⟩
  rw [HQ.out] at hm hs
  have hm8 : m ≤ 8 := by have := H8.out; omega
  have hp := HX1.out.all hb2
  have HA2 := hide (HA1.out.all hb2)
  have HB2 := hide (HB1.out.trans (hb2.mono HB1.out.size))
  have c0_2 : w2.cell? ⟨w.heap.size, 0, none⟩ = some (.slice (some ⟨g, 0, none⟩) n c) := hp.cell (by omega)
  have c1_2 : w2.cell? ⟨w.heap.size, 1, none⟩ = some (.bool own) := hp.cell (by omega)
  have HX2 := hide hp
  clear hp hb2 c0_1 c1_1
  clear hm hs
  go_wp2_with fail
  refine (soQuiet_any _ _ _ F _ _ hn HF.out HA2.out).mono ?_
  rintro e w3 ⟨A3, d3, m3, rfl, hm3, hs3, hb3⟩
  rw [HQ.out] at hm3 hs3
  have hm16 : m3 ≤ 16 := by omega
  have HM3 := hide hm3
  have HS3 := hide hs3
  have HB3 := hide (HB2.out.trans (hb3.mono HB2.out.size))
  clear hm3 hs3 hb3
  go_wp2_with fail
  refine (soSums_any _ _ _ _ _ HQ16.out HM3.out hm16 HS3.out).mono ?_
  rintro e w4 ⟨A4, d4, m4, rfl, hm4, ho4, hb4⟩
  have HM4 := hide hm4
  have HS4 := hide (ho4.src hm4)
  have HB4 := hide (HB3.out.trans (hb4.mono HB3.out.size))
  clear hm4 ho4 hb4
  go_wp2
  go_ret2
  exact ⟨A4, m4, d4, rfl, by rw [HQ.out]; exact HM4.out, by rw [HQ.out]; exact HS4.out, HB4.out⟩
theorem qpImpl_big (g n c : Nat) (F : Nat → Nat) (own : Bool) (w : World) (hn : n ≤ 16) (hF : ∀ j, j < n → F j < 2 ^ n) (hgd : goodB n (nv F) = true) (h8 : 8 < ((qS (tog F own) n n).1).length) (ha : Arr w 3 g n (iv (nv F))) :
    Calls Try.prog 47 #[.agg #[.slice (some ⟨g, 0, none⟩) n c, .bool own]] w (Two w (.slice none 0 0) false) := by
  have HA := hide ha
  have HF := hide hF
  have HT := hide (tog_all (own := own) hF)
  have HG := hide hgd
  have HQ16 := hide (qS_lt16 (T := tog F own) hn)
  have hQl := qS_fit hn HT.out
  obtain ⟨Q, hQ⟩ : ∃ Q, (qS (tog F own) n n).1 = Q := ⟨_, rfl⟩
  rw [hQ] at HQ16 hQl h8
  have HQ := hide hQ
  have H8 := hide h8
  clear ha hF hgd hQ h8
  go_enter Try.func47, Try.ntmps47
  go_wp2_with fail
  refine (quietImpl_ok _ _ _ F _ _ hn HF.out HG.out (HA.out.alloc _)).mono ?_
  rintro e w1 ⟨A, m, d, rfl, hm, ho, hb1⟩
  rw [HQ.out] at hm ho
  have hm8 : 8 < m := by have := H8.out; omega
  have HB1 := hide ((by go_grown : Below w.heap.size w _).trans (hb1.mono (by simp)))
  clear hm ho hb1
  go_wp2
  go_ret2
  exact ⟨rfl, HB1.out⟩
theorem qpImpl_ok (g n c : Nat) (F : Nat → Nat) (own : Bool) (w : World) (hn : n ≤ 16) (hF : ∀ j, j < n → F j < 2 ^ n) (hgd : goodB n (nv F) = true) (h8 : ((qS (tog F own) n n).1).length ≤ 8) (ha : Arr w 3 g n (iv (nv F))) :
    Calls Try.prog 47 #[.agg #[.slice (some ⟨g, 0, none⟩) n c, .bool own]] w (ListOk w (sums ((qS (tog F own) n n).1))) := by
  have HA := hide ha
  have HF := hide hF
  have HT := hide (tog_all (own := own) hF)
  have HG := hide hgd
  have HQ16 := hide (qS_lt16 (T := tog F own) hn)
  have hQl := qS_fit hn HT.out
  obtain ⟨Q, hQ⟩ : ∃ Q, (qS (tog F own) n n).1 = Q := ⟨_, rfl⟩
  rw [hQ] at HQ16 hQl h8
  have HQ := hide hQ
  have H8 := hide h8
  clear ha hF hgd hQ h8
  go_enter Try.func47, Try.ntmps47
  go_wp2_with fail
  refine (quietImpl_ok _ _ _ F _ _ hn HF.out HG.out (HA.out.alloc _)).mono ?_
  rintro e w1 ⟨A, m, d, rfl, hm, ho, hb1⟩
  rw [HQ.out] at hm ho
  have hm8 : m ≤ 8 := by have := H8.out; omega
  have hm16 : m ≤ 16 := by omega
  have HM := hide hm
  have HO := hide ho
  have HB1 := hide ((by go_grown : Below w.heap.size w _).trans (hb1.mono (by simp)))
  clear hm ho hb1
  go_wp2_with fail
  refine (sumsOf_any _ _ _ _ _ HQ16.out HM.out hm16 (HO.out.src HM.out)).mono ?_
  rintro e w2 ⟨A2, d2, m2, rfl, hm2, ho2, hb2⟩
  have HM2 := hide hm2
  have HO2 := hide (ho2.mono HB1.out.size)
  have HB2 := hide (HB1.out.trans (hb2.mono HB1.out.size))
  clear hm2 ho2 hb2
  go_wp2
  go_ret2
  exact ⟨A2, m2, d2, rfl, by rw [HQ.out]; exact HM2.out, by rw [HQ.out]; exact HO2.out, HB2.out⟩
theorem qpSpec_no (g n c : Nat) (f : Nat → Int) (own : Bool) (w : World) (hn : n ≤ 1048576) (hgd : goodB n f = false) (ha : Arr w 3 g n (iv f)) :
    Calls Try.prog 46 #[.agg #[.slice (some ⟨g, 0, none⟩) n c, .bool own]] w (Two w (.slice none 0 0) false) := by
  have HA := hide ha
  clear ha
  go_enter Try.func46, Try.ntmps46
  go_wp2_with fail
  refine (grGood_any _ _ _ f _ _ hn (HA.out.alloc _)).mono ?_
  rintro e w1 ⟨rfl, hb1⟩
  go_wp2
  go_ret2
  exact ⟨rfl, (by go_grown : Below w.heap.size w _).trans (hb1.mono (by simp))⟩
theorem qpImpl_no (g n c : Nat) (f : Nat → Int) (own : Bool) (w : World) (hn : n ≤ 1048576) (hgd : goodB n f = false) (ha : Arr w 3 g n (iv f)) :
    Calls Try.prog 47 #[.agg #[.slice (some ⟨g, 0, none⟩) n c, .bool own]] w (Two w (.slice none 0 0) false) := by
  have HA := hide ha
  have HG := hide hgd
  clear ha hgd
  go_enter Try.func47, Try.ntmps47
  go_wp2_with fail
  refine (quietImpl_no _ _ _ f _ _ hn HG.out (HA.out.alloc _)).mono ?_
  rintro e w1 ⟨rfl, hb1⟩
  go_wp2
  go_ret2
  exact ⟨rfl, (by go_grown : Below w.heap.size w _).trans (hb1.mono (by simp))⟩
end Go.Proofs.Ytodbhokokdckkaa
