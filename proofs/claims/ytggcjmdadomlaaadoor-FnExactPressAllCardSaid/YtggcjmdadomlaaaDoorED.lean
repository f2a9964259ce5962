import Derived.Test.YtggcjmdadomlaaaDoorEC
namespace Go.Proofs.YtggcjmdadomlaaaDoor
open Go.RowKit
set_option maxHeartbeats 1000000
def PairB (w : World) (v : Bool) (ok : Bool) (e : Ending) (w' : World) : Prop := e = .returned (.tuple #[.bool v, .bool ok]) ∧ Below w.heap.size w w'
theorem pressImpl_no (g n c : Nat) (f : Nat → Int) (own : Bool) (s p : Int) (w : World) (hn : n ≤ 1048576) (hno : (setB n f s && setB n f p) = false) (ha : Arr w 3 g n (iv f)) :
    Calls Tryd.prog 13 #[.agg #[.slice (some ⟨g, 0, none⟩) n c, .bool own], .int .i64 s, .int .i64 p] w (Pair w 0 false) := by
  have HA := hide ha
  clear ha
  cases hgd : goodB n f
  · clear hno
    go_enter Tryd.func13, Tryd.ntmps13
    go_wp2_with fail
    refine (isGraph_any _ _ _ f _ _ hn (HA.out.alloc _)).mono ?_
    rintro e w1 ⟨rfl, hb1⟩
    go_wp2
    go_ret2
    exact ⟨rfl, (by go_grown : Below w.heap.size w _).trans (hb1.mono (by simp))⟩
  · have hn16 := (goodB_iff.1 hgd).n16
    have hgl := HA.out.lt
    cases hin : inB s 0 (2 ^ n - 1)
    · clear hno
      go_enter Tryd.func13, Tryd.ntmps13
      go_wp2_with fail
      refine (isGraph_any _ _ _ f _ _ hn (HA.out.alloc _)).mono ?_
      rintro e w1 ⟨rfl, hb1⟩
      have hp := (Arr.box w 28 (.slice (some ⟨g, 0, none⟩) n c) (.bool own)).all hb1
      have c0 : w1.cell? ⟨w.heap.size, 0, none⟩ = some (.slice (some ⟨g, 0, none⟩) n c) := hp.cell (by omega)
      have c1 : w1.cell? ⟨w.heap.size, 1, none⟩ = some (.bool own) := hp.cell (by omega)
      have HB := hide ((by go_grown : Below w.heap.size w _).trans (hb1.mono (by simp)))
      clear hb1 hp
      go_wp2_with fail
      refine (isSet_any _ _ _ _ _ _ hn16).mono ?_
      rintro e w2 ⟨rfl, hb2⟩
      go_wp2
      go_ret2
      exact ⟨rfl, HB.out.trans (hb2.mono HB.out.size)⟩
    · have hw : inB p 0 (2 ^ n - 1) = false := by simpa [setB, hgd, hin] using hno
      clear hno
      go_enter Tryd.func13, Tryd.ntmps13
      go_wp2_with fail
      refine (isGraph_any _ _ _ f _ _ hn (HA.out.alloc _)).mono ?_
      rintro e w1 ⟨rfl, hb1⟩
      have hp := (Arr.box w 28 (.slice (some ⟨g, 0, none⟩) n c) (.bool own)).all hb1
      have c0 : w1.cell? ⟨w.heap.size, 0, none⟩ = some (.slice (some ⟨g, 0, none⟩) n c) := hp.cell (by omega)
      have c1 : w1.cell? ⟨w.heap.size, 1, none⟩ = some (.bool own) := hp.cell (by omega)
      have HX := hide hp
      have HB := hide ((by go_grown : Below w.heap.size w _).trans (hb1.mono (by simp)))
      clear hb1 hp
      go_wp2_with fail
      refine (isSet_any _ _ _ _ _ _ hn16).mono ?_
      rintro e w2 ⟨rfl, hb2⟩
      have hp := HX.out.all hb2
      have d0 : w2.cell? ⟨w.heap.size, 0, none⟩ = some (.slice (some ⟨g, 0, none⟩) n c) := hp.cell (by omega)
      have d1 : w2.cell? ⟨w.heap.size, 1, none⟩ = some (.bool own) := hp.cell (by omega)
      have HB2 := hide (HB.out.trans (hb2.mono HB.out.size))
      clear hb2 hp c0 c1
      go_wp2_with fail
      refine (isSet_any _ _ _ _ _ _ hn16).mono ?_
      rintro e w3 ⟨rfl, hb3⟩
      go_wp2
      go_ret2
      exact ⟨rfl, HB2.out.trans (hb3.mono HB2.out.size)⟩
theorem pressSpec_no (g n c : Nat) (f : Nat → Int) (own : Bool) (s p : Int) (w : World) (hn : n ≤ 1048576) (hno : (setB n f s && setB n f p) = false) (ha : Arr w 3 g n (iv f)) :
    Calls Tryd.prog 12 #[.agg #[.slice (some ⟨g, 0, none⟩) n c, .bool own], .int .i64 s, .int .i64 p] w (Pair w 0 false) := by
  have HA := hide ha
  have hgl := ha.lt
  clear ha
  cases hgd : setB n f s
  · clear hno
    go_enter Tryd.func12, Tryd.ntmps12
    go_wp2_with fail
    refine (grSet_any _ _ _ f _ _ _ hn (HA.out.alloc _)).mono ?_
    rintro e w1 ⟨rfl, hb1⟩
    simp only [hgd]
    go_wp2
    go_ret2
    exact ⟨rfl, (by go_grown : Below w.heap.size w _).trans (hb1.mono (by simp))⟩
  · have hw : setB n f p = false := by simpa [hgd] using hno
    clear hno
    go_enter Tryd.func12, Tryd.ntmps12
    go_wp2_with fail
    refine (grSet_any _ _ _ f _ _ _ hn (HA.out.alloc _)).mono ?_
    rintro e w1 ⟨rfl, hb1⟩
    simp only [hgd]
    have hp := (Arr.box w 28 (.slice (some ⟨g, 0, none⟩) n c) (.bool own)).all hb1
    have c0 : w1.cell? ⟨w.heap.size, 0, none⟩ = some (.slice (some ⟨g, 0, none⟩) n c) := hp.cell (by omega)
    have c1 : w1.cell? ⟨w.heap.size, 1, none⟩ = some (.bool own) := hp.cell (by omega)
    have HB := hide ((by go_grown : Below w.heap.size w _).trans (hb1.mono (by simp)))
    clear hb1 hp
    go_wp2_with fail
    refine (grSet_any _ _ _ f _ _ _ hn (HA.out.below HB.out hgl)).mono ?_
    rintro e w2 ⟨rfl, hb2⟩
    simp only [hw]
    go_wp2
    go_ret2
    exact ⟨rfl, HB.out.trans (hb2.mono HB.out.size)⟩
theorem pressSpec_ok (g n c : Nat) (F : Nat → Nat) (own : Bool) (s p : Nat) (w : World) (hn : n ≤ 16) (hs : s < 2 ^ n) (hp : p < 2 ^ n) (hF : ∀ j, j < n → F j < 2 ^ n) (hG : setB n (nv F) s = true) (hG2 : setB n (nv F) p = true) (ha : Arr w 3 g n (iv (nv F))) :
    Calls Tryd.prog 12 #[.agg #[.slice (some ⟨g, 0, none⟩) n c, .bool own], .int .i64 s, .int .i64 p] w (Pair w (paN F own n s p : Nat) true) := by
  have h16 : (2 : Nat) ^ n ≤ 65536 := Nat.pow_le_pow_right (n := 2) (by decide) hn
  have HA := hide ha
  have hgl := ha.lt
  have HF := hide (fun j (hj : j < n) => (by have := hF j hj; omega : F j < 65536))
  have he : effN (tog F own) p n < 2 ^ n := effN_lt (fun i hi => tog_lt_pow (own := own) hi (hF i hi)) p n (Nat.le_refl _)
  have hx : bits .xor .i64 (s : Int) (effN (tog F own) p n : Nat) = ((paN F own n s p : Nat) : Int) := i64_xor_nat _ _ (by omega) (by omega)
  have hs' : s < 65536 := by omega
  have hp' : p < 65536 := by omega
  clear ha hF he
  go_enter Tryd.func12, Tryd.ntmps12
  go_wp2_with fail
  refine (grSet_any _ _ _ (nv F) _ _ _ (by omega) (HA.out.alloc _)).mono ?_
  rintro e w1 ⟨rfl, hb1⟩
  simp only [hG]
  have hq := (Arr.box w 28 (.slice (some ⟨g, 0, none⟩) n c) (.bool own)).all hb1
  have c0 : w1.cell? ⟨w.heap.size, 0, none⟩ = some (.slice (some ⟨g, 0, none⟩) n c) := hq.cell (by omega)
  have c1 : w1.cell? ⟨w.heap.size, 1, none⟩ = some (.bool own) := hq.cell (by omega)
  have HX := hide hq
  have HB := hide ((by go_grown : Below w.heap.size w _).trans (hb1.mono (by simp)))
  clear hb1 hq
  go_wp2_with fail
  refine (grSet_any _ _ _ (nv F) _ _ _ (by omega) (HA.out.below HB.out hgl)).mono ?_
  rintro e w2 ⟨rfl, hb2⟩
  simp only [hG2]
  have hq := HX.out.all hb2
  have d0 : w2.cell? ⟨w.heap.size, 0, none⟩ = some (.slice (some ⟨g, 0, none⟩) n c) := hq.cell (by omega)
  have d1 : w2.cell? ⟨w.heap.size, 1, none⟩ = some (.bool own) := hq.cell (by omega)
  have HB2 := hide (HB.out.trans (hb2.mono HB.out.size))
  clear hb2 hq c0 c1
  go_wp2_with (go_at_call 25; refine (grEffect_any _ _ _ F _ _ _ hn hp' HF.out (HA.out.below HB2.out hgl)).mono ?_; rintro e w3 ⟨rfl, hb3⟩)
  go_ret2
  exact ⟨rfl, HB2.out.trans (hb3.mono HB2.out.size)⟩
theorem effSpec_no (g n c : Nat) (f : Nat → Int) (own : Bool) (s : Int) (w : World) (hn : n ≤ 1048576) (hno : setB n f s = false) (ha : Arr w 3 g n (iv f)) :
    Calls Tryd.prog 14 #[.agg #[.slice (some ⟨g, 0, none⟩) n c, .bool own], .int .i64 s] w (Pair w 0 false) := by
  have HA := hide ha
  clear ha
  go_enter Tryd.func14, Tryd.ntmps14
  go_wp2_with fail
  refine (grSet_any _ _ _ f _ _ _ hn (HA.out.alloc _)).mono ?_
  rintro e w1 ⟨rfl, hb1⟩
  simp only [hno]
  go_wp2
  go_ret2
  exact ⟨rfl, (by go_grown : Below w.heap.size w _).trans (hb1.mono (by simp))⟩
theorem effSpec_ok (g n c : Nat) (F : Nat → Nat) (own : Bool) (p : Nat) (w : World) (hn : n ≤ 16) (hF : ∀ j, j < n → F j < 2 ^ n) (hp : p < 2 ^ n) (hG : setB n (nv F) p = true) (ha : Arr w 3 g n (iv (nv F))) :
    Calls Tryd.prog 14 #[.agg #[.slice (some ⟨g, 0, none⟩) n c, .bool own], .int .i64 p] w (Pair w (effN (tog F own) p n : Nat) true) := by
  have h16 : (2 : Nat) ^ n ≤ 65536 := Nat.pow_le_pow_right (n := 2) (by decide) hn
  have HA := hide ha
  have hgl := ha.lt
  have HF := hide (fun j (hj : j < n) => (by have := hF j hj; omega : F j < 65536))
  have hp' : p < 65536 := by omega
  clear ha hF
  go_enter Tryd.func14, Tryd.ntmps14
  go_wp2_with fail
  refine (grSet_any _ _ _ (nv F) _ _ _ (by omega) (HA.out.alloc _)).mono ?_
  rintro e w1 ⟨rfl, hb1⟩
  simp only [hG]
  have hq := (Arr.box w 28 (.slice (some ⟨g, 0, none⟩) n c) (.bool own)).all hb1
  have c0 : w1.cell? ⟨w.heap.size, 0, none⟩ = some (.slice (some ⟨g, 0, none⟩) n c) := hq.cell (by omega)
  have c1 : w1.cell? ⟨w.heap.size, 1, none⟩ = some (.bool own) := hq.cell (by omega)
  have HB := hide ((by go_grown : Below w.heap.size w _).trans (hb1.mono (by simp)))
  clear hb1 hq
  go_wp2_with (go_at_call 25; refine (grEffect_any _ _ _ F _ _ _ hn hp' HF.out (HA.out.below HB.out hgl)).mono ?_; rintro e w3 ⟨rfl, hb3⟩)
  go_ret2
  exact ⟨rfl, HB.out.trans (hb3.mono HB.out.size)⟩
theorem quietSpec_no (g n c : Nat) (f : Nat → Int) (own : Bool) (s : Int) (w : World) (hn : n ≤ 1048576) (hno : setB n f s = false) (ha : Arr w 3 g n (iv f)) :
    Calls Tryd.prog 8 #[.agg #[.slice (some ⟨g, 0, none⟩) n c, .bool own], .int .i64 s] w (PairB w false false) := by
  have HA := hide ha
  clear ha
  go_enter Tryd.func8, Tryd.ntmps8
  go_wp2_with fail
  refine (grSet_any _ _ _ f _ _ _ hn (HA.out.alloc _)).mono ?_
  rintro e w1 ⟨rfl, hb1⟩
  simp only [hno]
  go_wp2
  go_ret2
  exact ⟨rfl, (by go_grown : Below w.heap.size w _).trans (hb1.mono (by simp))⟩
theorem quietSpec_ok (g n c : Nat) (F : Nat → Nat) (own : Bool) (p : Nat) (w : World) (hn : n ≤ 16) (hF : ∀ j, j < n → F j < 2 ^ n) (hp : p < 2 ^ n) (hG : setB n (nv F) p = true) (ha : Arr w 3 g n (iv (nv F))) :
    Calls Tryd.prog 8 #[.agg #[.slice (some ⟨g, 0, none⟩) n c, .bool own], .int .i64 p] w (PairB w (decide (effN (tog F own) p n = 0)) true) := by
  have h16 : (2 : Nat) ^ n ≤ 65536 := Nat.pow_le_pow_right (n := 2) (by decide) hn
  have HA := hide ha
  have hgl := ha.lt
  have HF := hide (fun j (hj : j < n) => (by have := hF j hj; omega : F j < 65536))
  have hp' : p < 65536 := by omega
  have hq0 : (((effN (tog F own) p n : Nat) : Int) == 0) = decide (effN (tog F own) p n = 0) := by by_cases h : effN (tog F own) p n = 0 <;> simp [h]
  clear ha hF
  go_enter Tryd.func8, Tryd.ntmps8
  go_wp2_with fail
  refine (grSet_any _ _ _ (nv F) _ _ _ (by omega) (HA.out.alloc _)).mono ?_
  rintro e w1 ⟨rfl, hb1⟩
  simp only [hG]
  have hq := (Arr.box w 28 (.slice (some ⟨g, 0, none⟩) n c) (.bool own)).all hb1
  have c0 : w1.cell? ⟨w.heap.size, 0, none⟩ = some (.slice (some ⟨g, 0, none⟩) n c) := hq.cell (by omega)
  have c1 : w1.cell? ⟨w.heap.size, 1, none⟩ = some (.bool own) := hq.cell (by omega)
  have HB := hide ((by go_grown : Below w.heap.size w _).trans (hb1.mono (by simp)))
  clear hb1 hq
  go_wp2_with (go_at_call 25; refine (grEffect_any _ _ _ F _ _ _ hn hp' HF.out (HA.out.below HB.out hgl)).mono ?_; rintro e w3 ⟨rfl, hb3⟩)
  go_ret2
  exact ⟨rfl, HB.out.trans (hb3.mono HB.out.size)⟩
theorem setB_zero {n : Nat} {f : Nat → Int} (hn : n ≤ 16) : setB n f 0 = goodB n f := by
  have := pow16 hn
  have h : inB 0 0 (2 ^ n - 1) = true := by simp only [inB, decide_eq_true_eq]; omega
  simp [setB, h]
theorem zero_no {n : Nat} {f : Nat → Int} {s : Int} (h : setB n f s = false) : (setB n f 0 && setB n f s) = false := by rw [h]; simp
theorem effImpl_no (g n c : Nat) (f : Nat → Int) (own : Bool) (s : Int) (w : World) (hn : n ≤ 1048576) (hno : setB n f s = false) (ha : Arr w 3 g n (iv f)) :
    Calls Tryd.prog 15 #[.agg #[.slice (some ⟨g, 0, none⟩) n c, .bool own], .int .i64 s] w (Pair w 0 false) := by
  have HA := hide ha
  clear ha
  go_enter Tryd.func15, Tryd.ntmps15
  go_wp2_with (go_at_call 13; refine (pressImpl_no _ _ _ f _ _ _ _ hn (zero_no hno) (by first | exact HA.out.alloc _ | exact HA.out)).mono ?_; rintro e w1 ⟨rfl, hb1⟩)
  go_ret2
  exact ⟨rfl, (by go_grown : Below w.heap.size w _).trans (hb1.mono (by simp))⟩
theorem effImpl_ok (g n c : Nat) (F : Nat → Nat) (own : Bool) (p : Nat) (w : World) (hn : n ≤ 16) (hF : ∀ j, j < n → F j < 2 ^ n) (hp : p < 2 ^ n) (hG : setB n (nv F) p = true) (ha : Arr w 3 g n (iv (nv F))) (hT : Tab w) :
    Calls Tryd.prog 15 #[.agg #[.slice (some ⟨g, 0, none⟩) n c, .bool own], .int .i64 p] w (Pair w (effN (tog F own) p n : Nat) true) := by
  have HA := hide ha
  have HT := hide hT
  have HF := hide hF
  have hz : setB n (nv F) 0 = true := by rw [setB_zero hn]; simp only [setB, Bool.and_eq_true] at hG; exact hG.1
  have h0 : (0 : Nat) < 2 ^ n := Nat.two_pow_pos n
  have e0 : paN F own n 0 p = effN (tog F own) p n := Nat.zero_xor _
  clear ha hT hF
  go_enter Tryd.func15, Tryd.ntmps15
  go_wp2_with (go_at_call 13; refine (pressImpl_ok _ _ _ F _ 0 _ _ hn h0 hp HF.out hz hG (by first | exact HA.out.alloc _ | exact HA.out) (by first | exact HT.out.alloc _ | exact HT.out)).mono ?_; rintro e w1 ⟨rfl, hb1⟩; rw [e0])
  go_ret2
  exact ⟨rfl, (by go_grown : Below w.heap.size w _).trans (hb1.mono (by simp))⟩
theorem quietImpl_no (g n c : Nat) (f : Nat → Int) (own : Bool) (s : Int) (w : World) (hn : n ≤ 1048576) (hno : setB n f s = false) (ha : Arr w 3 g n (iv f)) :
    Calls Tryd.prog 10 #[.agg #[.slice (some ⟨g, 0, none⟩) n c, .bool own], .int .i64 s] w (PairB w false false) := by
  have HA := hide ha
  clear ha
  go_enter Tryd.func10, Tryd.ntmps10
  go_wp2_with (go_at_call 15; refine (effImpl_no _ _ _ f _ _ _ hn hno (by first | exact HA.out.alloc _ | exact HA.out)).mono ?_; rintro e w1 ⟨rfl, hb1⟩)
  go_ret2
  exact ⟨rfl, (by go_grown : Below w.heap.size w _).trans (hb1.mono (by simp))⟩
theorem quietImpl_ok (g n c : Nat) (F : Nat → Nat) (own : Bool) (p : Nat) (w : World) (hn : n ≤ 16) (hF : ∀ j, j < n → F j < 2 ^ n) (hp : p < 2 ^ n) (hG : setB n (nv F) p = true) (ha : Arr w 3 g n (iv (nv F))) (hT : Tab w) :
    Calls Tryd.prog 10 #[.agg #[.slice (some ⟨g, 0, none⟩) n c, .bool own], .int .i64 p] w (PairB w (decide (effN (tog F own) p n = 0)) true) := by
  have HA := hide ha
  have HT := hide hT
  have HF := hide hF
  have hq0 : (((effN (tog F own) p n : Nat) : Int) == 0) = decide (effN (tog F own) p n = 0) := by by_cases h : effN (tog F own) p n = 0 <;> simp [h]
  clear ha hT hF
  go_enter Tryd.func10, Tryd.ntmps10
  go_wp2_with (go_at_call 15; refine (effImpl_ok _ _ _ F _ _ _ hn HF.out hp hG (by first | exact HA.out.alloc _ | exact HA.out) (by first | exact HT.out.alloc _ | exact HT.out)).mono ?_; rintro e w1 ⟨rfl, hb1⟩)
  go_ret2
  exact ⟨rfl, (by go_grown : Below w.heap.size w _).trans (hb1.mono (by simp))⟩
end Go.Proofs.YtggcjmdadomlaaaDoor
