/-
ProductGraph refuses, in the program and in the model.
-/
import Derived.Test.YtdpoceijnbbmgaaDoorPG
import Derived.Test.YtdpoceijnbbmgaaDoorCG
namespace Go.Proofs.YtdpoceijnbbmgaaDoor
open Go.RowKit
set_option maxHeartbeats 400000
theorem prodImpl_a (g n c g' m c' : Nat) (f h : Nat → Int) (own own2 : Bool) (w : World) (hn : n ≤ 1048576) (hm : m ≤ 1048576) (h1 : goodB n f = false) (ha : Arr w 3 g n (iv f)) (ha' : Arr w 3 g' m (iv h)) :
    Calls Tryd.prog 14 #[.agg #[.slice (some ⟨g, 0, none⟩) n c, .bool own], .agg #[.slice (some ⟨g', 0, none⟩) m c', .bool own2]] w (GraphNo w) := by
    have HA := hide ha
    have HA' := hide ha'
    clear ha ha'
    go_enter Tryd.func14, Tryd.ntmps14
    go_wp2_with fail
    refine (isGraph_any _ _ _ f _ _ hn (((HA.out.alloc _).alloc _).alloc _)).mono ?_
    rintro e w1 ⟨rfl, hb1⟩
    have HX := hide (((Arr.box w 26 (.slice (some ⟨g, 0, none⟩) n c) (.bool own)).alloc (.cells #[.slice (some ⟨g', 0, none⟩) m c', .bool own2] 26)).alloc (.cells #[.slice none 0 0, .bool false] 26) |>.all hb1)
    have HY := hide (((Arr.box_at (w.alloc (.cells #[.slice (some ⟨g, 0, none⟩) n c, .bool own] 26)) 26 (.slice (some ⟨g', 0, none⟩) m c') (.bool own2) (b := w.heap.size + 1) (by simp)).alloc (.cells #[.slice none 0 0, .bool false] 26)).all hb1)
    have HR := hide ((Arr.box_at ((w.alloc (.cells #[.slice (some ⟨g, 0, none⟩) n c, .bool own] 26)).alloc (.cells #[.slice (some ⟨g', 0, none⟩) m c', .bool own2] 26)) 26 (.slice none 0 0) (.bool false) (b := w.heap.size + 1 + 1) (by simp)).all hb1)
    have HA1' := hide ((((HA'.out.alloc _).alloc _).alloc _).all hb1)
    have HB := hide ((by go_grown : Below w.heap.size w _).trans (hb1.mono (by simp; omega)))
    have x0 : w1.cell? ⟨w.heap.size, 0, none⟩ = some (.slice (some ⟨g, 0, none⟩) n c) := HX.out.cell (by omega)
    have x1 : w1.cell? ⟨w.heap.size, 1, none⟩ = some (.bool own) := HX.out.cell (by omega)
    have y0 : w1.cell? ⟨w.heap.size + 1, 0, none⟩ = some (.slice (some ⟨g', 0, none⟩) m c') := HY.out.cell (by omega)
    have y1 : w1.cell? ⟨w.heap.size + 1, 1, none⟩ = some (.bool own2) := HY.out.cell (by omega)
    clear hb1
    have r0 := HR.out.cell (k := 0) (by omega)
    have r1 := HR.out.cell (k := 1) (by omega)
    have z0 := HR.out.frozen 0
    have z1 := HR.out.frozen 1
    have hl := HR.out.lt
    go_wp2
    refine bodyPost_ret (v := .tuple #[.agg #[.slice none 0 0, .bool false], .bool false]) (by simp [results, Tryd.results14, go_sem, r0, r1]) rfl ?_
    exact ⟨rfl, by have h := HB.out; have hz := h.size; go_grown⟩
theorem prodImpl_b (g n c g' m c' : Nat) (f h : Nat → Int) (own own2 : Bool) (w : World) (hn : n ≤ 1048576) (hm : m ≤ 1048576) (h1 : goodB n f = true) (h2 : goodB m h = false) (ha : Arr w 3 g n (iv f)) (ha' : Arr w 3 g' m (iv h)) :
    Calls Tryd.prog 14 #[.agg #[.slice (some ⟨g, 0, none⟩) n c, .bool own], .agg #[.slice (some ⟨g', 0, none⟩) m c', .bool own2]] w (GraphNo w) := by
    have HA := hide ha
    have HA' := hide ha'
    clear ha ha'
    go_enter Tryd.func14, Tryd.ntmps14
    go_wp2_with fail
    refine (isGraph_any _ _ _ f _ _ hn (((HA.out.alloc _).alloc _).alloc _)).mono ?_
    rintro e w1 ⟨rfl, hb1⟩
    have HX := hide (((Arr.box w 26 (.slice (some ⟨g, 0, none⟩) n c) (.bool own)).alloc (.cells #[.slice (some ⟨g', 0, none⟩) m c', .bool own2] 26)).alloc (.cells #[.slice none 0 0, .bool false] 26) |>.all hb1)
    have HY := hide (((Arr.box_at (w.alloc (.cells #[.slice (some ⟨g, 0, none⟩) n c, .bool own] 26)) 26 (.slice (some ⟨g', 0, none⟩) m c') (.bool own2) (b := w.heap.size + 1) (by simp)).alloc (.cells #[.slice none 0 0, .bool false] 26)).all hb1)
    have HR := hide ((Arr.box_at ((w.alloc (.cells #[.slice (some ⟨g, 0, none⟩) n c, .bool own] 26)).alloc (.cells #[.slice (some ⟨g', 0, none⟩) m c', .bool own2] 26)) 26 (.slice none 0 0) (.bool false) (b := w.heap.size + 1 + 1) (by simp)).all hb1)
    have HA1' := hide ((((HA'.out.alloc _).alloc _).alloc _).all hb1)
    have HB := hide ((by go_grown : Below w.heap.size w _).trans (hb1.mono (by simp; omega)))
    have x0 : w1.cell? ⟨w.heap.size, 0, none⟩ = some (.slice (some ⟨g, 0, none⟩) n c) := HX.out.cell (by omega)
    have x1 : w1.cell? ⟨w.heap.size, 1, none⟩ = some (.bool own) := HX.out.cell (by omega)
    have y0 : w1.cell? ⟨w.heap.size + 1, 0, none⟩ = some (.slice (some ⟨g', 0, none⟩) m c') := HY.out.cell (by omega)
    have y1 : w1.cell? ⟨w.heap.size + 1, 1, none⟩ = some (.bool own2) := HY.out.cell (by omega)
    clear hb1
    go_wp2_with fail
    refine (isGraph_any _ _ _ h _ _ hm HA1'.out).mono ?_
    rintro e w2 ⟨rfl, hb2⟩
    have HX2 := hide (HX.out.all hb2)
    have HY2 := hide (HY.out.all hb2)
    have HR2 := hide (HR.out.all hb2)
    have HB2 := hide (HB.out.trans (hb2.mono HB.out.size))
    clear hb2 x0 x1 y0 y1
    have x0 : w2.cell? ⟨w.heap.size, 0, none⟩ = some (.slice (some ⟨g, 0, none⟩) n c) := HX2.out.cell (by omega)
    have x1 : w2.cell? ⟨w.heap.size, 1, none⟩ = some (.bool own) := HX2.out.cell (by omega)
    have y0 : w2.cell? ⟨w.heap.size + 1, 0, none⟩ = some (.slice (some ⟨g', 0, none⟩) m c') := HY2.out.cell (by omega)
    have y1 : w2.cell? ⟨w.heap.size + 1, 1, none⟩ = some (.bool own2) := HY2.out.cell (by omega)
    have r0 := HR2.out.cell (k := 0) (by omega)
    have r1 := HR2.out.cell (k := 1) (by omega)
    have z0 := HR2.out.frozen 0
    have z1 := HR2.out.frozen 1
    have hl := HR2.out.lt
    go_wp2
    refine bodyPost_ret (v := .tuple #[.agg #[.slice none 0 0, .bool false], .bool false]) (by simp [results, Tryd.results14, go_sem, r0, r1]) rfl ?_
    exact ⟨rfl, by have h := HB2.out; have hz := h.size; go_grown⟩
theorem prodImpl_c (g n c g' m c' : Nat) (f h : Nat → Int) (own own2 : Bool) (w : World) (hn : n ≤ 1048576) (hm : m ≤ 1048576) (h1 : goodB n f = true) (h2 : goodB m h = true) (h3 : own = true ∧ own2 = false ∨ own = false ∧ own2 = true) (ha : Arr w 3 g n (iv f)) (ha' : Arr w 3 g' m (iv h)) :
    Calls Tryd.prog 14 #[.agg #[.slice (some ⟨g, 0, none⟩) n c, .bool own], .agg #[.slice (some ⟨g', 0, none⟩) m c', .bool own2]] w (GraphNo w) := by
    have HA := hide ha
    have HA' := hide ha'
    clear ha ha'
    rcases h3 with ⟨rfl, rfl⟩ | ⟨rfl, rfl⟩
    · go_enter Tryd.func14, Tryd.ntmps14
      go_wp2_with fail
      refine (isGraph_any _ _ _ f _ _ hn (((HA.out.alloc _).alloc _).alloc _)).mono ?_
      rintro e w1 ⟨rfl, hb1⟩
      have HX := hide (((Arr.box w 26 (.slice (some ⟨g, 0, none⟩) n c) (.bool true)).alloc (.cells #[.slice (some ⟨g', 0, none⟩) m c', .bool false] 26)).alloc (.cells #[.slice none 0 0, .bool false] 26) |>.all hb1)
      have HY := hide (((Arr.box_at (w.alloc (.cells #[.slice (some ⟨g, 0, none⟩) n c, .bool true] 26)) 26 (.slice (some ⟨g', 0, none⟩) m c') (.bool false) (b := w.heap.size + 1) (by simp)).alloc (.cells #[.slice none 0 0, .bool false] 26)).all hb1)
      have HR := hide ((Arr.box_at ((w.alloc (.cells #[.slice (some ⟨g, 0, none⟩) n c, .bool true] 26)).alloc (.cells #[.slice (some ⟨g', 0, none⟩) m c', .bool false] 26)) 26 (.slice none 0 0) (.bool false) (b := w.heap.size + 1 + 1) (by simp)).all hb1)
      have HA1' := hide ((((HA'.out.alloc _).alloc _).alloc _).all hb1)
      have HB := hide ((by go_grown : Below w.heap.size w _).trans (hb1.mono (by simp; omega)))
      have x0 : w1.cell? ⟨w.heap.size, 0, none⟩ = some (.slice (some ⟨g, 0, none⟩) n c) := HX.out.cell (by omega)
      have x1 : w1.cell? ⟨w.heap.size, 1, none⟩ = some (.bool true) := HX.out.cell (by omega)
      have y0 : w1.cell? ⟨w.heap.size + 1, 0, none⟩ = some (.slice (some ⟨g', 0, none⟩) m c') := HY.out.cell (by omega)
      have y1 : w1.cell? ⟨w.heap.size + 1, 1, none⟩ = some (.bool false) := HY.out.cell (by omega)
      clear hb1
      go_wp2_with fail
      refine (isGraph_any _ _ _ h _ _ hm HA1'.out).mono ?_
      rintro e w2 ⟨rfl, hb2⟩
      have HX2 := hide (HX.out.all hb2)
      have HY2 := hide (HY.out.all hb2)
      have HR2 := hide (HR.out.all hb2)
      have HB2 := hide (HB.out.trans (hb2.mono HB.out.size))
      clear hb2 x0 x1 y0 y1
      have x0 : w2.cell? ⟨w.heap.size, 0, none⟩ = some (.slice (some ⟨g, 0, none⟩) n c) := HX2.out.cell (by omega)
      have x1 : w2.cell? ⟨w.heap.size, 1, none⟩ = some (.bool true) := HX2.out.cell (by omega)
      have y0 : w2.cell? ⟨w.heap.size + 1, 0, none⟩ = some (.slice (some ⟨g', 0, none⟩) m c') := HY2.out.cell (by omega)
      have y1 : w2.cell? ⟨w.heap.size + 1, 1, none⟩ = some (.bool false) := HY2.out.cell (by omega)
      have r0 := HR2.out.cell (k := 0) (by omega)
      have r1 := HR2.out.cell (k := 1) (by omega)
      have z0 := HR2.out.frozen 0
      have z1 := HR2.out.frozen 1
      have hl := HR2.out.lt
      go_wp2
      refine bodyPost_ret (v := .tuple #[.agg #[.slice none 0 0, .bool false], .bool false]) (by simp [results, Tryd.results14, go_sem, r0, r1]) rfl ?_
      exact ⟨rfl, by have h := HB2.out; have hz := h.size; go_grown⟩
    · go_enter Tryd.func14, Tryd.ntmps14
      go_wp2_with fail
      refine (isGraph_any _ _ _ f _ _ hn (((HA.out.alloc _).alloc _).alloc _)).mono ?_
      rintro e w1 ⟨rfl, hb1⟩
      have HX := hide (((Arr.box w 26 (.slice (some ⟨g, 0, none⟩) n c) (.bool false)).alloc (.cells #[.slice (some ⟨g', 0, none⟩) m c', .bool true] 26)).alloc (.cells #[.slice none 0 0, .bool false] 26) |>.all hb1)
      have HY := hide (((Arr.box_at (w.alloc (.cells #[.slice (some ⟨g, 0, none⟩) n c, .bool false] 26)) 26 (.slice (some ⟨g', 0, none⟩) m c') (.bool true) (b := w.heap.size + 1) (by simp)).alloc (.cells #[.slice none 0 0, .bool false] 26)).all hb1)
      have HR := hide ((Arr.box_at ((w.alloc (.cells #[.slice (some ⟨g, 0, none⟩) n c, .bool false] 26)).alloc (.cells #[.slice (some ⟨g', 0, none⟩) m c', .bool true] 26)) 26 (.slice none 0 0) (.bool false) (b := w.heap.size + 1 + 1) (by simp)).all hb1)
      have HA1' := hide ((((HA'.out.alloc _).alloc _).alloc _).all hb1)
      have HB := hide ((by go_grown : Below w.heap.size w _).trans (hb1.mono (by simp; omega)))
      have x0 : w1.cell? ⟨w.heap.size, 0, none⟩ = some (.slice (some ⟨g, 0, none⟩) n c) := HX.out.cell (by omega)
      have x1 : w1.cell? ⟨w.heap.size, 1, none⟩ = some (.bool false) := HX.out.cell (by omega)
      have y0 : w1.cell? ⟨w.heap.size + 1, 0, none⟩ = some (.slice (some ⟨g', 0, none⟩) m c') := HY.out.cell (by omega)
      have y1 : w1.cell? ⟨w.heap.size + 1, 1, none⟩ = some (.bool true) := HY.out.cell (by omega)
      clear hb1
      go_wp2_with fail
      refine (isGraph_any _ _ _ h _ _ hm HA1'.out).mono ?_
      rintro e w2 ⟨rfl, hb2⟩
      have HX2 := hide (HX.out.all hb2)
      have HY2 := hide (HY.out.all hb2)
      have HR2 := hide (HR.out.all hb2)
      have HB2 := hide (HB.out.trans (hb2.mono HB.out.size))
      clear hb2 x0 x1 y0 y1
      have x0 : w2.cell? ⟨w.heap.size, 0, none⟩ = some (.slice (some ⟨g, 0, none⟩) n c) := HX2.out.cell (by omega)
      have x1 : w2.cell? ⟨w.heap.size, 1, none⟩ = some (.bool false) := HX2.out.cell (by omega)
      have y0 : w2.cell? ⟨w.heap.size + 1, 0, none⟩ = some (.slice (some ⟨g', 0, none⟩) m c') := HY2.out.cell (by omega)
      have y1 : w2.cell? ⟨w.heap.size + 1, 1, none⟩ = some (.bool true) := HY2.out.cell (by omega)
      have r0 := HR2.out.cell (k := 0) (by omega)
      have r1 := HR2.out.cell (k := 1) (by omega)
      have z0 := HR2.out.frozen 0
      have z1 := HR2.out.frozen 1
      have hl := HR2.out.lt
      go_wp2
      refine bodyPost_ret (v := .tuple #[.agg #[.slice none 0 0, .bool false], .bool false]) (by simp [results, Tryd.results14, go_sem, r0, r1]) rfl ?_
      exact ⟨rfl, by have h := HB2.out; have hz := h.size; go_grown⟩
theorem prodImpl_d (g n c g' m c' : Nat) (f h : Nat → Int) (own own2 : Bool) (w : World) (hn : n ≤ 1048576) (hm : m ≤ 1048576) (h1 : goodB n f = true) (h2 : goodB m h = true) (h3 : own = own2) (h4 : 16 < n * m) (ha : Arr w 3 g n (iv f)) (ha' : Arr w 3 g' m (iv h)) :
    Calls Tryd.prog 14 #[.agg #[.slice (some ⟨g, 0, none⟩) n c, .bool own], .agg #[.slice (some ⟨g', 0, none⟩) m c', .bool own2]] w (GraphNo w) := by
    have HA := hide ha
    have HA' := hide ha'
    clear ha ha'
    subst h3
    have hoo : (own != own) = false := by simp
    have hn16 := (goodB_iff.1 h1).2.1
    have hm16 := (goodB_iff.1 h2).2.1
    have hN2 : n * m ≤ 256 := Nat.mul_le_mul hn16 hm16
    obtain ⟨N, hN⟩ : ∃ N, n * m = N := ⟨_, rfl⟩
    rw [hN] at h4 hN2
    have hNc : (n : Int) * (m : Int) = (N : Int) := by rw [← hN, Int.natCast_mul]
    have hNw : IntKind.i64.wrap (N : Int) = (N : Int) := IntWalk.i64_in _ (by omega)
    have hs : inB (N : Int) 1 16 = false := by simp [inB]; omega
    clear hN
    go_enter Tryd.func14, Tryd.ntmps14
    go_wp2_with fail
    refine (isGraph_any _ _ _ f _ _ hn (((HA.out.alloc _).alloc _).alloc _)).mono ?_
    rintro e w1 ⟨rfl, hb1⟩
    have HX := hide (((Arr.box w 26 (.slice (some ⟨g, 0, none⟩) n c) (.bool own)).alloc (.cells #[.slice (some ⟨g', 0, none⟩) m c', .bool own] 26)).alloc (.cells #[.slice none 0 0, .bool false] 26) |>.all hb1)
    have HY := hide (((Arr.box_at (w.alloc (.cells #[.slice (some ⟨g, 0, none⟩) n c, .bool own] 26)) 26 (.slice (some ⟨g', 0, none⟩) m c') (.bool own) (b := w.heap.size + 1) (by simp)).alloc (.cells #[.slice none 0 0, .bool false] 26)).all hb1)
    have HR := hide ((Arr.box_at ((w.alloc (.cells #[.slice (some ⟨g, 0, none⟩) n c, .bool own] 26)).alloc (.cells #[.slice (some ⟨g', 0, none⟩) m c', .bool own] 26)) 26 (.slice none 0 0) (.bool false) (b := w.heap.size + 1 + 1) (by simp)).all hb1)
    have HA1' := hide ((((HA'.out.alloc _).alloc _).alloc _).all hb1)
    have HB := hide ((by go_grown : Below w.heap.size w _).trans (hb1.mono (by simp; omega)))
    have x0 : w1.cell? ⟨w.heap.size, 0, none⟩ = some (.slice (some ⟨g, 0, none⟩) n c) := HX.out.cell (by omega)
    have x1 : w1.cell? ⟨w.heap.size, 1, none⟩ = some (.bool own) := HX.out.cell (by omega)
    have y0 : w1.cell? ⟨w.heap.size + 1, 0, none⟩ = some (.slice (some ⟨g', 0, none⟩) m c') := HY.out.cell (by omega)
    have y1 : w1.cell? ⟨w.heap.size + 1, 1, none⟩ = some (.bool own) := HY.out.cell (by omega)
    clear hb1
    go_wp2_with fail
    refine (isGraph_any _ _ _ h _ _ hm HA1'.out).mono ?_
    rintro e w2 ⟨rfl, hb2⟩
    have HX2 := hide (HX.out.all hb2)
    have HY2 := hide (HY.out.all hb2)
    have HR2 := hide (HR.out.all hb2)
    have HB2 := hide (HB.out.trans (hb2.mono HB.out.size))
    clear hb2 x0 x1 y0 y1
    have x0 : w2.cell? ⟨w.heap.size, 0, none⟩ = some (.slice (some ⟨g, 0, none⟩) n c) := HX2.out.cell (by omega)
    have x1 : w2.cell? ⟨w.heap.size, 1, none⟩ = some (.bool own) := HX2.out.cell (by omega)
    have y0 : w2.cell? ⟨w.heap.size + 1, 0, none⟩ = some (.slice (some ⟨g', 0, none⟩) m c') := HY2.out.cell (by omega)
    have y1 : w2.cell? ⟨w.heap.size + 1, 1, none⟩ = some (.bool own) := HY2.out.cell (by omega)
    have r0 := HR2.out.cell (k := 0) (by omega)
    have r1 := HR2.out.cell (k := 1) (by omega)
    have z0 := HR2.out.frozen 0
    have z1 := HR2.out.frozen 1
    have hl := HR2.out.lt
    go_wp2_with fail
    refine (isCount_any _ _).mono ?_
    rintro e w9 ⟨rfl, rfl⟩
    go_wp2
    refine bodyPost_ret (v := .tuple #[.agg #[.slice none 0 0, .bool false], .bool false]) (by simp [results, Tryd.results14, go_sem, r0, r1]) rfl ?_
    exact ⟨rfl, by have h := HB2.out; have hz := h.size; go_grown⟩
theorem prodImpl_no (g n c g' m c' : Nat) (f h : Nat → Int) (own own2 : Bool) (w : World) (hn : n ≤ 1048576) (hm : m ≤ 1048576) (hno : (goodB n f && goodB m h && (own == own2) && decide (n * m ≤ 16)) = false) (ha : Arr w 3 g n (iv f)) (ha' : Arr w 3 g' m (iv h)) :
    Calls Tryd.prog 14 #[.agg #[.slice (some ⟨g, 0, none⟩) n c, .bool own], .agg #[.slice (some ⟨g', 0, none⟩) m c', .bool own2]] w (GraphNo w) := by
  cases h1 : goodB n f
  · exact prodImpl_a g n c g' m c' f h own own2 w hn hm h1 ha ha'
  · cases h2 : goodB m h
    · exact prodImpl_b g n c g' m c' f h own own2 w hn hm h1 h2 ha ha'
    · by_cases h3 : own = own2
      · by_cases h4 : 16 < n * m
        · exact prodImpl_d g n c g' m c' f h own own2 w hn hm h1 h2 h3 h4 ha ha'
        · simp [h1, h2, h3] at hno; omega
      · exact prodImpl_c g n c g' m c' f h own own2 w hn hm h1 h2 (by cases own <;> cases own2 <;> simp_all) ha ha'
theorem prodSpec_a (g n c g' m c' : Nat) (f h : Nat → Int) (own own2 : Bool) (w : World) (hn : n ≤ 1048576) (hm : m ≤ 1048576) (h1 : goodB n f = false) (ha : Arr w 3 g n (iv f)) (ha' : Arr w 3 g' m (iv h)) :
    Calls Tryd.prog 12 #[.agg #[.slice (some ⟨g, 0, none⟩) n c, .bool own], .agg #[.slice (some ⟨g', 0, none⟩) m c', .bool own2]] w (GraphNo w) := by
    have HA := hide ha
    have HA' := hide ha'
    clear ha ha'
    go_enter Tryd.func12, Tryd.ntmps12
    go_wp2_with fail
    refine (grGood_any _ _ _ f _ _ hn (((HA.out.alloc _).alloc _).alloc _)).mono ?_
    rintro e w1 ⟨rfl, hb1⟩
    have HX := hide (((Arr.box w 26 (.slice (some ⟨g, 0, none⟩) n c) (.bool own)).alloc (.cells #[.slice (some ⟨g', 0, none⟩) m c', .bool own2] 26)).alloc (.cells #[.slice none 0 0, .bool false] 26) |>.all hb1)
    have HY := hide (((Arr.box_at (w.alloc (.cells #[.slice (some ⟨g, 0, none⟩) n c, .bool own] 26)) 26 (.slice (some ⟨g', 0, none⟩) m c') (.bool own2) (b := w.heap.size + 1) (by simp)).alloc (.cells #[.slice none 0 0, .bool false] 26)).all hb1)
    have HR := hide ((Arr.box_at ((w.alloc (.cells #[.slice (some ⟨g, 0, none⟩) n c, .bool own] 26)).alloc (.cells #[.slice (some ⟨g', 0, none⟩) m c', .bool own2] 26)) 26 (.slice none 0 0) (.bool false) (b := w.heap.size + 1 + 1) (by simp)).all hb1)
    have HA1' := hide ((((HA'.out.alloc _).alloc _).alloc _).all hb1)
    have HB := hide ((by go_grown : Below w.heap.size w _).trans (hb1.mono (by simp; omega)))
    have x0 : w1.cell? ⟨w.heap.size, 0, none⟩ = some (.slice (some ⟨g, 0, none⟩) n c) := HX.out.cell (by omega)
    have x1 : w1.cell? ⟨w.heap.size, 1, none⟩ = some (.bool own) := HX.out.cell (by omega)
    have y0 : w1.cell? ⟨w.heap.size + 1, 0, none⟩ = some (.slice (some ⟨g', 0, none⟩) m c') := HY.out.cell (by omega)
    have y1 : w1.cell? ⟨w.heap.size + 1, 1, none⟩ = some (.bool own2) := HY.out.cell (by omega)
    clear hb1
    have r0 := HR.out.cell (k := 0) (by omega)
    have r1 := HR.out.cell (k := 1) (by omega)
    have z0 := HR.out.frozen 0
    have z1 := HR.out.frozen 1
    have hl := HR.out.lt
    go_wp2
    refine bodyPost_ret (v := .tuple #[.agg #[.slice none 0 0, .bool false], .bool false]) (by simp [results, Tryd.results12, go_sem, r0, r1]) rfl ?_
    exact ⟨rfl, by have h := HB.out; have hz := h.size; go_grown⟩
theorem prodSpec_b (g n c g' m c' : Nat) (f h : Nat → Int) (own own2 : Bool) (w : World) (hn : n ≤ 1048576) (hm : m ≤ 1048576) (h1 : goodB n f = true) (h2 : goodB m h = false) (ha : Arr w 3 g n (iv f)) (ha' : Arr w 3 g' m (iv h)) :
    Calls Tryd.prog 12 #[.agg #[.slice (some ⟨g, 0, none⟩) n c, .bool own], .agg #[.slice (some ⟨g', 0, none⟩) m c', .bool own2]] w (GraphNo w) := by
    have HA := hide ha
    have HA' := hide ha'
    clear ha ha'
    go_enter Tryd.func12, Tryd.ntmps12
    go_wp2_with fail
    refine (grGood_any _ _ _ f _ _ hn (((HA.out.alloc _).alloc _).alloc _)).mono ?_
    rintro e w1 ⟨rfl, hb1⟩
    have HX := hide (((Arr.box w 26 (.slice (some ⟨g, 0, none⟩) n c) (.bool own)).alloc (.cells #[.slice (some ⟨g', 0, none⟩) m c', .bool own2] 26)).alloc (.cells #[.slice none 0 0, .bool false] 26) |>.all hb1)
    have HY := hide (((Arr.box_at (w.alloc (.cells #[.slice (some ⟨g, 0, none⟩) n c, .bool own] 26)) 26 (.slice (some ⟨g', 0, none⟩) m c') (.bool own2) (b := w.heap.size + 1) (by simp)).alloc (.cells #[.slice none 0 0, .bool false] 26)).all hb1)
    have HR := hide ((Arr.box_at ((w.alloc (.cells #[.slice (some ⟨g, 0, none⟩) n c, .bool own] 26)).alloc (.cells #[.slice (some ⟨g', 0, none⟩) m c', .bool own2] 26)) 26 (.slice none 0 0) (.bool false) (b := w.heap.size + 1 + 1) (by simp)).all hb1)
    have HA1' := hide ((((HA'.out.alloc _).alloc _).alloc _).all hb1)
    have HB := hide ((by go_grown : Below w.heap.size w _).trans (hb1.mono (by simp; omega)))
    have x0 : w1.cell? ⟨w.heap.size, 0, none⟩ = some (.slice (some ⟨g, 0, none⟩) n c) := HX.out.cell (by omega)
    have x1 : w1.cell? ⟨w.heap.size, 1, none⟩ = some (.bool own) := HX.out.cell (by omega)
    have y0 : w1.cell? ⟨w.heap.size + 1, 0, none⟩ = some (.slice (some ⟨g', 0, none⟩) m c') := HY.out.cell (by omega)
    have y1 : w1.cell? ⟨w.heap.size + 1, 1, none⟩ = some (.bool own2) := HY.out.cell (by omega)
    clear hb1
    go_wp2_with fail
    refine (grGood_any _ _ _ h _ _ hm HA1'.out).mono ?_
    rintro e w2 ⟨rfl, hb2⟩
    have HX2 := hide (HX.out.all hb2)
    have HY2 := hide (HY.out.all hb2)
    have HR2 := hide (HR.out.all hb2)
    have HB2 := hide (HB.out.trans (hb2.mono HB.out.size))
    clear hb2 x0 x1 y0 y1
    have x0 : w2.cell? ⟨w.heap.size, 0, none⟩ = some (.slice (some ⟨g, 0, none⟩) n c) := HX2.out.cell (by omega)
    have x1 : w2.cell? ⟨w.heap.size, 1, none⟩ = some (.bool own) := HX2.out.cell (by omega)
    have y0 : w2.cell? ⟨w.heap.size + 1, 0, none⟩ = some (.slice (some ⟨g', 0, none⟩) m c') := HY2.out.cell (by omega)
    have y1 : w2.cell? ⟨w.heap.size + 1, 1, none⟩ = some (.bool own2) := HY2.out.cell (by omega)
    have r0 := HR2.out.cell (k := 0) (by omega)
    have r1 := HR2.out.cell (k := 1) (by omega)
    have z0 := HR2.out.frozen 0
    have z1 := HR2.out.frozen 1
    have hl := HR2.out.lt
    go_wp2
    refine bodyPost_ret (v := .tuple #[.agg #[.slice none 0 0, .bool false], .bool false]) (by simp [results, Tryd.results12, go_sem, r0, r1]) rfl ?_
    exact ⟨rfl, by have h := HB2.out; have hz := h.size; go_grown⟩
theorem prodSpec_c (g n c g' m c' : Nat) (f h : Nat → Int) (own own2 : Bool) (w : World) (hn : n ≤ 1048576) (hm : m ≤ 1048576) (h1 : goodB n f = true) (h2 : goodB m h = true) (h3 : own = true ∧ own2 = false ∨ own = false ∧ own2 = true) (ha : Arr w 3 g n (iv f)) (ha' : Arr w 3 g' m (iv h)) :
    Calls Tryd.prog 12 #[.agg #[.slice (some ⟨g, 0, none⟩) n c, .bool own], .agg #[.slice (some ⟨g', 0, none⟩) m c', .bool own2]] w (GraphNo w) := by
    have HA := hide ha
    have HA' := hide ha'
    clear ha ha'
    rcases h3 with ⟨rfl, rfl⟩ | ⟨rfl, rfl⟩
    · go_enter Tryd.func12, Tryd.ntmps12
      go_wp2_with fail
      refine (grGood_any _ _ _ f _ _ hn (((HA.out.alloc _).alloc _).alloc _)).mono ?_
      rintro e w1 ⟨rfl, hb1⟩
      have HX := hide (((Arr.box w 26 (.slice (some ⟨g, 0, none⟩) n c) (.bool true)).alloc (.cells #[.slice (some ⟨g', 0, none⟩) m c', .bool false] 26)).alloc (.cells #[.slice none 0 0, .bool false] 26) |>.all hb1)
      have HY := hide (((Arr.box_at (w.alloc (.cells #[.slice (some ⟨g, 0, none⟩) n c, .bool true] 26)) 26 (.slice (some ⟨g', 0, none⟩) m c') (.bool false) (b := w.heap.size + 1) (by simp)).alloc (.cells #[.slice none 0 0, .bool false] 26)).all hb1)
      have HR := hide ((Arr.box_at ((w.alloc (.cells #[.slice (some ⟨g, 0, none⟩) n c, .bool true] 26)).alloc (.cells #[.slice (some ⟨g', 0, none⟩) m c', .bool false] 26)) 26 (.slice none 0 0) (.bool false) (b := w.heap.size + 1 + 1) (by simp)).all hb1)
      have HA1' := hide ((((HA'.out.alloc _).alloc _).alloc _).all hb1)
      have HB := hide ((by go_grown : Below w.heap.size w _).trans (hb1.mono (by simp; omega)))
      have x0 : w1.cell? ⟨w.heap.size, 0, none⟩ = some (.slice (some ⟨g, 0, none⟩) n c) := HX.out.cell (by omega)
      have x1 : w1.cell? ⟨w.heap.size, 1, none⟩ = some (.bool true) := HX.out.cell (by omega)
      have y0 : w1.cell? ⟨w.heap.size + 1, 0, none⟩ = some (.slice (some ⟨g', 0, none⟩) m c') := HY.out.cell (by omega)
      have y1 : w1.cell? ⟨w.heap.size + 1, 1, none⟩ = some (.bool false) := HY.out.cell (by omega)
      clear hb1
      go_wp2_with fail
      refine (grGood_any _ _ _ h _ _ hm HA1'.out).mono ?_
      rintro e w2 ⟨rfl, hb2⟩
      have HX2 := hide (HX.out.all hb2)
      have HY2 := hide (HY.out.all hb2)
      have HR2 := hide (HR.out.all hb2)
      have HB2 := hide (HB.out.trans (hb2.mono HB.out.size))
      clear hb2 x0 x1 y0 y1
      have x0 : w2.cell? ⟨w.heap.size, 0, none⟩ = some (.slice (some ⟨g, 0, none⟩) n c) := HX2.out.cell (by omega)
      have x1 : w2.cell? ⟨w.heap.size, 1, none⟩ = some (.bool true) := HX2.out.cell (by omega)
      have y0 : w2.cell? ⟨w.heap.size + 1, 0, none⟩ = some (.slice (some ⟨g', 0, none⟩) m c') := HY2.out.cell (by omega)
      have y1 : w2.cell? ⟨w.heap.size + 1, 1, none⟩ = some (.bool false) := HY2.out.cell (by omega)
      have r0 := HR2.out.cell (k := 0) (by omega)
      have r1 := HR2.out.cell (k := 1) (by omega)
      have z0 := HR2.out.frozen 0
      have z1 := HR2.out.frozen 1
      have hl := HR2.out.lt
      go_wp2
      refine bodyPost_ret (v := .tuple #[.agg #[.slice none 0 0, .bool false], .bool false]) (by simp [results, Tryd.results12, go_sem, r0, r1]) rfl ?_
      exact ⟨rfl, by have h := HB2.out; have hz := h.size; go_grown⟩
    · go_enter Tryd.func12, Tryd.ntmps12
      go_wp2_with fail
      refine (grGood_any _ _ _ f _ _ hn (((HA.out.alloc _).alloc _).alloc _)).mono ?_
      rintro e w1 ⟨rfl, hb1⟩
      have HX := hide (((Arr.box w 26 (.slice (some ⟨g, 0, none⟩) n c) (.bool false)).alloc (.cells #[.slice (some ⟨g', 0, none⟩) m c', .bool true] 26)).alloc (.cells #[.slice none 0 0, .bool false] 26) |>.all hb1)
      have HY := hide (((Arr.box_at (w.alloc (.cells #[.slice (some ⟨g, 0, none⟩) n c, .bool false] 26)) 26 (.slice (some ⟨g', 0, none⟩) m c') (.bool true) (b := w.heap.size + 1) (by simp)).alloc (.cells #[.slice none 0 0, .bool false] 26)).all hb1)
      have HR := hide ((Arr.box_at ((w.alloc (.cells #[.slice (some ⟨g, 0, none⟩) n c, .bool false] 26)).alloc (.cells #[.slice (some ⟨g', 0, none⟩) m c', .bool true] 26)) 26 (.slice none 0 0) (.bool false) (b := w.heap.size + 1 + 1) (by simp)).all hb1)
      have HA1' := hide ((((HA'.out.alloc _).alloc _).alloc _).all hb1)
      have HB := hide ((by go_grown : Below w.heap.size w _).trans (hb1.mono (by simp; omega)))
      have x0 : w1.cell? ⟨w.heap.size, 0, none⟩ = some (.slice (some ⟨g, 0, none⟩) n c) := HX.out.cell (by omega)
      have x1 : w1.cell? ⟨w.heap.size, 1, none⟩ = some (.bool false) := HX.out.cell (by omega)
      have y0 : w1.cell? ⟨w.heap.size + 1, 0, none⟩ = some (.slice (some ⟨g', 0, none⟩) m c') := HY.out.cell (by omega)
      have y1 : w1.cell? ⟨w.heap.size + 1, 1, none⟩ = some (.bool true) := HY.out.cell (by omega)
      clear hb1
      go_wp2_with fail
      refine (grGood_any _ _ _ h _ _ hm HA1'.out).mono ?_
      rintro e w2 ⟨rfl, hb2⟩
      have HX2 := hide (HX.out.all hb2)
      have HY2 := hide (HY.out.all hb2)
      have HR2 := hide (HR.out.all hb2)
      have HB2 := hide (HB.out.trans (hb2.mono HB.out.size))
      clear hb2 x0 x1 y0 y1
      have x0 : w2.cell? ⟨w.heap.size, 0, none⟩ = some (.slice (some ⟨g, 0, none⟩) n c) := HX2.out.cell (by omega)
      have x1 : w2.cell? ⟨w.heap.size, 1, none⟩ = some (.bool false) := HX2.out.cell (by omega)
      have y0 : w2.cell? ⟨w.heap.size + 1, 0, none⟩ = some (.slice (some ⟨g', 0, none⟩) m c') := HY2.out.cell (by omega)
      have y1 : w2.cell? ⟨w.heap.size + 1, 1, none⟩ = some (.bool true) := HY2.out.cell (by omega)
      have r0 := HR2.out.cell (k := 0) (by omega)
      have r1 := HR2.out.cell (k := 1) (by omega)
      have z0 := HR2.out.frozen 0
      have z1 := HR2.out.frozen 1
      have hl := HR2.out.lt
      go_wp2
      refine bodyPost_ret (v := .tuple #[.agg #[.slice none 0 0, .bool false], .bool false]) (by simp [results, Tryd.results12, go_sem, r0, r1]) rfl ?_
      exact ⟨rfl, by have h := HB2.out; have hz := h.size; go_grown⟩
theorem prodSpec_d (g n c g' m c' : Nat) (f h : Nat → Int) (own own2 : Bool) (w : World) (hn : n ≤ 1048576) (hm : m ≤ 1048576) (h1 : goodB n f = true) (h2 : goodB m h = true) (h3 : own = own2) (h4 : 16 < n * m) (ha : Arr w 3 g n (iv f)) (ha' : Arr w 3 g' m (iv h)) :
    Calls Tryd.prog 12 #[.agg #[.slice (some ⟨g, 0, none⟩) n c, .bool own], .agg #[.slice (some ⟨g', 0, none⟩) m c', .bool own2]] w (GraphNo w) := by
    have HA := hide ha
    have HA' := hide ha'
    clear ha ha'
    subst h3
    have hoo : (own != own) = false := by simp
    have hn16 := (goodB_iff.1 h1).2.1
    have hm16 := (goodB_iff.1 h2).2.1
    have hN2 : n * m ≤ 256 := Nat.mul_le_mul hn16 hm16
    obtain ⟨N, hN⟩ : ∃ N, n * m = N := ⟨_, rfl⟩
    rw [hN] at h4 hN2
    have hNc : (n : Int) * (m : Int) = (N : Int) := by rw [← hN, Int.natCast_mul]
    have hNw : IntKind.i64.wrap (N : Int) = (N : Int) := IntWalk.i64_in _ (by omega)
    have hs : inB (N : Int) 1 16 = false := by simp [inB]; omega
    clear hN
    go_enter Tryd.func12, Tryd.ntmps12
    go_wp2_with fail
    refine (grGood_any _ _ _ f _ _ hn (((HA.out.alloc _).alloc _).alloc _)).mono ?_
    rintro e w1 ⟨rfl, hb1⟩
    have HX := hide (((Arr.box w 26 (.slice (some ⟨g, 0, none⟩) n c) (.bool own)).alloc (.cells #[.slice (some ⟨g', 0, none⟩) m c', .bool own] 26)).alloc (.cells #[.slice none 0 0, .bool false] 26) |>.all hb1)
    have HY := hide (((Arr.box_at (w.alloc (.cells #[.slice (some ⟨g, 0, none⟩) n c, .bool own] 26)) 26 (.slice (some ⟨g', 0, none⟩) m c') (.bool own) (b := w.heap.size + 1) (by simp)).alloc (.cells #[.slice none 0 0, .bool false] 26)).all hb1)
    have HR := hide ((Arr.box_at ((w.alloc (.cells #[.slice (some ⟨g, 0, none⟩) n c, .bool own] 26)).alloc (.cells #[.slice (some ⟨g', 0, none⟩) m c', .bool own] 26)) 26 (.slice none 0 0) (.bool false) (b := w.heap.size + 1 + 1) (by simp)).all hb1)
    have HA1' := hide ((((HA'.out.alloc _).alloc _).alloc _).all hb1)
    have HB := hide ((by go_grown : Below w.heap.size w _).trans (hb1.mono (by simp; omega)))
    have x0 : w1.cell? ⟨w.heap.size, 0, none⟩ = some (.slice (some ⟨g, 0, none⟩) n c) := HX.out.cell (by omega)
    have x1 : w1.cell? ⟨w.heap.size, 1, none⟩ = some (.bool own) := HX.out.cell (by omega)
    have y0 : w1.cell? ⟨w.heap.size + 1, 0, none⟩ = some (.slice (some ⟨g', 0, none⟩) m c') := HY.out.cell (by omega)
    have y1 : w1.cell? ⟨w.heap.size + 1, 1, none⟩ = some (.bool own) := HY.out.cell (by omega)
    clear hb1
    go_wp2_with fail
    refine (grGood_any _ _ _ h _ _ hm HA1'.out).mono ?_
    rintro e w2 ⟨rfl, hb2⟩
    have HX2 := hide (HX.out.all hb2)
    have HY2 := hide (HY.out.all hb2)
    have HR2 := hide (HR.out.all hb2)
    have HB2 := hide (HB.out.trans (hb2.mono HB.out.size))
    clear hb2 x0 x1 y0 y1
    have x0 : w2.cell? ⟨w.heap.size, 0, none⟩ = some (.slice (some ⟨g, 0, none⟩) n c) := HX2.out.cell (by omega)
    have x1 : w2.cell? ⟨w.heap.size, 1, none⟩ = some (.bool own) := HX2.out.cell (by omega)
    have y0 : w2.cell? ⟨w.heap.size + 1, 0, none⟩ = some (.slice (some ⟨g', 0, none⟩) m c') := HY2.out.cell (by omega)
    have y1 : w2.cell? ⟨w.heap.size + 1, 1, none⟩ = some (.bool own) := HY2.out.cell (by omega)
    have r0 := HR2.out.cell (k := 0) (by omega)
    have r1 := HR2.out.cell (k := 1) (by omega)
    have z0 := HR2.out.frozen 0
    have z1 := HR2.out.frozen 1
    have hl := HR2.out.lt
    go_wp2_with fail
    refine (grSize_any _ _).mono ?_
    rintro e w9 ⟨rfl, rfl⟩
    go_wp2
    refine bodyPost_ret (v := .tuple #[.agg #[.slice none 0 0, .bool false], .bool false]) (by simp [results, Tryd.results12, go_sem, r0, r1]) rfl ?_
    exact ⟨rfl, by have h := HB2.out; have hz := h.size; go_grown⟩
theorem prodSpec_no (g n c g' m c' : Nat) (f h : Nat → Int) (own own2 : Bool) (w : World) (hn : n ≤ 1048576) (hm : m ≤ 1048576) (hno : (goodB n f && goodB m h && (own == own2) && decide (n * m ≤ 16)) = false) (ha : Arr w 3 g n (iv f)) (ha' : Arr w 3 g' m (iv h)) :
    Calls Tryd.prog 12 #[.agg #[.slice (some ⟨g, 0, none⟩) n c, .bool own], .agg #[.slice (some ⟨g', 0, none⟩) m c', .bool own2]] w (GraphNo w) := by
  cases h1 : goodB n f
  · exact prodSpec_a g n c g' m c' f h own own2 w hn hm h1 ha ha'
  · cases h2 : goodB m h
    · exact prodSpec_b g n c g' m c' f h own own2 w hn hm h1 h2 ha ha'
    · by_cases h3 : own = own2
      · by_cases h4 : 16 < n * m
        · exact prodSpec_d g n c g' m c' f h own own2 w hn hm h1 h2 h3 h4 ha ha'
        · simp [h1, h2, h3] at hno; omega
      · exact prodSpec_c g n c g' m c' f h own own2 w hn hm h1 h2 (by cases own <;> cases own2 <;> simp_all) ha ha'
end Go.Proofs.YtdpoceijnbbmgaaDoor
