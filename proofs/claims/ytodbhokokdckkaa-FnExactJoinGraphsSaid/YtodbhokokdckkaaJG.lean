import Derived.Test.YtodbhokokdckkaaWO
namespace Go.Proofs.Ytodbhokokdckkaa
open Go.RowKit
set_option maxHeartbeats 400000
/-- Two graphs side by side. -/
def joinF (n : Nat) (F H : Nat → Nat) : Nat → Nat := fun k => if k < n then F k else H (k - n) * 2 ^ n
theorem shift_lt {n m x : Nat} (hx : x < 2 ^ m) (h : n + m ≤ 16) : x * 2 ^ n < 65536 := by
  have h1 : x * 2 ^ n < 2 ^ m * 2 ^ n := Nat.mul_lt_mul_of_pos_right hx (Nat.two_pow_pos n)
  rw [← Nat.pow_add] at h1
  exact Nat.lt_of_lt_of_le h1 (Nat.pow_le_pow_right (n := 2) (j := 16) (by decide) (by omega))
theorem joinImpl_ok (g n c g' m c' : Nat) (F H : Nat → Nat) (own : Bool) (w : World) (hnm : n + m ≤ 16) (hH : ∀ k, k < m → H k < 2 ^ m) (hgd : goodB n (nv F) = true) (hgd' : goodB m (nv H) = true) (ha : Arr w 3 g n (iv (nv F))) (ha' : Arr w 3 g' m (iv (nv H))) :
    Calls Try.prog 24 #[.agg #[.slice (some ⟨g, 0, none⟩) n c, .bool own], .agg #[.slice (some ⟨g', 0, none⟩) m c', .bool own]] w (GraphOk w (n + m) (nv (joinF n F H)) own) := by
  have hmk := run_make_row' (P := Try.prog) 22 3 (.int .i64 0) 8 Try.underlying22 int_info rfl .i64 .i64 (n + m) (by omega) (by omega)
  have hmk2 : ∀ w, (Instr.makeSlice 22 (.int .i64 ((n : Int) + (m : Int))) (.int .i64 ((n : Int) + (m : Int)))).run Try.prog w = .ok (.slice (some ⟨w.heap.size, 0, none⟩) (n + m) (n + m)) (w.alloc (.cells (madeCells #[.int .i64 0] (n + m)) 3)) := fun w => by
    have := hmk w
    rwa [Int.natCast_add] at this
  have hoo : (own != own) = false := by simp
  have hoo2 : (own == own) = true := by simp
  have HA := hide ha
  have HA' := hide ha'
  have HH := hide hH
  clear ha ha' hH hmk
  go_enter Try.func24, Try.ntmps24
  go_wp2_with fail
  refine (isGraph_any _ _ _ (nv F) _ _ (by omega) (((HA.out.alloc _).alloc _).alloc _)).mono ?_
  rintro e w1 ⟨rfl, hb1⟩
  have HX := hide (((Arr.box w 26 (.slice (some ⟨g, 0, none⟩) n c) (.bool own)).alloc (.cells #[.slice (some ⟨g', 0, none⟩) m c', .bool own] 26)).alloc (.cells #[.slice none 0 0, .bool false] 26) |>.all hb1)
  have HY := hide (((Arr.box_at (w.alloc (.cells #[.slice (some ⟨g, 0, none⟩) n c, .bool own] 26)) 26 (.slice (some ⟨g', 0, none⟩) m c') (.bool own) (b := w.heap.size + 1) (by simp)).alloc (.cells #[.slice none 0 0, .bool false] 26)).all hb1)
  have HR := hide ((Arr.box_at ((w.alloc (.cells #[.slice (some ⟨g, 0, none⟩) n c, .bool own] 26)).alloc (.cells #[.slice (some ⟨g', 0, none⟩) m c', .bool own] 26)) 26 (.slice none 0 0) (.bool false) (b := w.heap.size + 1 + 1) (by simp)).all hb1)
  have HA1 := hide ((((HA.out.alloc _).alloc _).alloc _).all hb1)
  have HA1' := hide ((((HA'.out.alloc _).alloc _).alloc _).all hb1)
  have HB := hide ((by go_grown : Below w.heap.size w _).trans (hb1.mono (by simp; omega)))
  have x0 : w1.cell? ⟨w.heap.size, 0, none⟩ = some (.slice (some ⟨g, 0, none⟩) n c) := HX.out.cell (by omega)
  have x1 : w1.cell? ⟨w.heap.size, 1, none⟩ = some (.bool own) := HX.out.cell (by omega)
  have y0 : w1.cell? ⟨w.heap.size + 1, 0, none⟩ = some (.slice (some ⟨g', 0, none⟩) m c') := HY.out.cell (by omega)
  have y1 : w1.cell? ⟨w.heap.size + 1, 1, none⟩ = some (.bool own) := HY.out.cell (by omega)
  clear hb1
  go_wp2_with fail
  refine (isGraph_any _ _ _ (nv H) _ _ (by omega) HA1'.out).mono ?_
  rintro e w2 ⟨rfl, hb2⟩
  have HX2 := hide (HX.out.all hb2)
  have HY2 := hide (HY.out.all hb2)
  have HR2 := hide (HR.out.all hb2)
  have HA2 := hide (HA1.out.all hb2)
  have HA2' := hide (HA1'.out.all hb2)
  have HB2 := hide (HB.out.trans (hb2.mono HB.out.size))
  have hl := HX2.out.lt
  have hl' := HY2.out.lt
  have hsz := HB2.out.size
  have hlr : w.heap.size + 1 + 1 < w2.heap.size := HR2.out.lt
  clear hb2 x0 x1 y0 y1
  have x0 : w2.cell? ⟨w.heap.size, 0, none⟩ = some (.slice (some ⟨g, 0, none⟩) n c) := HX2.out.cell (by omega)
  have x1 : w2.cell? ⟨w.heap.size, 1, none⟩ = some (.bool own) := HX2.out.cell (by omega)
  have y0 : w2.cell? ⟨w.heap.size + 1, 0, none⟩ = some (.slice (some ⟨g', 0, none⟩) m c') := HY2.out.cell (by omega)
  have y1 : w2.cell? ⟨w.heap.size + 1, 1, none⟩ = some (.bool own) := HY2.out.cell (by omega)
  go_wp2_with ((with_reducible refine wpList_copy_arr rfl (.tmp 42) (.tmp 44) 22 rfl 3 Try.underlying22 int_size w2.heap.size (n + m) (n + m) n c (some ⟨g, 0, none⟩) (iv (nv F)) (fun _ => .int .i64 0) rfl rfl (Nat.le_add_right _ _) (Arr.made w2 _ (n + m) 3) (Src.of_arr (HA2.out.alloc _)) (fun _ _ => rfl) ?_); intro w3 ha3 hg3; have HX3 := hide ((HX2.out.alloc _).grown hg3 (by omega)); have HY3 := hide ((HY2.out.alloc _).grown hg3 (by omega)); have x0 : w3.cell? ⟨w.heap.size, 0, none⟩ = some (.slice (some ⟨g, 0, none⟩) n c) := HX3.out.cell (k := 0) (by omega); have x1 : w3.cell? ⟨w.heap.size, 1, none⟩ = some (.bool own) := HX3.out.cell (k := 1) (by omega); have y0 : w3.cell? ⟨w.heap.size + 1, 0, none⟩ = some (.slice (some ⟨g', 0, none⟩) m c') := HY3.out.cell (k := 0) (by omega); have y1 : w3.cell? ⟨w.heap.size + 1, 1, none⟩ = some (.bool own) := HY3.out.cell (k := 1) (by omega); have HA3 := hide ha3; have HG3 := hide hg3; clear ha3 hg3)
  have hz3 := HG3.out.size
  simp only [World.size_alloc] at hz3
  have HB3 := hide ((HB2.out.trans (by go_grown : Below w.heap.size w2 _)).grown HG3.out (by simp; omega) (fun k hk => by injection hk; omega))
  have HR3 := hide ((HR2.out.alloc _).grown HG3.out (by have := HR2.out.lt; omega))
  have hg'l := HA2'.out.lt
  have HA3' := hide ((HA2'.out.alloc _).grown HG3.out (by omega))
  go_loopw [49] (fun i wr => ∃ k : Nat, k ≤ m ∧ i = .int .i64 k ∧ Arr wr 3 w2.heap.size (n + m) (fun j => if j < n + k then iv (nv (joinF n F H)) j else .int .i64 0) ∧ w3.grownBy wr (some w2.heap.size))
    (fun i _ => m - (intOf i).toNat)
  case atStart =>
    refine ⟨0, by omega, rfl, HA3.out.congr (fun j hj => ?_), World.grownBy.refl _ _⟩
    by_cases h : j < n
    · rw [if_pos h, if_pos (by omega)]; simp [iv, nv, joinF, h]
    · rw [if_neg h, if_neg (by omega)]
  case round =>
    obtain ⟨k, hk, rfl, ha, hg⟩ := hrel
    have X := HX3.out.grown hg (by omega)
    have Y := HY3.out.grown hg (by omega)
    have x0 : wr.cell? ⟨w.heap.size, 0, none⟩ = some (.slice (some ⟨g, 0, none⟩) n c) := X.cell (by omega)
    have x1 : wr.cell? ⟨w.heap.size, 1, none⟩ = some (.bool own) := X.cell (by omega)
    have hzr := hg.size
    have R := HR3.out.grown hg (by omega)
    by_cases hlt : k < m
    · have hc : wr.cell? ⟨g', k, none⟩ = some (.int .i64 (H k : Nat)) := (HA3'.out.grown hg (by omega)).cell hlt
      have hV := shift_lt (HH.out k hlt) hnm
      obtain ⟨V, hVe⟩ : ∃ V, H k * 2 ^ n = V := ⟨_, rfl⟩
      have hVc : (H k : Int) * 2 ^ n = (V : Int) := by rw [← hVe, Int.natCast_mul, pow_nat]
      rw [hVe] at hV
      have hd := ha.cell (k := n + k) (by omega)
      have hfz := ha.frozen (n + k)
      have HVE := hide hVe
      have HAr := hide ha
      have HGr := hide hg
      clear ha hg X Y R hVe
      go_wp2
      go_roundw
      case rel =>
        refine ⟨k + 1, by omega, by go_num, (HAr.out.set (n + k) _).congr (fun j hj => ?_), grownBy_setCell HGr.out _⟩
        by_cases hjk : j = n + k
        · subst hjk; simp [iv, nv, joinF, HVE.out, show ¬ n + k < n by omega]
        · simp only [hjk, if_false]
          by_cases h2 : j < n + k
          · rw [if_pos h2, if_pos (by omega)]
          · rw [if_neg h2, if_neg (by omega)]
      case measure => simp [intOf]; omega
    · have hkm : k = m := by omega
      subst hkm
      have r0 := R.cell (k := 0) (by omega)
      have r1 := R.cell (k := 1) (by omega)
      have z0 := R.frozen 0
      have z1 := R.frozen 1
      have HAr := hide (ha.congr (f' := iv (nv (joinF n F H))) (fun j hj => by rw [if_pos hj]))
      have HW := hide (HB3.out.grown hg (by omega) (fun j hj => by injection hj; omega))
      clear ha hg X Y R
      go_wp2
      refine bodyPost_ret (v := .tuple #[.agg #[.slice (some ⟨w2.heap.size, 0, none⟩) (n + k) (n + k), .bool own], .bool true]) (by simp [results, Try.results24, go_sem, r0, r1]) rfl ?_
      have hs := HW.out.size
      exact ⟨_, _, rfl, by omega, (HAr.out.far (by simp; omega) _).far (by simp; omega) _, by have h := HW.out; go_grown⟩
end Go.Proofs.Ytodbhokokdckkaa
