import Derived.Test.YtodbhokokdckkaaJS
namespace Go.Proofs.Ytodbhokokdckkaa
open Go.RowKit
set_option maxHeartbeats 1000000
theorem rowL_congr {n : Nat} {f f' : Nat → Value} (h : ∀ k, k < n → f k = f' k) : rowL n f = rowL n f' := by
  unfold rowL
  exact List.map_congr_left (fun k hk => h k (List.mem_range.1 hk))
theorem joinSpec_ok (g n c g' m c' : Nat) (F H : Nat → Nat) (own : Bool) (w : World) (hn1 : 0 < n) (hnm : n + m ≤ 16) (hH : ∀ k, k < m → H k < 2 ^ m) (hgd : goodB n (nv F) = true) (hgd' : goodB m (nv H) = true) (ha : Arr w 3 g n (iv (nv F))) (ha' : Arr w 3 g' m (iv (nv H))) :
    Calls Try.prog 22 #[.agg #[.slice (some ⟨g, 0, none⟩) n c, .bool own], .agg #[.slice (some ⟨g', 0, none⟩) m c', .bool own]] w (GraphOk w (n + m) (nv (joinF n F H)) own) := by
  obtain ⟨i0, hi, hz0, hz1, hz2⟩ := info_parts int_info
  have hoo : (own != own) = false := by simp
  have hoo2 : (own == own) = true := by simp
  have hs : inB ((n : Int) + m) 1 16 = true := by simp [inB]; omega
  have hgl := ha.lt
  have hgl' := ha'.lt
  have HA := hide ha
  have HA' := hide ha'
  have HH := hide hH
  clear ha ha' hH
  go_enter Try.func22, Try.ntmps22
  go_wp2_with fail
  refine (grGood_any _ _ _ (nv F) _ _ (by omega) (((HA.out.alloc _).alloc _).alloc _)).mono ?_
  rintro e w1 ⟨rfl, hb1⟩
  have HX := hide (((Arr.box w 26 (.slice (some ⟨g, 0, none⟩) n c) (.bool own)).alloc (.cells #[.slice (some ⟨g', 0, none⟩) m c', .bool own] 26)).alloc (.cells #[.slice none 0 0, .bool false] 26) |>.all hb1)
  have HY := hide (((Arr.box_at (w.alloc (.cells #[.slice (some ⟨g, 0, none⟩) n c, .bool own] 26)) 26 (.slice (some ⟨g', 0, none⟩) m c') (.bool own) (b := w.heap.size + 1) (by simp)).alloc (.cells #[.slice none 0 0, .bool false] 26)).all hb1)
  have HR := hide ((Arr.box_at ((w.alloc (.cells #[.slice (some ⟨g, 0, none⟩) n c, .bool own] 26)).alloc (.cells #[.slice (some ⟨g', 0, none⟩) m c', .bool own] 26)) 26 (.slice none 0 0) (.bool false) (b := w.heap.size + 1 + 1) (by simp)).all hb1)
  have HA1 := hide ((((HA.out.alloc _).alloc _).alloc _).all hb1)
  have HA1' := hide ((((HA'.out.alloc _).alloc _).alloc _).all hb1)
  have HB := hide ((by go_grown : Below w.heap.size w _).trans (hb1.mono (by simp; omega)))
  have x0 : w1.cell? ⟨w.heap.size, 0, none⟩ = some (.slice (some ⟨g, 0, none⟩) n c) := HX.out.cell (by omega)
  have x1 : w1.cell? ⟨w.heap.size, 1, none⟩ = some (.bool own) := HX.out.cell (by omega)
  have y0 : w1.cell? ⟨w.heap.size + 1, 0, none⟩ = some (.slice (some ⟨g', 0, none⟩) m c') := HY.out.cell (by omega)
  have y1 : w1.cell? ⟨w.heap.size + 1, 1, none⟩ = some (.bool own) := HY.out.cell (by omega)
  clear hb1
  go_wp2_with fail
  refine (grGood_any _ _ _ (nv H) _ _ (by omega) HA1'.out).mono ?_
  rintro e w2 ⟨rfl, hb2⟩
  have HX2 := hide (HX.out.all hb2)
  have HY2 := hide (HY.out.all hb2)
  have HR2 := hide (HR.out.all hb2)
  have HA2 := hide (HA1.out.all hb2)
  have HA2' := hide (HA1'.out.all hb2)
  have HB2 := hide (HB.out.trans (hb2.mono HB.out.size))
  have hsz := HB2.out.size
  clear hb2 x0 x1 y0 y1
  have x0 : w2.cell? ⟨w.heap.size, 0, none⟩ = some (.slice (some ⟨g, 0, none⟩) n c) := HX2.out.cell (by omega)
  have x1 : w2.cell? ⟨w.heap.size, 1, none⟩ = some (.bool own) := HX2.out.cell (by omega)
  have y0 : w2.cell? ⟨w.heap.size + 1, 0, none⟩ = some (.slice (some ⟨g', 0, none⟩) m c') := HY2.out.cell (by omega)
  have y1 : w2.cell? ⟨w.heap.size + 1, 1, none⟩ = some (.bool own) := HY2.out.cell (by omega)
  go_wp2_with fail
  refine (grSize_any _ _).mono ?_
  rintro e w9 ⟨rfl, rfl⟩
  go_wp2_with fail
  refine (grOwn_own _ _ _ (nv F) _ _ _ hn1 (by omega) HA2.out).mono ?_
  rintro e w3 ⟨B, A3, c3, hBB, rfl, ho3, hb3⟩
  have HX3 := hide (HX2.out.all hb3)
  have HY3 := hide (HY2.out.all hb3)
  have HR3 := hide (HR2.out.all hb3)
  have HA3' := hide (HA2'.out.all hb3)
  have HB3 := hide (HB2.out.trans (hb3.mono HB2.out.size))
  have hlx := HX3.out.lt
  have hly := HY3.out.lt
  have hlr : w.heap.size + 1 + 1 < w3.heap.size := HR3.out.lt
  have hBw : B ≤ w3.heap.size := by
    rcases ho3.2 with ⟨_, h0⟩ | ⟨g2, _, _, _, hg2, hh, _⟩
    · omega
    · have := (Array.getElem?_eq_some_iff.1 hh).1; omega
  have HO3 := hide ho3
  clear hb3 ho3 x0 x1 y0 y1
  have x0 : w3.cell? ⟨w.heap.size, 0, none⟩ = some (.slice (some ⟨g, 0, none⟩) n c) := HX3.out.cell (by omega)
  have x1 : w3.cell? ⟨w.heap.size, 1, none⟩ = some (.bool own) := HX3.out.cell (by omega)
  have y0 : w3.cell? ⟨w.heap.size + 1, 0, none⟩ = some (.slice (some ⟨g', 0, none⟩) m c') := HY3.out.cell (by omega)
  have y1 : w3.cell? ⟨w.heap.size + 1, 1, none⟩ = some (.bool own) := HY3.out.cell (by omega)
  have hsz3 := HB3.out.size
  have hwB : w.heap.size ≤ B := by omega
  go_wp2
  go_loopw [43] (fun i wr => ∃ k : Nat, k ≤ m ∧ i = .int .i64 k ∧ ∃ v, wr.ownsRow B 3 1 v (n + k) (rowL (n + k) (iv (nv (joinF n F H)))) ∧ Arr wr 26 w.heap.size 2 (bx (.slice (some ⟨g, 0, none⟩) n c) (.bool own)) ∧ Arr wr 26 (w.heap.size + 1 + 1) 2 (bx (.slice none 0 0) (.bool false)) ∧ Arr wr 26 w3.heap.size 2 (bx v (.bool own)) ∧ Below w.heap.size w wr)
    (fun i _ => m - (intOf i).toNat)
  case atStart =>
    refine ⟨0, by omega, rfl, _, ?_, HX3.out.alloc _, HR3.out.alloc _, Arr.box w3 26 _ _, by have h := HB3.out; go_grown⟩
    have e := rowL_congr (n := n) (f := iv (nv F)) (f' := iv (nv (joinF n F H))) (fun k hk => by simp [iv, nv, joinF, hk])
    have h := HO3.out.alloc (.cells #[.slice A3 n c3, .bool own] 26)
    rw [e] at h
    exact h
  case round =>
    obtain ⟨k, hk, rfl, v, ho, hx, hr, hb, hw⟩ := hrel
    obtain ⟨A, cp, rfl⟩ := own_form ho
    have x0 : wr.cell? ⟨w.heap.size, 0, none⟩ = some (.slice (some ⟨g, 0, none⟩) n c) := hx.cell (by omega)
    have d0 : wr.cell? ⟨w3.heap.size, 0, none⟩ = some (.slice A (n + k) cp) := hb.cell (by omega)
    have d1 : wr.cell? ⟨w3.heap.size, 1, none⟩ = some (.bool own) := hb.cell (by omega)
    have hlb := hb.lt
    have hlx := hx.lt
    have hlr' := hr.lt
    by_cases hlt : k < m
    · have hc : wr.cell? ⟨g', k, none⟩ = some (.int .i64 (H k : Nat)) := (HA'.out.below hw hgl').cell hlt
      have hV := shift_lt (HH.out k hlt) hnm
      obtain ⟨V, hVe⟩ : ∃ V, H k * 2 ^ n = V := ⟨_, rfl⟩
      have hVc : (H k : Int) * 2 ^ n = (V : Int) := by rw [← hVe, Int.natCast_mul, pow_nat]
      rw [hVe] at hV
      have hVw : IntKind.i64.wrap (V : Int) = (V : Int) := IntWalk.i64_in _ (by omega)
      have hVf : Hid (iv (nv (joinF n F H)) (n + k) = .int .i64 (V : Nat)) := hide (by simp [iv, nv, joinF, hVe, show ¬ n + k < n by omega])
      have HO := hide ho
      have HXr := hide hx
      have HRr := hide hr
      have HBr := hide hb
      have HWr := hide hw
      clear ho hx hr hb hw hVe
      go_wp2_with fail
      go_region_law (first | (refine step_append_one rfl (.tmp 48) (.tmp 54) 22 rfl B 3 i0 (.int .i64 0) 8 Try.underlying22 hi hz0 hz1 hz2 rfl A (n + k) cp (iv (nv (joinF n F H))) rfl (by exact (HO.out.alloc _)) wr.heap.size 1 rfl (by rw [hVf.out]; simp [go_sem]) rfl (by omega) (by omega) (by simp; omega) ?_; intro A' cp' w4 ho4 hg4 hat4; have hb4 := Arr.own_apart (Arr.drew (HBr.out.alloc _)) (by exact (HO.out.alloc _)) (by decide) hg4; have hx4 := Arr.own_apart (Arr.drew (HXr.out.alloc _)) (by exact (HO.out.alloc _)) (by decide) hg4; have hr4 := Arr.own_apart (Arr.drew (HRr.out.alloc _)) (by exact (HO.out.alloc _)) (by decide) hg4; have hw4 := Below.own_grown (Below.drew (HWr.out.alloc HWr.out.size _)) (by exact (HO.out.alloc _)) hg4 hwB (by simp; omega); have f0 := hb4.cell (k := 0) (by omega); have f1 := hb4.frozen 0; have HO4 := hide ho4; have HB4 := hide hb4; have HX4 := hide hx4; have HR4 := hide hr4; have HW4 := hide hw4; clear ho4 hg4 hat4 hb4 hx4 hr4 hw4))
      all_goals
        go_wp2
        go_roundw
        case rel =>
          refine ⟨k + 1, by omega, by go_num, _, own_far HO4.out HB4.out (by decide) _ _, HX4.out.far (by simp; omega) _, HR4.out.far (by simp; omega) _, (HB4.out.set 0 _).congr (fun j hj => ?_), HW4.out.setCell (by simp; omega) _⟩
          by_cases hj0 : j = 0
          · simp [hj0, bx]
          · simp [hj0, bx]
        case measure => simp [intOf]; omega
    · have hkm : k = m := by omega
      subst hkm
      obtain ⟨g2, c2, hv, hg2, ha2⟩ := own_pos ho (by omega)
      injection hv with hA _ hc
      subst hA hc
      have r0 := hr.cell (k := 0) (by omega)
      have r1 := hr.cell (k := 1) (by omega)
      have z0 := hr.frozen 0
      have z1 := hr.frozen 1
      have hne := ha2.ne_ hr (by decide)
      have HA2 := hide ha2
      have HW2 := hide hw
      clear ho hx hr hb hw ha2
      go_wp2
      refine bodyPost_ret (v := .tuple #[.agg #[.slice (some ⟨g2, 0, none⟩) (n + k) cp, .bool own], .bool true]) (by simp [results, Try.results22, go_sem, r0, r1]) rfl ?_
      have hsz2 := HW2.out.size
      exact ⟨g2, cp, rfl, by omega, (HA2.out.far (by simpa using hne) _).far (by simpa using hne) _, by have h := HW2.out; go_grown⟩
end Go.Proofs.Ytodbhokokdckkaa
