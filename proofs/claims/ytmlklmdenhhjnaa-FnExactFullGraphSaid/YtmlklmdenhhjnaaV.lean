import Derived.Test.YtmlklmdenhhjnaaT
import Derived.Test.YtmlklmdenhhjnaaU
namespace Go.Proofs.Ytmlklmdenhhjnaa
open Go.RowKit
set_option maxHeartbeats 400000
/-- All buttons but i. -/
def fullF (n : Nat) : Nat → Int := fun i => 2 ^ n - 1 - 2 ^ i
theorem fullSpec_no (a : Int) (own : Bool) (w : World) (h : inB a 1 16 = false) : Calls Try.prog 49 #[.int .i64 a, .bool own] w (GraphNo w) := by
  go_enter Try.func49, Try.ntmps49
  go_wp2_with (go_at_call 65; refine (grSize_any _ _).mono ?_; rintro e w' ⟨rfl, rfl⟩)
  refine bodyPost_ret (v := .tuple #[.agg #[.slice none 0 0, .bool false], .bool false]) (by simp [results, Try.results49, go_sem]) rfl ?_
  exact ⟨rfl, by go_grown⟩
theorem fullSpec_ok (n : Nat) (own : Bool) (w : World) (h1 : 1 ≤ n) (h3 : n ≤ 16) : Calls Try.prog 49 #[.int .i64 n, .bool own] w (GraphOk w n (fullF n) own) := by
  have hs : inB n 1 16 = true := by simp [inB]; omega
  have hp := pow16 h3
  obtain ⟨i0, hi, hz0, hz1, hz2⟩ := info_parts int_info
  go_enter Try.func49, Try.ntmps49
  go_wp2_with (go_at_call 65; refine (grSize_any _ _).mono ?_; rintro e w' ⟨rfl, rfl⟩)
  go_loopw [7] (fun i wr => ∃ k : Nat, k ≤ n ∧ i = .int .i64 k ∧ ∃ v, wr.ownsRow (w.heap.size + 1 + 1) 3 1 v k (rowL k (iv (fullF n))) ∧ Arr wr 27 w.heap.size 2 (bx (.slice none 0 0) (.bool false)) ∧ Arr wr 27 (w.heap.size + 1) 2 (bx v (.bool own)) ∧ Below w.heap.size w wr)
    (fun i _ => n - (intOf i).toNat)
  case atStart => exact ⟨0, by omega, rfl, _, World.ownsRow_nil _ _ _ _, (Arr.box w 27 _ _).alloc _, Arr.box_at (w.alloc _) 27 _ _ (by simp), by go_grown⟩
  case round =>
    obtain ⟨k, hk, rfl, v, ho, hr, hb, hw⟩ := hrel
    obtain ⟨A, cp, rfl⟩ := own_form ho
    have c0 : wr.cell? ⟨w.heap.size + 1, 0, none⟩ = some (.slice A k cp) := hb.cell (by omega)
    have c1 : wr.cell? ⟨w.heap.size + 1, 1, none⟩ = some (.bool own) := hb.cell (by omega)
    have z0 := hb.frozen 0
    have hl := hb.lt
    by_cases hlt : k < n
    · have hpk := pow16 (show k ≤ 16 by omega)
      have hpk2 : (2 : Int) ^ k ≤ 2 ^ n := by
        rw [← pow_nat, ← pow_nat]
        exact Int.ofNat_le.2 (Nat.pow_le_pow_right (by decide) hk)
      have HO := hide ho
      have HR := hide hr
      have HB := hide hb
      have HW := hide hw
      clear ho hr hb hw
      go_wp2_with fail
      have e1 : IntKind.i64.wrap (2 ^ n) = 2 ^ n := IntWalk.i64_in _ (by omega)
      have e2 : IntKind.i64.wrap (2 ^ n - 1) = 2 ^ n - 1 := IntWalk.i64_in _ (by omega)
      have e3 : IntKind.i64.wrap (2 ^ k) = 2 ^ k := IntWalk.i64_in _ (by omega)
      have e4 : IntKind.i64.wrap (2 ^ n - 1 - 2 ^ k) = 2 ^ n - 1 - 2 ^ k := IntWalk.i64_in _ (by omega)
      have hsz := HW.out.size
      go_region_law (first | (refine step_append_one rfl (.tmp 20) (.tmp 27) 22 rfl (w.heap.size + 1 + 1) 3 i0 (.int .i64 0) 8 Try.underlying22 hi hz0 hz1 hz2 rfl A k cp (iv (fullF n)) rfl (by exact (HO.out.alloc _)) wr.heap.size 1 rfl (by simp [go_sem, iv, fullF]) rfl (by omega) (by omega) (by simp; omega) ?_; intro A' cp' w1 ho1 hg1 hat1; have hb1 := Arr.own_grown (Arr.drew (HB.out.alloc _)) (by exact (HO.out.alloc _)) hg1 (by omega); have hr1 := Arr.own_grown (Arr.drew (HR.out.alloc _)) (by exact (HO.out.alloc _)) hg1 (by omega); have hw1 := Below.own_grown (Below.drew (HW.out.alloc hsz _)) (by exact (HO.out.alloc _)) hg1 (by omega) (by simp; omega); have d0 := hb1.cell (k := 0) (by omega); have dz := hb1.frozen 0; have HO1 := hide ho1; have HB1 := hide hb1; have HR1 := hide hr1; have HW1 := hide hw1; clear ho1 hg1 hat1 hb1 hr1 hw1))
      all_goals
        go_wp2
        go_roundw
        case rel =>
          refine ⟨k + 1, by omega, by go_num, _, own_setCell HO1.out ?_ _, HR1.out.far (by simp) _, (HB1.out.set 0 _).congr (fun j hj => ?_), HW1.out.setCell (by simp) _⟩
          · intro he
            have := (HO1.out.lt _ he).1
            change w.heap.size + 1 + 1 ≤ w.heap.size + 1 at this
            omega
          · by_cases hj0 : j = 0
            · simp [hj0, bx]
            · simp [hj0, bx]
        case measure => simp [intOf]; omega
    · have hkn : k = n := by omega
      subst hkn
      obtain ⟨g, c, hv, hg, ha⟩ := own_pos ho (by omega)
      injection hv with hA _ hc
      subst hA hc
      have r0 := hr.cell (k := 0) (by omega)
      have r1 := hr.cell (k := 1) (by omega)
      have y0 := hr.frozen 0
      have y1 := hr.frozen 1
      have HA := hide ha
      have HW := hide hw
      clear ho hr hb hw ha
      go_wp2
      refine bodyPost_ret (v := .tuple #[.agg #[.slice (some ⟨g, 0, none⟩) k cp, .bool own], .bool true]) (by simp [results, Try.results49, go_sem, r0, r1]) rfl ?_
      have hsz := HW.out.size
      exact ⟨_, _, rfl, by omega, (HA.out.far (by simp; omega) _).far (by simp; omega) _, by have h := HW.out; go_grown⟩
set_option maxRecDepth 100000 in
theorem full_bits : ∀ n, n < 17 → ∀ k, k < n → bits .andNot .i64 ((2 : Int) ^ n - 1) ((2 : Int) ^ k) = (2 : Int) ^ n - 1 - (2 : Int) ^ k := by decide +kernel
theorem fullImpl_no (a : Int) (own : Bool) (w : World) (h : inB a 1 16 = false) : Calls Try.prog 50 #[.int .i64 a, .bool own] w (GraphNo w) := by
  go_enter Try.func50, Try.ntmps50
  go_wp2_with (go_at_call 61; refine (isCount_any _ _).mono ?_; rintro e w' ⟨rfl, rfl⟩)
  refine bodyPost_ret (v := .tuple #[.agg #[.slice none 0 0, .bool false], .bool false]) (by simp [results, Try.results50, go_sem]) rfl ?_
  exact ⟨rfl, by go_grown⟩
theorem fullImpl_ok (n : Nat) (own : Bool) (w : World) (h1 : 1 ≤ n) (h3 : n ≤ 16) : Calls Try.prog 50 #[.int .i64 n, .bool own] w (GraphOk w n (fullF n) own) := by
  have hs : inB n 1 16 = true := by simp [inB]; omega
  have hp := pow16 h3
  have hmk := run_make_row' (P := Try.prog) 22 3 (.int .i64 0) 8 Try.underlying22 int_info rfl .i64 .i64 n (by omega) (by omega)
  go_enter Try.func50, Try.ntmps50
  go_wp2_with (go_at_call 61; refine (isCount_any _ _).mono ?_; rintro e w' ⟨rfl, rfl⟩)
  go_loopw [16] (fun i wr => ∃ k : Nat, k ≤ n ∧ i = .int .i64 k ∧ Arr wr 3 (w.heap.size + 1) n (fun j => if j < k then iv (fullF n) j else .int .i64 0) ∧ Arr wr 27 w.heap.size 2 (bx (.slice none 0 0) (.bool false)) ∧ Below w.heap.size w wr)
    (fun i _ => n - (intOf i).toNat)
  case atStart => exact ⟨0, by omega, rfl, Arr.made_at (w.alloc _) _ n 3 (by simp) (fun k hk => by simp), (Arr.box w 27 _ _).alloc _, by go_grown⟩
  case round =>
    obtain ⟨k, hk, rfl, ha, hr, hw⟩ := hrel
    by_cases hlt : k < n
    · have hpk := pow16 (show k ≤ 16 by omega)
      have hc := ha.cell hlt
      have hz := ha.frozen k
      have HA := hide ha
      have HR := hide hr
      have HW := hide hw
      clear ha hr hw
      have e1 : IntKind.i64.wrap (2 ^ n) = 2 ^ n := IntWalk.i64_in _ (by omega)
      have e2 : IntKind.i64.wrap (2 ^ n - 1) = 2 ^ n - 1 := IntWalk.i64_in _ (by omega)
      have e3 : IntKind.i64.wrap (2 ^ k) = 2 ^ k := IntWalk.i64_in _ (by omega)
      have e4 := full_bits n (by omega) k hlt
      go_wp2
      go_region
      all_goals
        go_wp2
        go_roundw
        case rel =>
          refine ⟨k + 1, by omega, by go_num, ((HA.out.set k _).congr (fun j hj => ?_)).drew, HR.out.far (by simp) _, (HW.out.setCell (by simp) _).drew⟩
          by_cases hjk : j = k
          · subst hjk; simp [iv, fullF]
          · simp only [hjk, if_false]
            by_cases h2 : j < k
            · rw [if_pos h2, if_pos (by omega)]
            · rw [if_neg h2, if_neg (by omega)]
        case measure => simp [intOf]; omega
    · have hkn : k = n := by omega
      subst hkn
      have r0 := hr.cell (k := 0) (by omega)
      have r1 := hr.cell (k := 1) (by omega)
      have y0 := hr.frozen 0
      have y1 := hr.frozen 1
      have HA := hide (ha.congr (f' := iv (fullF k)) (fun j hj => by rw [if_pos hj]))
      have HW := hide hw
      clear hr hw ha
      go_wp2
      refine bodyPost_ret (v := .tuple #[.agg #[.slice (some ⟨w.heap.size + 1, 0, none⟩) k k, .bool own], .bool true]) (by simp [results, Try.results50, go_sem, r0, r1]) rfl ?_
      have hsz := HW.out.size
      exact ⟨_, _, rfl, by omega, (HA.out.far (by simp) _).far (by simp) _, by have h := HW.out; go_grown⟩
theorem lawFull (a : Int) (own : Bool) (w : World) : Calls Try.prog 13 #[.int .i64 a, .bool own] w fun e w' => e = .returned (.bool true) ∧ Below w.heap.size w w' := by
  cases h : inB a 1 16
  · exact lawFull_no a own w (fun w => fullSpec_no a own w h) (fun w => fullImpl_no a own w h)
  · simp only [inB, decide_eq_true_eq] at h
    obtain ⟨n, rfl⟩ : ∃ n : Nat, a = n := ⟨a.toNat, by omega⟩
    exact lawFull_ok n own n _ own w (by omega) (fun w => fullSpec_ok n own w (by omega) (by omega)) (fun w => fullImpl_ok n own w (by omega) (by omega))
end Go.Proofs.Ytmlklmdenhhjnaa
