import Derived.Test.YtmlklmdenhhjnaaR
namespace Go.Proofs.Ytmlklmdenhhjnaa
open Go.RowKit
set_option maxHeartbeats 400000
theorem grCircle_ok (n : Nat) (own : Bool) (w : World) (h1 : 3 ≤ n) (h3 : n ≤ 16) : Calls Try.prog 82 #[.int .i64 n, .bool own] w (GraphVal w n (nv (lk 0 (n - 1) (pathF (n - 1)))) own) := by
  go_enter Try.func82, Try.ntmps82
  go_wp2_with fail
  refine (grPath_any n own _ (by omega) h3).mono ?_
  rintro e w1 ⟨g, cp, rfl, hg, ha, hb⟩
  simp only [World.size_alloc] at hg
  have hgl := ha.lt
  have hz := hb.size
  simp only [World.size_alloc] at hz
  have HA := hide ha
  have HR := hide ((Arr.box w 27 _ _).all hb)
  have HB := hide ((by go_grown : Below w.heap.size w _).trans (hb.mono (show w.heap.size ≤ _ by simp)))
  clear ha hb
  go_wp2_with fail
  refine (grAdd_at _ _ _ _ _ 0 (n - 1) _ _ _ h3 (by omega) (by omega) rfl (by omega) (fun j hj => pathF_lt _ (by omega) j (by omega)) (HA.out.alloc _)).mono ?_
  rintro e w2 ⟨rfl, ha2, hg2⟩
  have hb2 := (Arr.box w1 27 _ _).grown hg2 (by omega)
  have hr2 := (HR.out.alloc _).grown hg2 (by omega)
  have hz2 := hg2.size
  simp only [World.size_alloc] at hz2
  have r0 := hr2.cell (k := 0) (by omega)
  have r1 := hr2.cell (k := 1) (by omega)
  have z0 := hr2.frozen 0
  have z1 := hr2.frozen 1
  have c0 : w2.cell? ⟨w1.heap.size, 0, none⟩ = some (.slice (some ⟨g, 0, none⟩) n cp) := hb2.cell (by omega)
  have c1 : w2.cell? ⟨w1.heap.size, 1, none⟩ = some (.bool own) := hb2.cell (by omega)
  have HB2 := hide (((HB.out.trans (by go_grown : Below w.heap.size w1 _)).grown hg2 (by simp; omega) (fun k hk => by injection hk; omega)))
  have HA2 := hide ha2
  clear ha2 hg2 hb2 hr2
  go_wp2
  refine bodyPost_ret (v := .agg #[.slice (some ⟨g, 0, none⟩) n cp, .bool own]) (by simp [results, Try.results82, go_sem, r0, r1]) rfl ?_
  exact ⟨g, cp, rfl, by omega, (HA2.out.far (by simp; omega) _).far (by simp; omega) _, by have h := HB2.out; go_grown⟩
theorem circleSpec_no (a : Int) (own : Bool) (w : World) (h : inB a 3 16 = false) : Calls Try.prog 43 #[.int .i64 a, .bool own] w (GraphNo w) := by
  go_enter Try.func43, Try.ntmps43
  go_wp2_with (go_at_call 81; refine (l1In_any _ _ _ _).mono ?_; rintro e w' ⟨rfl, rfl⟩)
  refine bodyPost_ret (v := .tuple #[.agg #[.slice none 0 0, .bool false], .bool false]) (by simp [results, Try.results43, go_sem]) rfl ?_
  exact ⟨rfl, by go_grown⟩
theorem circleSpec_ok (n : Nat) (own : Bool) (w : World) (h1 : 3 ≤ n) (h3 : n ≤ 16) : Calls Try.prog 43 #[.int .i64 n, .bool own] w (GraphOk w n (nv (lk 0 (n - 1) (pathF (n - 1)))) own) := by
  have hs : inB n 3 16 = true := by simp [inB]; omega
  go_enter Try.func43, Try.ntmps43
  go_wp2_with fail
  refine (l1In_any _ _ _ _).mono ?_
  rintro e w' ⟨rfl, rfl⟩
  go_wp2_with fail
  refine (grCircle_ok n own _ h1 h3).mono ?_
  rintro e w1 ⟨g, cp, rfl, hg, ha, hb⟩
  simp only [World.size_alloc] at hg
  have hr2 := (Arr.box w 27 _ _).all hb
  have hz := hb.size
  simp only [World.size_alloc] at hz
  have r0 := hr2.cell (k := 0) (by omega)
  have r1 := hr2.cell (k := 1) (by omega)
  have z0 := hr2.frozen 0
  have z1 := hr2.frozen 1
  have HA := hide ha
  have HB := hide ((by go_grown : Below w.heap.size w _).trans (hb.mono (show w.heap.size ≤ _ by simp)))
  clear ha hb hr2
  go_wp2
  refine bodyPost_ret (v := .tuple #[.agg #[.slice (some ⟨g, 0, none⟩) n cp, .bool own], .bool true]) (by simp [results, Try.results43, go_sem, r0, r1]) rfl ?_
  exact ⟨g, cp, rfl, by omega, (HA.out.far (by simp; omega) _).far (by simp; omega) _, by have h := HB.out; go_grown⟩

theorem circleImpl_no (a : Int) (own : Bool) (w : World) (h : inB a 3 16 = false) : Calls Try.prog 44 #[.int .i64 a, .bool own] w (GraphNo w) := by
  cases h1 : inB a 1 16
  · go_enter Try.func44, Try.ntmps44
    go_wp2_with fail
    refine (pathImpl_no _ _ _ h1).mono ?_
    rintro e w1 ⟨rfl, hb⟩
    have hr2 := (Arr.box w 27 _ _).all hb
    have hz := hb.size
    simp only [World.size_alloc] at hz
    have hl : w.heap.size < w1.heap.size := by omega
    have r0 := hr2.cell (k := 0) (by omega)
    have r1 := hr2.cell (k := 1) (by omega)
    have z0 := hr2.frozen 0
    have z1 := hr2.frozen 1
    have HB := hide ((by go_grown : Below w.heap.size w _).trans (hb.mono (show w.heap.size ≤ _ by simp)))
    clear hb hr2
    go_wp2
    refine bodyPost_ret (v := .tuple #[.agg #[.slice none 0 0, .bool false], .bool false]) (by simp [results, Try.results44, go_sem, r0, r1, hl]) rfl ?_
    exact ⟨rfl, by have h := HB.out; go_grown⟩
  · simp only [inB, decide_eq_true_eq, decide_eq_false_iff_not] at h1 h
    obtain ⟨n, rfl⟩ : ∃ n : Nat, a = n := ⟨a.toNat, by omega⟩
    have hn3 : n < 3 := by omega
    go_enter Try.func44, Try.ntmps44
    go_wp2_with fail
    refine (pathImpl_ok n own _ (by omega) (by omega)).mono ?_
    rintro e w1 ⟨g, cp, rfl, hg, ha, hb⟩
    have hr2 := (Arr.box w 27 _ _).all hb
    have hz := hb.size
    simp only [World.size_alloc] at hz
    have hl : w.heap.size < w1.heap.size := by omega
    have r0 := hr2.cell (k := 0) (by omega)
    have r1 := hr2.cell (k := 1) (by omega)
    have z0 := hr2.frozen 0
    have z1 := hr2.frozen 1
    have HB := hide ((by go_grown : Below w.heap.size w _).trans (hb.mono (show w.heap.size ≤ _ by simp)))
    clear hb hr2 ha hg
    go_wp2
    refine bodyPost_ret (v := .tuple #[.agg #[.slice none 0 0, .bool false], .bool false]) (by simp [results, Try.results44, go_sem, r0, r1, hl]) rfl ?_
    exact ⟨rfl, by have h := HB.out; go_grown⟩
theorem circleImpl_ok (n : Nat) (own : Bool) (w : World) (h1 : 3 ≤ n) (h3 : n ≤ 16) : Calls Try.prog 44 #[.int .i64 n, .bool own] w (GraphOk w n (nv (lk 0 (n - 1) (pathF (n - 1)))) own) := by
  go_enter Try.func44, Try.ntmps44
  go_wp2_with fail
  refine (pathImpl_ok n own _ (by omega) h3).mono ?_
  rintro e w1 ⟨g, cp, rfl, hg, ha, hb⟩
  simp only [World.size_alloc] at hg
  have hgl := ha.lt
  have hz := hb.size
  simp only [World.size_alloc] at hz
  have HA := hide ha
  have HR := hide ((Arr.box w 27 _ _).all hb)
  have HB := hide ((by go_grown : Below w.heap.size w _).trans (hb.mono (show w.heap.size ≤ _ by simp)))
  clear ha hb
  go_wp2_with fail
  refine (link_at _ _ _ _ 0 (n - 1) _ _ _ h3 (by omega) (by omega) rfl (by omega) (fun j hj => pathF_lt _ (by omega) j (by omega)) (HA.out.alloc _)).mono ?_
  rintro e w2 ⟨rfl, ha2, hg2⟩
  have hb2 := (Arr.box w1 27 _ _).grown hg2 (by omega)
  have hr2 := (HR.out.alloc _).grown hg2 (by omega)
  have hz2 := hg2.size
  simp only [World.size_alloc] at hz2
  have r0 := hr2.cell (k := 0) (by omega)
  have r1 := hr2.cell (k := 1) (by omega)
  have z0 := hr2.frozen 0
  have z1 := hr2.frozen 1
  have c0 : w2.cell? ⟨w1.heap.size, 0, none⟩ = some (.slice (some ⟨g, 0, none⟩) n cp) := hb2.cell (by omega)
  have c1 : w2.cell? ⟨w1.heap.size, 1, none⟩ = some (.bool own) := hb2.cell (by omega)
  have HB2 := hide (((HB.out.trans (by go_grown : Below w.heap.size w1 _)).grown hg2 (by simp; omega) (fun k hk => by injection hk; omega)))
  have HA2 := hide ha2
  clear ha2 hg2 hb2 hr2
  go_wp2
  refine bodyPost_ret (v := .tuple #[.agg #[.slice (some ⟨g, 0, none⟩) n cp, .bool own], .bool true]) (by simp [results, Try.results44, go_sem, r0, r1]) rfl ?_
  exact ⟨g, cp, rfl, by omega, (HA2.out.far (by simp; omega) _).far (by simp; omega) _, by have h := HB2.out; go_grown⟩
theorem lawCircle (a : Int) (own : Bool) (w : World) : Calls Try.prog 10 #[.int .i64 a, .bool own] w fun e w' => e = .returned (.bool true) ∧ Below w.heap.size w w' := by
  cases h : inB a 3 16
  · exact lawCircle_no a own w (fun w => circleSpec_no a own w h) (fun w => circleImpl_no a own w h)
  · simp only [inB, decide_eq_true_eq] at h
    obtain ⟨n, rfl⟩ : ∃ n : Nat, a = n := ⟨a.toNat, by omega⟩
    exact lawCircle_ok n own n _ own w (by omega) (fun w => circleSpec_ok n own w (by omega) (by omega)) (fun w => circleImpl_ok n own w (by omega) (by omega))
end Go.Proofs.Ytmlklmdenhhjnaa
