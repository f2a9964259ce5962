/-
MatchingSize: both sides.
-/
import Derived.Test.YtmcimfblhpflnaaDoorVJ
namespace Go.Proofs.YtmcimfblhpflnaaDoor
open Go.RowKit
set_option maxHeartbeats 2000000
noncomputable def mszOut (F : Nat → Nat) (n : Nat) : Value := if treeB F n = true then .tuple #[.int .i64 ((matchL F n).length : Nat), .bool true] else .tuple #[.int .i64 0, .bool false]
theorem mszOut_two (F : Nat → Nat) (n : Nat) : ∃ v b, mszOut F n = .tuple #[.int .i64 v, .bool b] := by
  unfold mszOut
  by_cases h : treeB F n = true
  · rw [if_pos h]; exact ⟨_, _, rfl⟩
  · rw [if_neg h]; exact ⟨_, _, rfl⟩
theorem mszSpec_no (g n c : Nat) (f : Nat → Int) (own : Bool) (w : World) (hn : n ≤ 1048576) (hno : goodB n f = false) (ha : Arr w 3 g n (iv f)) :
    Calls Tryd.prog 36 #[.agg #[.slice (some ⟨g, 0, none⟩) n c, .bool own]] w fun e w' => e = .returned (.tuple #[.int .i64 0, .bool false]) ∧ Below w.heap.size w w' := by
  have HA := hide ha
  clear ha
  go_enter Tryd.func36, Tryd.ntmps36
  go_wp2_with fail
  refine (grGood_any _ _ _ f _ _ hn (HA.out.alloc _)).mono ?_
  rintro e w1 ⟨rfl, hb1⟩
  rw [hno]
  have HB1 := hide ((by go_grown : Below w.heap.size w _).trans (hb1.mono (by simp)))
  clear hb1
  go_wp2
  go_ret2
  exact ⟨rfl, HB1.out⟩
theorem mszSpec_v (g n c : Nat) (F : Nat → Nat) (own : Bool) (v : Int) (b : Bool) (w : World) (hv : mszOut F n = .tuple #[.int .i64 v, .bool b]) (hn : n ≤ 16) (hG : goodB n (nv F) = true) (ha : Arr w 3 g n (iv (nv F))) :
    Calls Tryd.prog 36 #[.agg #[.slice (some ⟨g, 0, none⟩) n c, .bool own]] w fun e w' => e = .returned (.tuple #[.int .i64 v, .bool b]) ∧ Below w.heap.size w w' := by
  have HA := hide ha
  clear ha
  have HG := hide (goodB_iff.1 hG)
  have HV := hide hv
  clear hv
  have hgb := hG
  go_enter Tryd.func36, Tryd.ntmps36
  go_wp2_with fail
  refine (grGood_any _ _ _ (nv F) _ _ (by omega) (HA.out.alloc _)).mono ?_
  rintro e w1 ⟨rfl, hb1⟩
  rw [hgb]
  have hp := (Arr.box w 28 (.slice (some ⟨g, 0, none⟩) n c) (.bool own)).all hb1
  have c0 : w1.cell? ⟨w.heap.size, 0, none⟩ = some (.slice (some ⟨g, 0, none⟩) n c) := hp.cell (by omega)
  have c1 : w1.cell? ⟨w.heap.size, 1, none⟩ = some (.bool own) := hp.cell (by omega)
  have hl := hp.lt
  have HA1 := hide ((HA.out.alloc (.cells #[.slice (some ⟨g, 0, none⟩) n c, .bool own] 28)).all hb1)
  have HB1 := hide ((by go_grown : Below w.heap.size w _).trans (hb1.mono (by simp)))
  clear hb1 hp
  go_wp2_with fail
  refine (trMt_any _ n _ F _ _ hn HG.out HA1.out).mono ?_
  rintro e w2 (⟨ht, rfl, hb2⟩ | ⟨ht, A, m, c', Q, rfl, h2, h3, h4, hb2⟩)
  · have HB2 := hide (HB1.out.trans (hb2.mono HB1.out.size))
    have HT := hide ht
    clear hb2 ht
    go_wp2
    go_ret2
    refine ⟨?_, HB2.out⟩
    have h := HV.out
    unfold mszOut at h
    rw [if_neg (by rw [HT.out]; simp)] at h
    rw [← h]
    rfl
  · have HB2 := hide (HB1.out.trans (hb2.mono HB1.out.size))
    have HT := hide ht
    have hm : m = (matchL F n).length := by rw [← h2, ← h3, List.length_map]
    have HM := hide hm
    clear hb2 ht h4 h3 hm
    go_wp2
    go_ret2
    refine ⟨?_, HB2.out⟩
    have h := HV.out
    unfold mszOut at h
    rw [if_pos HT.out, ← HM.out] at h
    rw [← h]
    rfl
theorem mszImpl_none (g n c : Nat) (own : Bool) (w : World)
    (H : Hid (∀ w', Below w.heap.size w w' → Calls Tryd.prog 57 #[.agg #[.slice (some ⟨g, 0, none⟩) n c, .bool own]] w' (ForestNo w'))) :
    Calls Tryd.prog 37 #[.agg #[.slice (some ⟨g, 0, none⟩) n c, .bool own]] w fun e w' => e = .returned (.tuple #[.int .i64 0, .bool false]) ∧ Below w.heap.size w w' := by
  go_enter Tryd.func37, Tryd.ntmps37
  go_wp2_with fail
  refine (mtImpl_none g n c own _ (hide fun w' hb => H.out w' ((by go_grown : Below w.heap.size w _).trans (hb.mono (by simp))))).mono ?_
  rintro e w1 ⟨rfl, hb1⟩
  have HB1 := hide ((by go_grown : Below w.heap.size w _).trans (hb1.mono (by simp)))
  clear hb1
  go_wp2
  go_ret2
  exact ⟨rfl, HB1.out⟩
theorem mszImpl_no (g n c : Nat) (f : Nat → Int) (own : Bool) (w : World) (hn : n ≤ 1048576) (hno : goodB n f = false) (ha : Arr w 3 g n (iv f)) (hT : Tab w) (hw1 : 1 < w.heap.size) :
    Calls Tryd.prog 37 #[.agg #[.slice (some ⟨g, 0, none⟩) n c, .bool own]] w fun e w' => e = .returned (.tuple #[.int .i64 0, .bool false]) ∧ Below w.heap.size w w' :=
  mszImpl_none g n c own w (hide fun w' hb => forestOf_no g n c f own w' hn hno (ha.all hb) (hT.below hb) (Nat.lt_of_lt_of_le hw1 hb.size))
theorem mszImpl_v (g n c : Nat) (F : Nat → Nat) (own : Bool) (v : Int) (b : Bool) (w : World) (hv : mszOut F n = .tuple #[.int .i64 v, .bool b]) (hn : n ≤ 16) (hG : goodB n (nv F) = true) (ha : Arr w 3 g n (iv (nv F))) (hT : Tab w) (hw1 : 1 < w.heap.size) :
    Calls Tryd.prog 37 #[.agg #[.slice (some ⟨g, 0, none⟩) n c, .bool own]] w fun e w' => e = .returned (.tuple #[.int .i64 v, .bool b]) ∧ Below w.heap.size w w' := by
  cases ht : treeB F n
  · have h := mszImpl_none g n c own w (hide fun w' hb => forestOf_nt g n c F own w' hn hG ht (ha.all hb) (hT.below hb) (Nat.lt_of_lt_of_le hw1 hb.size))
    unfold mszOut at hv
    rw [if_neg (by rw [ht]; simp)] at hv
    rw [← hv]
    exact h
  · have HA := hide ha
    have HT := hide hT
    have HV := hide hv
    clear ha hT hv
    go_enter Tryd.func37, Tryd.ntmps37
    go_wp2_with fail
    refine (mtImpl_ok g n c F own _ hn hG ht (HA.out.alloc _) (HT.out.below (by go_grown)) (by simp; omega)).mono ?_
    rintro e w1 ⟨A, m, c', Q, rfl, h2, h3, h4, hb1⟩
    have HB1 := hide ((by go_grown : Below w.heap.size w _).trans (hb1.mono (by simp)))
    have hm : m = (matchL F n).length := by rw [← h2, ← h3, List.length_map]
    have HM := hide hm
    clear hb1 h4 h3 hm
    go_wp2
    go_ret2
    refine ⟨?_, HB1.out⟩
    have h := HV.out
    unfold mszOut at h
    rw [if_pos ht, ← HM.out] at h
    rw [← h]
    rfl
end Go.Proofs.YtmcimfblhpflnaaDoor
