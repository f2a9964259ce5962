/-
TorusNullity: both sides, and the statement, walked.
-/
import Derived.Test.YtdpoceijnbbmgaaDoorOR
import Derived.Test.YtdpoceijnbbmgaaDoorCG
namespace Go.Proofs.YtdpoceijnbbmgaaDoor
open Go.RowKit
set_option maxHeartbeats 4000000
/-- The neighbours in a circle. -/
def cF (n : Nat) : Nat → Nat := lk 0 (n - 1) (pathF (n - 1))
theorem cF_lt : ∀ n, n < 17 → 3 ≤ n → ∀ k, k < n → cF n k < 2 ^ n := by decide +kernel
theorem cF_sym : ∀ n, n < 17 → 3 ≤ n → ∀ i, i < n → (cF n i).testBit i = false ∧ ∀ j, j < n → (cF n i).testBit j = (cF n j).testBit i := by decide +kernel
theorem cF_good (n : Nat) (h : n < 17) (h3 : 3 ≤ n) : goodB n (nv (cF n)) = true := by
  have hs := cF_sym n h h3
  have hl := cF_lt n h h3
  refine goodB_yes ⟨by omega, by omega, fun k hk => ?_, fun i hi j hj hb => ?_⟩
  · have := hl k hk
    rw [pow_i]
    simp only [nv]
    omega
  · simp only [nv] at hb ⊢
    rw [bt_nat] at hb ⊢
    refine ⟨fun e => ?_, by rw [← (hs i hi).2 j hj]; exact hb⟩
    subst e
    rw [(hs i hi).1] at hb
    cases hb
theorem tnSpec_a (r c : Int) (own : Bool) (w : World) (HA : Hid (inB r 3 40 = false)) :
    Calls Tryd.prog 34 #[.int .i64 r, .int .i64 c, .bool own] w fun e w' => e = .returned (.tuple #[.int .i64 0, .bool false]) ∧ Below w.heap.size w w' := by
  go_enter Tryd.func34, Tryd.ntmps34
  go_wp2_with fail
  refine (l1InG_any _ _ _ _).mono ?_
  rintro e w' ⟨rfl, hw⟩
  subst w'
  rw [HA.out]
  go_wp2
  go_ret2
  exact ⟨rfl, Below.refl _ _⟩
theorem tnSpec_b (r c : Int) (own : Bool) (w : World) (HA : Hid (inB r 3 40 = true)) (HB : Hid (inB c 3 16 = false)) :
    Calls Tryd.prog 34 #[.int .i64 r, .int .i64 c, .bool own] w fun e w' => e = .returned (.tuple #[.int .i64 0, .bool false]) ∧ Below w.heap.size w w' := by
  go_enter Tryd.func34, Tryd.ntmps34
  go_wp2_with fail
  refine (l1InG_any _ _ _ _).mono ?_
  rintro e w' ⟨rfl, hw⟩
  subst w'
  rw [HA.out]
  go_wp2_with fail
  refine (l1InG_any _ _ _ _).mono ?_
  rintro e w' ⟨rfl, hw⟩
  subst w'
  rw [HB.out]
  go_wp2
  go_ret2
  exact ⟨rfl, Below.refl _ _⟩
theorem tnSpec_ok (r c : Nat) (own : Bool) (w : World) (hr : r ≤ 40) (h3 : 3 ≤ c) (hc : c ≤ 16) (HA : Hid (inB r 3 40 = true)) (HB : Hid (inB c 3 16 = true)) :
    Calls Tryd.prog 34 #[.int .i64 r, .int .i64 c, .bool own] w fun e w' => e = .returned (.tuple #[.int .i64 (ccN c (cF c) own r : Nat), .bool true]) ∧ Below w.heap.size w w' := by
  go_enter Tryd.func34, Tryd.ntmps34
  go_wp2_with fail
  refine (l1InG_any _ _ _ _).mono ?_
  rintro e w' ⟨rfl, hw⟩
  subst w'
  rw [HA.out]
  go_wp2_with fail
  refine (l1InG_any _ _ _ _).mono ?_
  rintro e w' ⟨rfl, hw⟩
  subst w'
  rw [HB.out]
  go_wp2_with fail
  refine (grCircle_ok c own _ h3 hc).mono ?_
  rintro e w1 ⟨g, cp, rfl, hg, ha, hb⟩
  have HAA := hide ha
  have HBB := hide hb
  clear ha hb
  go_wp2_with fail
  refine (prCircle_any g c cp r (cF c) own _ (by omega) hc (by omega) (cF_lt c (by omega) h3) HAA.out).mono ?_
  rintro e w2 ⟨rfl, hb2⟩
  have HB2 := hide (HBB.out.trans (hb2.mono HBB.out.size))
  go_wp2
  go_ret2
  exact ⟨rfl, HB2.out⟩
theorem tnImpl_b (r c : Int) (own : Bool) (w : World) (HB : Hid (inB c 3 16 = false)) :
    Calls Tryd.prog 35 #[.int .i64 r, .int .i64 c, .bool own] w fun e w' => e = .returned (.tuple #[.int .i64 0, .bool false]) ∧ Below w.heap.size w w' := by
  go_enter Tryd.func35, Tryd.ntmps35
  go_wp2_with fail
  refine (circleImpl_no c own _ HB.out).mono ?_
  rintro e w1 ⟨rfl, hb⟩
  have HBB := hide hb
  clear hb
  go_wp2
  go_ret2
  exact ⟨rfl, by have h := HBB.out; have hz := h.size; go_grown⟩
theorem tnImpl_a (r : Int) (c : Nat) (own : Bool) (w : World) (h3 : 3 ≤ c) (hc : c ≤ 16) (HA : Hid (inB r 3 40 = false)) :
    Calls Tryd.prog 35 #[.int .i64 r, .int .i64 c, .bool own] w fun e w' => e = .returned (.tuple #[.int .i64 0, .bool false]) ∧ Below w.heap.size w w' := by
  have HGD := hide (cF_good c (by omega) h3)
  go_enter Tryd.func35, Tryd.ntmps35
  go_wp2_with fail
  refine (circleImpl_ok c own _ h3 hc).mono ?_
  rintro e w1 ⟨g, cp, rfl, hg, ha, hb⟩
  have hb1 : Below w.heap.size w w1 := hb
  have HAA := hide (ha.alloc (.cells #[.slice (some ⟨g, 0, none⟩) c cp, .bool own] 26))
  have HBB := hide (hb1.alloc hb1.size (.cells #[.slice (some ⟨g, 0, none⟩) c cp, .bool own] 26))
  clear ha hb hb1
  go_wp2_with fail
  refine (ccImpl_b g c cp (cF c) own r _ hc HGD.out HAA.out HA.out).mono ?_
  rintro e w2 ⟨rfl, hb2⟩
  have HB2 := hide (HBB.out.trans (hb2.mono HBB.out.size))
  go_wp2
  go_ret2
  exact ⟨rfl, HB2.out⟩
theorem tnImpl_ok (r c : Nat) (own : Bool) (w : World) (h3r : 3 ≤ r) (hr : r ≤ 40) (h3 : 3 ≤ c) (hc : c ≤ 16) (hT : Tab w) (HA : Hid (inB r 3 40 = true)) :
    Calls Tryd.prog 35 #[.int .i64 r, .int .i64 c, .bool own] w fun e w' => e = .returned (.tuple #[.int .i64 (ccN c (cF c) own r : Nat), .bool true]) ∧ Below w.heap.size w w' := by
  have HGD := hide (cF_good c (by omega) h3)
  have HT := hide hT
  clear hT
  go_enter Tryd.func35, Tryd.ntmps35
  go_wp2_with fail
  refine (circleImpl_ok c own _ h3 hc).mono ?_
  rintro e w1 ⟨g, cp, rfl, hg, ha, hb⟩
  have hb1 : Below w.heap.size w w1 := hb
  have HAA := hide (ha.alloc (.cells #[.slice (some ⟨g, 0, none⟩) c cp, .bool own] 26))
  have HBB := hide (hb1.alloc hb1.size (.cells #[.slice (some ⟨g, 0, none⟩) c cp, .bool own] 26))
  clear ha hb hb1
  go_wp2_with fail
  refine (ccImpl_ok g c cp r (cF c) own _ (by omega) hc (cF_lt c (by omega) h3) HGD.out (HT.out.below HBB.out) HAA.out h3r hr HA.out).mono ?_
  rintro e w2 ⟨rfl, hb2⟩
  have HB2 := hide (HBB.out.trans (hb2.mono HBB.out.size))
  go_wp2
  go_ret2
  exact ⟨rfl, HB2.out⟩
theorem lawTorus_same (r c v : Int) (own ok : Bool) (w : World) (HT : Hid (Tab w)) (HS : Hid (∀ w, Calls Tryd.prog 34 #[.int .i64 r, .int .i64 c, .bool own] w fun e w' => e = .returned (.tuple #[.int .i64 v, .bool ok]) ∧ Below w.heap.size w w'))
    (HI : Hid (∀ w, Tab w → Calls Tryd.prog 35 #[.int .i64 r, .int .i64 c, .bool own] w fun e w' => e = .returned (.tuple #[.int .i64 v, .bool ok]) ∧ Below w.heap.size w w')) :
    Calls Tryd.prog 10 #[.int .i64 r, .int .i64 c, .bool own] w fun e w' => e = .returned (.bool true) ∧ Below w.heap.size w w' := by
  go_enter Tryd.func10, Tryd.ntmps10
  go_wp2_with fail
  refine (HS.out _).mono ?_
  rintro e w1 ⟨rfl, hb1⟩
  have HB1 := hide hb1
  clear hb1
  go_wp2_with fail
  refine (HI.out _ (HT.out.below HB1.out)).mono ?_
  rintro e w2 ⟨rfl, hb⟩
  have HB2 := hide (HB1.out.trans (hb.mono HB1.out.size))
  go_wp2
  go_ret
  exact ⟨rfl, HB2.out⟩
theorem lawTorusNullity (r c : Int) (own : Bool) (w : World) (hT : Tab w) : Calls Tryd.prog 10 #[.int .i64 r, .int .i64 c, .bool own] w fun e w' => e = .returned (.bool true) ∧ Below w.heap.size w w' := by
  cases h2 : inB c 3 16
  · cases h1 : inB r 3 40
    · exact lawTorus_same r c 0 own false w (hide hT) (hide fun w => tnSpec_a r c own w (hide h1)) (hide fun w _ => tnImpl_b r c own w (hide h2))
    · exact lawTorus_same r c 0 own false w (hide hT) (hide fun w => tnSpec_b r c own w (hide h1) (hide h2)) (hide fun w _ => tnImpl_b r c own w (hide h2))
  · obtain ⟨C, rfl, h3, h16⟩ : ∃ C : Nat, c = C ∧ 3 ≤ C ∧ C ≤ 16 := by
      simp only [inB, decide_eq_true_eq] at h2
      exact ⟨c.toNat, by omega, by omega, by omega⟩
    cases h1 : inB r 3 40
    · exact lawTorus_same r C 0 own false w (hide hT) (hide fun w => tnSpec_a r C own w (hide h1)) (hide fun w _ => tnImpl_a r C own w h3 h16 (hide h1))
    · obtain ⟨R, rfl, h3r, h40⟩ : ∃ R : Nat, r = R ∧ 3 ≤ R ∧ R ≤ 40 := by
        simp only [inB, decide_eq_true_eq] at h1
        exact ⟨r.toNat, by omega, by omega, by omega⟩
      exact lawTorus_same R C _ own true w (hide hT) (hide fun w => tnSpec_ok R C own w h40 h3 h16 (hide h1) (hide h2)) (hide fun w ht => tnImpl_ok R C own w h3r h40 h3 h16 ht (hide h1))
end Go.Proofs.YtdpoceijnbbmgaaDoor
