/-
CountByStates and LeastByStates: the model's side.
-/
import Derived.Test.YtmcimfblhpflnaaDoorZd
import Derived.Test.YtmcimfblhpflnaaDoorTY
import Derived.Test.YtmcimfblhpflnaaDoorBK
import Derived.Test.YtmcimfblhpflnaaDoorZB
namespace Go.Proofs.YtmcimfblhpflnaaDoor
open Go.RowKit
set_option maxHeartbeats 4000000
/-- Is s a set of buttons of a graph? -/
noncomputable def setB (n : Nat) (f : Nat → Int) (s : Int) : Bool := goodB n f && inB s 0 (2 ^ n - 1)
theorem Good.n16 {n : Nat} {f : Nat → Int} (h : Good n f) : n ≤ 16 := h.2.1
theorem grSet_any (g n c : Nat) (f : Nat → Int) (own : Bool) (i : Int) (w : World) (hn : n ≤ 1048576) (ha : Arr w 3 g n (iv f)) :
    Calls Tryd.prog 63 #[.agg #[.slice (some ⟨g, 0, none⟩) n c, .bool own], .int .i64 i] w fun e w' => e = .returned (.bool (setB n f i)) ∧ Below w.heap.size w w' := by
  have HA := hide ha
  clear ha
  cases hgd : goodB n f
  · go_enter Tryd.func63, Tryd.ntmps63
    go_wp2_with fail
    refine (grGood_any _ _ _ f _ _ hn (HA.out.alloc _)).mono ?_
    rintro e w1 ⟨rfl, hb⟩
    go_wp2
    go_ret
    exact ⟨by simp [setB, hgd], (by go_grown : Below w.heap.size w _).trans (hb.mono (by simp))⟩
  · have hn16 := (goodB_iff.1 hgd).n16
    have hp := pow16 hn16
    go_enter Tryd.func63, Tryd.ntmps63
    go_wp2_with fail
    refine (grGood_any _ _ _ f _ _ hn (HA.out.alloc _)).mono ?_
    rintro e w1 ⟨rfl, hb⟩
    obtain ⟨hc, hf⟩ := bcell hb
    have hz := hb.size
    simp only [World.size_alloc] at hc hf hz
    have HB := hide (hb.mono (show w.heap.size ≤ _ by simp))
    clear hb
    go_wp2_with fail
    refine (l1InG_any _ _ _ _).mono ?_
    rintro e w2 ⟨rfl, rfl⟩
    go_wp2
    go_ret
    exact ⟨by simp [setB, hgd], (by go_grown : Below w.heap.size w _).trans HB.out⟩
/-- What tells how many there are. -/
noncomputable def cOut (F : Nat → Nat) (own : Bool) (L n : Nat) : Value := if treeB F n = true then .tuple #[.int .i64 ((sN F own L n).1 : Nat), .bool true] else .tuple #[.int .i64 0, .bool false]
noncomputable def lOut (F : Nat → Nat) (own : Bool) (L n : Nat) : Value := if treeB F n = true ∧ (sN F own L n).1 ≠ 0 then .tuple #[.int .i64 ((sN F own L n).2 : Nat), .bool true] else .tuple #[.int .i64 0, .bool false]
theorem box28 {w w1 : World} {v0 v1 : Value} (hb : Below (w.alloc (.cells #[v0, v1] 28)).heap.size (w.alloc (.cells #[v0, v1] 28)) w1) :
    w1.cell? ⟨w.heap.size, 0, none⟩ = some v0 ∧ w1.cell? ⟨w.heap.size, 1, none⟩ = some v1 ∧ w.heap.size < w1.heap.size := by
  have h := (Arr.box w 28 v0 v1).all hb
  exact ⟨h.cell (by omega), h.cell (by omega), h.lt⟩
theorem cntSpec_no (g n c : Nat) (f : Nat → Int) (own : Bool) (s : Int) (w : World) (hn : n ≤ 1048576) (hno : setB n f s = false) (ha : Arr w 3 g n (iv f)) :
    Calls Tryd.prog 38 #[.agg #[.slice (some ⟨g, 0, none⟩) n c, .bool own], .int .i64 s] w fun e w' => e = .returned (.tuple #[.int .i64 0, .bool false]) ∧ Below w.heap.size w w' := by
  have HA := hide ha
  clear ha
  go_enter Tryd.func38, Tryd.ntmps38
  go_wp2_with fail
  refine (grSet_any _ _ _ f _ s _ hn (HA.out.alloc _)).mono ?_
  rintro e w1 ⟨rfl, hb1⟩
  rw [hno]
  have HB1 := hide ((by go_grown : Below w.heap.size w _).trans (hb1.mono (by simp)))
  clear hb1
  go_wp2
  go_ret2
  exact ⟨rfl, HB1.out⟩
theorem lstSpec_no (g n c : Nat) (f : Nat → Int) (own : Bool) (s : Int) (w : World) (hn : n ≤ 1048576) (hno : setB n f s = false) (ha : Arr w 3 g n (iv f)) :
    Calls Tryd.prog 40 #[.agg #[.slice (some ⟨g, 0, none⟩) n c, .bool own], .int .i64 s] w fun e w' => e = .returned (.tuple #[.int .i64 0, .bool false]) ∧ Below w.heap.size w w' := by
  have HA := hide ha
  clear ha
  go_enter Tryd.func40, Tryd.ntmps40
  go_wp2_with fail
  refine (grSet_any _ _ _ f _ s _ hn (HA.out.alloc _)).mono ?_
  rintro e w1 ⟨rfl, hb1⟩
  rw [hno]
  have HB1 := hide ((by go_grown : Below w.heap.size w _).trans (hb1.mono (by simp)))
  clear hb1
  go_wp2
  go_ret2
  exact ⟨rfl, HB1.out⟩
set_option maxRecDepth 4000 in
theorem cntSpec_ok (g n c : Nat) (F : Nat → Nat) (own : Bool) (L : Nat) (w : World) (hn : n ≤ 16) (hL : L < 65536) (hs : setB n (nv F) L = true) (ha : Arr w 3 g n (iv (nv F))) :
    Calls Tryd.prog 38 #[.agg #[.slice (some ⟨g, 0, none⟩) n c, .bool own], .int .i64 (L : Nat)] w fun e w' => e = .returned (cOut F own L n) ∧ Below w.heap.size w w' := by
  have hG : goodB n (nv F) = true := by simp only [setB, Bool.and_eq_true] at hs; exact hs.1
  have HG := hide (goodB_iff.1 hG)
  have HA := hide ha
  clear ha hG
  go_enter Tryd.func38, Tryd.ntmps38
  go_wp2_with fail
  refine (grSet_any _ _ _ (nv F) _ _ _ (by omega) (HA.out.alloc _)).mono ?_
  rintro e w1 ⟨rfl, hb1⟩
  rw [hs]
  obtain ⟨c0, c1, hzl⟩ := box28 hb1
  have HA1 := hide ((HA.out.alloc _).all hb1)
  have HB1 := hide ((by go_grown : Below w.heap.size w _).trans (hb1.mono (by simp)))
  clear hb1
  go_wp2_with fail
  refine (search_any _ _ _ F _ _ hn HG.out HA1.out).mono ?_
  rintro e w2 hsr
  rcases hsr with ⟨ht, rfl, hb2⟩ | ⟨ht, g2, m2, d2, A2, o, t, p, rfl, hq, hl, hall, hg2, hpa, _, hb2⟩
  · have HB2 := hide (HB1.out.trans (hb2.mono HB1.out.size))
    have hT := tree_no ht
    clear hb2 ht c0 c1
    go_wp2
    go_ret2
    exact ⟨by unfold cOut; rw [if_neg (by rw [hT]; simp)]; rfl, HB2.out⟩
  · have hT := tree_yes ht
    have hrun : Run F n o t p := ⟨by rw [hl]; exact hq, hall⟩
    have hI := HG.out.irr
    have hB := hrun.bnd hn hI (dueB L own)
    have hbA := hrun.bndA hn hI (dueB L own)
    obtain ⟨r, hr1, hr2⟩ := hrun.ranks
    have HTA := hide (trAll_any (some ⟨g, 0, none⟩) n c g2 n n L own F p w2 hn hbA hpa (fun j hj => trBelow_any (some ⟨g, 0, none⟩) n c g2 n n L own p hn hL hB r hr2 n j (hr1 j hj) hj))
    rw [hrun.sN_eq HG.out.sym hn] at HTA
    have d0 := (hb2.cell (p := ⟨w.heap.size, 0, none⟩) hzl).trans c0
    have d1 := (hb2.cell (p := ⟨w.heap.size, 1, none⟩) hzl).trans c1
    have HB2 := hide (HB1.out.trans (hb2.mono HB1.out.size))
    obtain ⟨S, hS⟩ : ∃ S, sN F own L n = S := ⟨_, rfl⟩
    rw [hS] at HTA
    have HS := hide hS
    clear hb2 ht hB hbA hr1 hr2 hpa hq hl hall hrun c0 c1 hS
    go_wp2_with fail
    refine HTA.out.mono ?_
    rintro e w3 ⟨rfl, hb3⟩
    have HB3 := hide (HB2.out.trans (hb3.mono HB2.out.size))
    clear hb3
    have hfld : ∀ (a b : Int) (w : World), Sem.run Tryd.prog (Instr.field 67 (Value.agg #[Value.int .i64 a, Value.int .i64 b]) 0) w = .ok (.int .i64 a) w := fun a b w => by first | rfl | simp [go_sem]
    go_wp2
    try simp only [hfld]
    go_ret2
    exact ⟨by unfold cOut; rw [if_pos hT, HS.out]; rfl, HB3.out⟩
set_option maxRecDepth 4000 in
theorem lstSpec_ok (g n c : Nat) (F : Nat → Nat) (own : Bool) (L : Nat) (w : World) (hn : n ≤ 16) (hL : L < 65536) (hs : setB n (nv F) L = true) (ha : Arr w 3 g n (iv (nv F))) :
    Calls Tryd.prog 40 #[.agg #[.slice (some ⟨g, 0, none⟩) n c, .bool own], .int .i64 (L : Nat)] w fun e w' => e = .returned (lOut F own L n) ∧ Below w.heap.size w w' := by
  have hG : goodB n (nv F) = true := by simp only [setB, Bool.and_eq_true] at hs; exact hs.1
  have HG := hide (goodB_iff.1 hG)
  have HA := hide ha
  clear ha hG
  go_enter Tryd.func40, Tryd.ntmps40
  go_wp2_with fail
  refine (grSet_any _ _ _ (nv F) _ _ _ (by omega) (HA.out.alloc _)).mono ?_
  rintro e w1 ⟨rfl, hb1⟩
  rw [hs]
  obtain ⟨c0, c1, hzl⟩ := box28 hb1
  have HA1 := hide ((HA.out.alloc _).all hb1)
  have HB1 := hide ((by go_grown : Below w.heap.size w _).trans (hb1.mono (by simp)))
  clear hb1
  go_wp2_with fail
  refine (search_any _ _ _ F _ _ hn HG.out HA1.out).mono ?_
  rintro e w2 hsr
  rcases hsr with ⟨ht, rfl, hb2⟩ | ⟨ht, g2, m2, d2, A2, o, t, p, rfl, hq, hl, hall, hg2, hpa, _, hb2⟩
  · have HB2 := hide (HB1.out.trans (hb2.mono HB1.out.size))
    have hT := tree_no ht
    clear hb2 ht c0 c1
    go_wp2
    go_ret2
    exact ⟨by unfold lOut; rw [if_neg (by rw [hT]; simp)]; rfl, HB2.out⟩
  · have hT := tree_yes ht
    have hrun : Run F n o t p := ⟨by rw [hl]; exact hq, hall⟩
    have hI := HG.out.irr
    have hB := hrun.bnd hn hI (dueB L own)
    have hbA := hrun.bndA hn hI (dueB L own)
    obtain ⟨r, hr1, hr2⟩ := hrun.ranks
    have HTA := hide (trAll_any (some ⟨g, 0, none⟩) n c g2 n n L own F p w2 hn hbA hpa (fun j hj => trBelow_any (some ⟨g, 0, none⟩) n c g2 n n L own p hn hL hB r hr2 n j (hr1 j hj) hj))
    rw [hrun.sN_eq HG.out.sym hn] at HTA
    have d0 := (hb2.cell (p := ⟨w.heap.size, 0, none⟩) hzl).trans c0
    have d1 := (hb2.cell (p := ⟨w.heap.size, 1, none⟩) hzl).trans c1
    have HB2 := hide (HB1.out.trans (hb2.mono HB1.out.size))
    obtain ⟨S, hS⟩ : ∃ S, sN F own L n = S := ⟨_, rfl⟩
    rw [hS] at HTA
    have HS := hide hS
    clear hb2 ht hB hbA hr1 hr2 hpa hq hl hall hrun c0 c1 hS
    go_wp2_with fail
    refine HTA.out.mono ?_
    rintro e w3 ⟨rfl, hb3⟩
    have HB3 := hide (HB2.out.trans (hb3.mono HB2.out.size))
    clear hb3
    by_cases h0 : S.1 = 0
    · have h0' : ((S.1 : Nat) : Int) = 0 := by omega
      rw [h0']
      have h0b : (((0 : Int)) == 0) = true := rfl
      go_wp2
      go_ret2
      exact ⟨by unfold lOut; rw [if_neg (by rw [HS.out]; simp [h0])]; rfl, by have h := HB3.out; have hz := h.size; go_grown⟩
    · have h0' : (((S.1 : Nat) : Int) == 0) = false := by simp; omega
      go_wp2
      go_ret2
      exact ⟨by unfold lOut; rw [if_pos ⟨hT, by rw [HS.out]; exact h0⟩, HS.out]; rfl, by have h := HB3.out; have hz := h.size; go_grown⟩
end Go.Proofs.YtmcimfblhpflnaaDoor
