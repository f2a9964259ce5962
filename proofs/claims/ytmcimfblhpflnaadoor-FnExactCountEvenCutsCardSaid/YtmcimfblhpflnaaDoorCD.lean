/-
CountEvenCuts: the program's side.
-/
import Derived.Test.YtmcimfblhpflnaaDoorCC
import Derived.Test.YtmcimfblhpflnaaDoorWG
namespace Go.Proofs.YtmcimfblhpflnaaDoor
open Go.RowKit Go.Maps
set_option maxHeartbeats 4000000
theorem ecImpl_no (g n c : Nat) (f : Nat → Int) (own : Bool) (w : World) (hn : n ≤ 1048576) (hno : goodB n f = false) (ha : Arr w 3 g n (iv f)) :
    Calls Tryd.prog 45 #[.agg #[.slice (some ⟨g, 0, none⟩) n c, .bool own]] w fun e w' => e = .returned (.tuple #[.int .i64 0, .bool false]) ∧ Below w.heap.size w w' := by
  have HA := hide ha
  clear ha
  go_enter Tryd.func45, Tryd.ntmps45
  go_wp2_with fail
  refine (cEv_no _ _ _ f _ _ hn hno (HA.out.alloc _)).mono ?_
  rintro e w1 ⟨rfl, hb1⟩
  have HB1 := hide ((by go_grown : Below w.heap.size w _).trans (hb1.mono (by simp)))
  clear hb1
  go_wp2
  go_ret2
  exact ⟨rfl, HB1.out⟩
set_option maxRecDepth 4000 in
theorem ecImpl_ok (g n c : Nat) (F : Nat → Nat) (own : Bool) (w : World) (hn : n ≤ 16) (hF : ∀ j, j < n → F j < 2 ^ n) (hG : goodB n (nv F) = true) (ha : Arr w 3 g n (iv (nv F))) (hT : Tab w) (hw1 : 1 < w.heap.size) :
    Calls Tryd.prog 45 #[.agg #[.slice (some ⟨g, 0, none⟩) n c, .bool own]] w fun e w' => e = .returned (ecOut F n) ∧ Below w.heap.size w w' := by
  have hgd := goodB_iff.1 hG
  have HA := hide ha
  have HT := hide hT
  clear ha hT
  go_enter Tryd.func45, Tryd.ntmps45
  go_wp2_with fail
  refine (cEv_ok _ _ _ F _ _ hn hF hG (HA.out.alloc _)).mono ?_
  rintro e w1 ⟨rfl, hb1⟩
  have hp := (Arr.box w 28 (.slice (some ⟨g, 0, none⟩) n c) (.bool own)).all hb1
  have c0 : w1.cell? ⟨w.heap.size, 0, none⟩ = some (.slice (some ⟨g, 0, none⟩) n c) := hp.cell (by omega)
  have c1 : w1.cell? ⟨w.heap.size, 1, none⟩ = some (.bool own) := hp.cell (by omega)
  have hbx := hp.lt
  have HAr := hide ((HA.out.alloc (.cells #[.slice (some ⟨g, 0, none⟩) n c, .bool own] 28)).all hb1)
  have HB1 := hide ((by go_grown : Below w.heap.size w _).trans (hb1.mono (by simp)))
  have HT1 := hide (HT.out.below' HB1.out hw1)
  have hz1 := HB1.out.size
  have HG := hide hgd
  obtain ⟨M, hM⟩ : ∃ M, 2 ^ (qS (spT F (oddN F n)) n n).1.length = M := ⟨_, rfl⟩
  rw [hM]
  have HM0 := hide hM
  clear hb1 hp hgd hM
  by_cases hbig : 10 < n
  · have hbig' : (10 : Int) < (n : Int) := by omega
    go_wp2
    go_ret2
    exact ⟨by rw [ecOut, if_pos hbig]; rfl, HB1.out⟩
  · have hbig' : ¬ (10 : Int) < (n : Int) := by omega
    go_wp2_with fail
    refine (kept_any Unit _ _ _ F _ _ hn HG.out.sym HG.out.lt16 HAr.out HT1.out (by omega)).mono ?_
    rintro e w2 ⟨b, D, rfl, hbl, hmap, hpm, hb2⟩
    have HL : ∀ ty, (Builtin.len_ #[49] ty #[.map (some b)]).run Tryd.prog w2 = .ok (.int .i64 (size D)) w2 := fun ty => hmap.len Tryd.underlying49 ty
    have HSZ : Hid (size D = (partL F n n).length) := hide (by rw [pm_size HG.out.sym hn (hmap.canon law3) hpm, partL, List.length_map])
    have HB2 := hide (HB1.out.trans (hb2.mono HB1.out.size))
    obtain ⟨m3, hm3⟩ : ∃ m3, size D = m3 := ⟨_, rfl⟩
    rw [hm3] at HL HSZ
    have hm3n : m3 ≤ 16 := by have := partL_len F n n; rw [← HSZ.out] at this; omega
    clear hb2 hmap hpm
    go_wp2
    go_ret2
    refine ⟨?_, HB2.out⟩
    rw [ecOut, if_neg hbig]
    unfold ecV
    rw [HM0.out, ← HSZ.out]
    rfl
theorem ecSpec_v (g n c : Nat) (F : Nat → Nat) (own : Bool) (v : Int) (b : Bool) (w : World) (hv : ecOut F n = .tuple #[.int .i64 v, .bool b]) (hn : n ≤ 16) (hF : ∀ j, j < n → F j < 2 ^ n) (hG : goodB n (nv F) = true) (ha : Arr w 3 g n (iv (nv F))) :
    Calls Tryd.prog 44 #[.agg #[.slice (some ⟨g, 0, none⟩) n c, .bool own]] w fun e w' => e = .returned (.tuple #[.int .i64 v, .bool b]) ∧ Below w.heap.size w w' := by
  rw [← hv]; exact ecSpec_ok g n c F own w hn hF hG ha
theorem ecImpl_v (g n c : Nat) (F : Nat → Nat) (own : Bool) (v : Int) (b : Bool) (w : World) (hv : ecOut F n = .tuple #[.int .i64 v, .bool b]) (hn : n ≤ 16) (hF : ∀ j, j < n → F j < 2 ^ n) (hG : goodB n (nv F) = true) (ha : Arr w 3 g n (iv (nv F))) (hT : Tab w) (hw1 : 1 < w.heap.size) :
    Calls Tryd.prog 45 #[.agg #[.slice (some ⟨g, 0, none⟩) n c, .bool own]] w fun e w' => e = .returned (.tuple #[.int .i64 v, .bool b]) ∧ Below w.heap.size w w' := by
  rw [← hv]; exact ecImpl_ok g n c F own w hn hF hG ha hT hw1
end Go.Proofs.YtmcimfblhpflnaaDoor
