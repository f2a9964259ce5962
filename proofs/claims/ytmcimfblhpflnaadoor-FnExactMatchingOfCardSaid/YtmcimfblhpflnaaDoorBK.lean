/-
IsForest: both sides.
-/
import Derived.Test.YtmcimfblhpflnaaDoorTP
namespace Go.Proofs.YtmcimfblhpflnaaDoor
open Go.RowKit Go.Maps
set_option maxHeartbeats 2000000
def treeB (F : Nat → Nat) (n : Nat) : Bool := decide ((allP F n n).length + (roots F n n).length = n)
theorem tree_yes {F : Nat → Nat} {n : Nat} (h : Tree F n) : treeB F n = true := by simpa [treeB, Tree] using h
theorem tree_no {F : Nat → Nat} {n : Nat} (h : ¬ Tree F n) : treeB F n = false := by simpa [treeB, Tree] using h
theorem forSpec_no (g n c : Nat) (f : Nat → Int) (own : Bool) (w : World) (hn : n ≤ 1048576) (hno : goodB n f = false) (ha : Arr w 3 g n (iv f)) :
    Calls Tryd.prog 23 #[.agg #[.slice (some ⟨g, 0, none⟩) n c, .bool own]] w fun e w' => e = .returned (.tuple #[.bool false, .bool false]) ∧ Below w.heap.size w w' := by
  have HA := hide ha
  clear ha
  go_enter Tryd.func23, Tryd.ntmps23
  go_wp2_with fail
  refine (grGood_any _ _ _ f _ _ hn (HA.out.alloc _)).mono ?_
  rintro e w1 ⟨rfl, hb1⟩
  simp only [hno]
  have HB1 := hide ((by go_grown : Below w.heap.size w _).trans (hb1.mono (by simp)))
  clear hb1
  go_wp2
  go_ret2
  exact ⟨rfl, HB1.out⟩
theorem forSpec_ok (g n c : Nat) (F : Nat → Nat) (own : Bool) (w : World) (hn : n ≤ 16) (hG : goodB n (nv F) = true) (ha : Arr w 3 g n (iv (nv F))) :
    Calls Tryd.prog 23 #[.agg #[.slice (some ⟨g, 0, none⟩) n c, .bool own]] w fun e w' => e = .returned (.tuple #[.bool (treeB F n), .bool true]) ∧ Below w.heap.size w w' := by
  have hgd := goodB_iff.1 hG
  have HA := hide ha
  clear ha
  go_enter Tryd.func23, Tryd.ntmps23
  go_wp2_with fail
  refine (grGood_any _ _ _ (nv F) _ _ (by omega) (HA.out.alloc _)).mono ?_
  rintro e w1 ⟨rfl, hb1⟩
  simp only [hG]
  have hp := (Arr.box w 28 (.slice (some ⟨g, 0, none⟩) n c) (.bool own)).all hb1
  have c0 : w1.cell? ⟨w.heap.size, 0, none⟩ = some (.slice (some ⟨g, 0, none⟩) n c) := hp.cell (by omega)
  have c1 : w1.cell? ⟨w.heap.size, 1, none⟩ = some (.bool own) := hp.cell (by omega)
  have HAr := hide ((HA.out.alloc _).all hb1)
  have HB1 := hide ((by go_grown : Below w.heap.size w _).trans (hb1.mono (by simp)))
  have HG := hide hgd
  have hz := HB1.out.size
  clear hb1 hp hgd
  go_wp2_with fail
  refine (search_any _ _ _ F _ _ hn HG.out (by first | exact HAr.out | exact HAr.out.drew)).mono ?_
  rintro e w2 hs
  rcases hs with ⟨ht, rfl, hb2⟩ | ⟨ht, g2, m2, d2, A2, o, t, p, rfl, _, _, _, _, _, _, hb2⟩
  · have HB2 := hide (HB1.out.trans (hb2.mono hz))
    have hT := tree_no ht
    clear hb2 ht
    go_wp2
    go_ret2
    exact ⟨by rw [hT]; rfl, HB2.out⟩
  · have HB2 := hide (HB1.out.trans (hb2.mono hz))
    have hT := tree_yes ht
    clear hb2 ht
    go_wp2
    go_ret2
    exact ⟨by rw [hT]; rfl, HB2.out⟩
theorem forImpl_no (g n c : Nat) (f : Nat → Int) (own : Bool) (w : World) (hn : n ≤ 1048576) (hno : goodB n f = false) (ha : Arr w 3 g n (iv f)) :
    Calls Tryd.prog 24 #[.agg #[.slice (some ⟨g, 0, none⟩) n c, .bool own]] w fun e w' => e = .returned (.tuple #[.bool false, .bool false]) ∧ Below w.heap.size w w' := by
  have HA := hide ha
  clear ha
  go_enter Tryd.func24, Tryd.ntmps24
  go_wp2_with fail
  refine (edgesImpl_no _ _ _ f _ _ hn hno (HA.out.alloc _)).mono ?_
  rintro e w1 ⟨rfl, hb1⟩
  have HB1 := hide ((by go_grown : Below w.heap.size w _).trans (hb1.mono (by simp)))
  clear hb1
  go_wp2
  go_ret2
  exact ⟨rfl, HB1.out⟩
set_option maxRecDepth 4000 in
theorem forImpl_ok (g n c : Nat) (F : Nat → Nat) (own : Bool) (w : World) (hn : n ≤ 16) (hG : goodB n (nv F) = true) (ha : Arr w 3 g n (iv (nv F))) (hT : Tab w) (hw1 : 1 < w.heap.size) :
    Calls Tryd.prog 24 #[.agg #[.slice (some ⟨g, 0, none⟩) n c, .bool own]] w fun e w' => e = .returned (.tuple #[.bool (treeB F n), .bool true]) ∧ Below w.heap.size w w' := by
  have hgd := goodB_iff.1 hG
  have HA := hide ha
  have HT := hide hT
  clear ha hT
  go_enter Tryd.func24, Tryd.ntmps24
  go_wp2_with fail
  refine (edgesImpl_ok _ _ _ F _ _ hn hG (HA.out.alloc _)).mono ?_
  rintro e w1 ⟨A2, m2, d2, G2, rfl, hm2, hm272, hss2, hb1⟩
  have hp := (Arr.box w 28 (.slice (some ⟨g, 0, none⟩) n c) (.bool own)).all hb1
  have c0 : w1.cell? ⟨w.heap.size, 0, none⟩ = some (.slice (some ⟨g, 0, none⟩) n c) := hp.cell (by omega)
  have c1 : w1.cell? ⟨w.heap.size, 1, none⟩ = some (.bool own) := hp.cell (by omega)
  have HAr := hide ((HA.out.alloc _).all hb1)
  have HB1 := hide ((by go_grown : Below w.heap.size w _).trans (hb1.mono (by simp)))
  have HT1 := hide (HT.out.below' HB1.out hw1)
  have hz1 := HB1.out.size
  have HG := hide hgd
  have HM2 := hide hm2
  have KK : Hid (w1.drew.cell? ⟨w.heap.size, 0, none⟩ = some (.slice (some ⟨g, 0, none⟩) n c) ∧ w1.drew.cell? ⟨w.heap.size, 1, none⟩ = some (.bool own)) := hide ⟨c0, c1⟩
  clear hb1 hp hgd hss2 hm2
  go_wp2_with fail
  go_region_law (first
    | (go_simp; go_at_call 51; refine (kept_any Unit _ _ _ F _ _ hn HG.out.sym HG.out.lt16 (by first | exact HAr.out | exact HAr.out.drew) (by exact HT1.out) (by first | omega | (simp; omega))).mono ?_; rintro e w2 ⟨b, D, rfl, hbl, hmap, hpm, hb2⟩; have HL : ∀ ty, (Builtin.len_ #[49] ty #[.map (some b)]).run Tryd.prog w2 = .ok (.int .i64 (size D)) w2 := fun ty => hmap.len Tryd.underlying49 ty; have HM := hide hmap; have HPM := hide hpm; have q0 := (box_later hb2 KK.out).1; have q1 := (box_later hb2 KK.out).2; clear hmap hpm; go_simp))
  all_goals
    have HB2 := hide (HB1.out.trans ((by go_grown : Below w1.heap.size w1 _).trans hb2 |>.mono HB1.out.size))
    have HSZ : Hid (size D = (roots F n n).length) := hide (by rw [pm_size HG.out.sym hn (HM.out.canon law3) HPM.out])
    clear hb2 KK HL q0 q1
    obtain ⟨m3, hm3⟩ : ∃ m3, size D = m3 := ⟨_, rfl⟩
    have hm3n : m3 ≤ 16 := by have := cn_le (root F n) n; rw [← cn_roots, ← HSZ.out] at this; omega
    rw [hm3]
    have hv : ((IntKind.i64.wrap ((m2 : Int) + (m3 : Int))) == (n : Int)) = treeB F n := by
      rw [treeB, ← HSZ.out, hm3, ← HM2.out, IntKind.wrap_i64, Bool.eq_iff_iff]
      simp only [beq_iff_eq, decide_eq_true_eq]
      omega
    simp only [hv]
    first | go_ret2 | (go_wp2; go_ret2)
    exact ⟨rfl, HB2.out⟩
end Go.Proofs.YtmcimfblhpflnaaDoor
