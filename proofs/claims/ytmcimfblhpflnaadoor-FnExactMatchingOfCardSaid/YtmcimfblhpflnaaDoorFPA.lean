/-
ParentsOf: both sides.
-/
import Derived.Test.YtmcimfblhpflnaaDoorFO
namespace Go.Proofs.YtmcimfblhpflnaaDoor
open Go.RowKit
set_option maxHeartbeats 4000000
def ParSrc (w : World) (n : Nat) (p : Nat → Int) (e : Ending) (w' : World) : Prop := ∃ A d, e = .returned (.tuple #[.slice A n d, .bool true]) ∧ Src w' A n (iv p) ∧ Below w.heap.size w w'
def ParArr (w : World) (n : Nat) (p : Nat → Int) (e : Ending) (w' : World) : Prop := ∃ g d, e = .returned (.tuple #[.slice (some ⟨g, 0, none⟩) n d, .bool true]) ∧ w.heap.size ≤ g ∧ Arr w' 3 g n (iv p) ∧ Below w.heap.size w w'
def ParNo (w : World) (e : Ending) (w' : World) : Prop := e = .returned (.tuple #[.slice none 0 0, .bool false]) ∧ Below w.heap.size w w'
def ForestNo (w : World) (e : Ending) (w' : World) : Prop := e = .returned (.tuple #[.agg #[.slice none 0 0, .bool false, .slice none 0 0, .slice none 0 0], .bool false]) ∧ Below w.heap.size w w'
theorem forestOf_none (a2 : Bool) (g n c : Nat) (f : Nat → Int) (own : Bool) (w : World) (ha : Arr w 3 g n (iv f)) (H : Hid (∀ w, Arr w 3 g n (iv f) → Tab w → 1 < w.heap.size → Calls Tryd.prog 24 #[.agg #[.slice (some ⟨g, 0, none⟩) n c, .bool own]] w fun e w' => e = .returned (.tuple #[.bool false, .bool a2]) ∧ Below w.heap.size w w')) (hT : Tab w) (hw1 : 1 < w.heap.size) :
    Calls Tryd.prog 57 #[.agg #[.slice (some ⟨g, 0, none⟩) n c, .bool own]] w (ForestNo w) := by
  have HA := hide ha
  have HT := hide hT
  clear ha hT
  go_enter Tryd.func57, Tryd.ntmps57
  go_wp2_with fail
  refine (H.out _ ((HA.out.alloc _).alloc _) (by exact HT.out.below (((Below.refl _ _).alloc (Nat.le_refl _) _).alloc (by simp) _)) (by simp; try omega)).mono ?_
  rintro e w1 ⟨rfl, hb1⟩
  have hrb := (Blk.new (w.alloc (.cells #[.slice (some ⟨g, 0, none⟩) n c, .bool own] 28)) 56 #[.slice none 0 0, .bool false, .slice none 0 0, .slice none 0 0] (b := w.heap.size + 1) (by simp)).all hb1
  have r0 : w1.cell? ⟨w.heap.size + 1, 0, none⟩ = some (.slice none 0 0) := hrb.cell 0
  have r1 : w1.cell? ⟨w.heap.size + 1, 1, none⟩ = some (.bool false) := hrb.cell 1
  have r2 : w1.cell? ⟨w.heap.size + 1, 2, none⟩ = some (.slice none 0 0) := hrb.cell 2
  have r3 : w1.cell? ⟨w.heap.size + 1, 3, none⟩ = some (.slice none 0 0) := hrb.cell 3
  have z0 := hrb.frozen 0
  have z1 := hrb.frozen 1
  have z2 := hrb.frozen 2
  have z3 := hrb.frozen 3
  have hrl := hrb.lt
  have HB1 := hide ((by go_grown : Below w.heap.size w _).trans (hb1.mono (by simp; try omega)))
  clear hb1 hrb
  go_wp2
  refine bodyPost_ret (v := .tuple #[.agg #[.slice none 0 0, .bool false, .slice none 0 0, .slice none 0 0], .bool false]) (by simp [results, Tryd.results57, go_sem, r0, r1, r2, r3]) rfl ?_
  have hle : w.heap.size ≤ w.heap.size + 1 := Nat.le_succ _
  exact ⟨rfl, (((HB1.out.setCell (p := ⟨w.heap.size + 1, 0, none⟩) hle _).setCell (p := ⟨w.heap.size + 1, 1, none⟩) hle _).setCell (p := ⟨w.heap.size + 1, 2, none⟩) hle _).setCell (p := ⟨w.heap.size + 1, 3, none⟩) hle _⟩
theorem forestOf_no (g n c : Nat) (f : Nat → Int) (own : Bool) (w : World) (hn : n ≤ 1048576) (hno : goodB n f = false) (ha : Arr w 3 g n (iv f)) (hT : Tab w) (hw1 : 1 < w.heap.size) :
    Calls Tryd.prog 57 #[.agg #[.slice (some ⟨g, 0, none⟩) n c, .bool own]] w (ForestNo w) :=
  forestOf_none false g n c f own w ha (hide fun w ha _ _ => forImpl_no g n c f own w hn hno ha) hT hw1
theorem forestOf_nt (g n c : Nat) (F : Nat → Nat) (own : Bool) (w : World) (hn : n ≤ 16) (hG : goodB n (nv F) = true) (hTr : treeB F n = false) (ha : Arr w 3 g n (iv (nv F))) (hT : Tab w) (hw1 : 1 < w.heap.size) :
    Calls Tryd.prog 57 #[.agg #[.slice (some ⟨g, 0, none⟩) n c, .bool own]] w (ForestNo w) :=
  forestOf_none true g n c (nv F) own w ha (hide fun w ha hT h1 => by have := forImpl_ok g n c F own w hn hG ha hT h1; rwa [hTr] at this) hT hw1
theorem parImpl_none (g n c : Nat) (own : Bool) (w : World) (H : Hid (∀ w', Below w.heap.size w w' → Calls Tryd.prog 57 #[.agg #[.slice (some ⟨g, 0, none⟩) n c, .bool own]] w' (ForestNo w'))) :
    Calls Tryd.prog 30 #[.agg #[.slice (some ⟨g, 0, none⟩) n c, .bool own]] w (ParNo w) := by
  go_enter Tryd.func30, Tryd.ntmps30
  go_wp2_with fail
  refine (H.out _ ((Below.refl _ _).alloc (Nat.le_refl _) _)).mono ?_
  rintro e w1 ⟨rfl, hb1⟩
  have HB1 := hide ((by go_grown : Below w.heap.size w _).trans (hb1.mono (by simp; try omega)))
  have hz := HB1.out.size
  clear hb1
  go_wp2
  go_ret2
  exact ⟨rfl, by have h := HB1.out; go_grown⟩
theorem parImpl_tree (g n c : Nat) (F : Nat → Nat) (own : Bool) (w : World) (hn : n ≤ 16) (hG : goodB n (nv F) = true) (hTr : treeB F n = true) (ha : Arr w 3 g n (iv (nv F))) (hT : Tab w) (hw1 : 1 < w.heap.size) :
    Calls Tryd.prog 30 #[.agg #[.slice (some ⟨g, 0, none⟩) n c, .bool own]] w (ParArr w n (parV F n)) := by
  have hgd := goodB_iff.1 hG
  have HA := hide ha
  have HT := hide hT
  clear ha hT
  go_enter Tryd.func30, Tryd.ntmps30
  go_wp2_with fail
  refine (forestOf_ok g n c F own _ hn hG hTr (HA.out.alloc _) (HT.out.below ((Below.refl _ _).alloc (Nat.le_refl _) _)) (by simp; try omega)).mono ?_
  rintro e w1 ⟨gp, m, d, A, o, t, p, rfl, hrun, hm, hgp, hpa, hol, hb1⟩
  have HB1 := hide ((by go_grown : Below w.heap.size w _).trans (hb1.mono (by simp; try omega)))
  have HPA := hide (hpa.congr (f' := iv (parV F n)) (fun k hk => by simp only [iv]; rw [hrun.par hgd.sym hn k hk]))
  have hz := HB1.out.size
  simp only [World.size_alloc] at hgp
  clear hb1 hpa hol hrun
  go_wp2
  go_ret2
  exact ⟨gp, n, rfl, by omega, HPA.out.alloc _, by have h := HB1.out; go_grown⟩
theorem parSpec_no (g n c : Nat) (f : Nat → Int) (own : Bool) (w : World) (hn : n ≤ 1048576) (hno : goodB n f = false) (ha : Arr w 3 g n (iv f)) :
    Calls Tryd.prog 29 #[.agg #[.slice (some ⟨g, 0, none⟩) n c, .bool own]] w (ParNo w) := by
  have HA := hide ha
  clear ha
  go_enter Tryd.func29, Tryd.ntmps29
  go_wp2_with fail
  refine (grGood_any _ _ _ f _ _ hn (HA.out.alloc _)).mono ?_
  rintro e w1 ⟨rfl, hb1⟩
  simp only [hno]
  have HB1 := hide ((by go_grown : Below w.heap.size w _).trans (hb1.mono (by simp)))
  clear hb1
  go_wp2
  go_ret2
  exact ⟨rfl, HB1.out⟩
def ParOut (w : World) (n : Nat) (F : Nat → Nat) (e : Ending) (w' : World) : Prop := if treeB F n = true then ParSrc w n (parV F n) e w' else ParNo w e w'
theorem ParOut.yes {w : World} {n : Nat} {F : Nat → Nat} {e : Ending} {w' : World} (hT : treeB F n = true) (h : ParSrc w n (parV F n) e w') : ParOut w n F e w' := by unfold ParOut; rw [if_pos hT]; exact h
theorem ParOut.no {w : World} {n : Nat} {F : Nat → Nat} {e : Ending} {w' : World} (hT : treeB F n = false) (h : ParNo w e w') : ParOut w n F e w' := by unfold ParOut; rw [if_neg (by rw [hT]; simp)]; exact h
theorem parSpec_any (g n c : Nat) (F : Nat → Nat) (own : Bool) (w : World) (hn : n ≤ 16) (hG : goodB n (nv F) = true) (ha : Arr w 3 g n (iv (nv F))) :
    Calls Tryd.prog 29 #[.agg #[.slice (some ⟨g, 0, none⟩) n c, .bool own]] w (ParOut w n F) := by
  have hgd := goodB_iff.1 hG
  have HA := hide ha
  clear ha
  go_enter Tryd.func29, Tryd.ntmps29
  go_wp2_with fail
  refine (grGood_any _ _ _ (nv F) _ _ (by omega) (HA.out.alloc _)).mono ?_
  rintro e w1 ⟨rfl, hb1⟩
  simp only [hG]
  have hp := (Arr.box w 28 (.slice (some ⟨g, 0, none⟩) n c) (.bool own)).all hb1
  have c0 : w1.cell? ⟨w.heap.size, 0, none⟩ = some (.slice (some ⟨g, 0, none⟩) n c) := hp.cell (by omega)
  have c1 : w1.cell? ⟨w.heap.size, 1, none⟩ = some (.bool own) := hp.cell (by omega)
  have HAr := hide ((HA.out.alloc _).all hb1)
  have HB1 := hide ((by go_grown : Below w.heap.size w _).trans (hb1.mono (by simp)))
  have HG := hide hgd
  have hz := HB1.out.size
  clear hb1 hp hgd
  go_wp2_with fail
  refine (search_any _ _ _ F _ _ hn HG.out (by first | exact HAr.out | exact HAr.out.drew)).mono ?_
  rintro e w2 hs
  rcases hs with ⟨ht, rfl, hb2⟩ | ⟨ht, g2, m2, d2, A2, o, t, p, rfl, hq, hl, hall, hg2, hpa, _, hb2⟩
  · have HB2 := hide (HB1.out.trans (hb2.mono hz))
    have hT := tree_no ht
    clear hb2 ht
    go_wp2
    go_ret2
    exact ParOut.no hT ⟨rfl, HB2.out⟩
  · have HB2 := hide (HB1.out.trans (hb2.mono hz))
    have hT := tree_yes ht
    have hrun : Run F n o t p := ⟨by rw [hl]; exact hq, hall⟩
    have HPA := hide (hpa.congr (f' := iv (parV F n)) (fun k hk => by simp only [iv]; rw [hrun.par HG.out.sym hn k hk]))
    clear hb2 ht hpa hrun
    go_wp2
    go_ret2
    exact ParOut.yes hT ⟨_, _, rfl, Src.of_arr HPA.out, HB2.out⟩
end Go.Proofs.YtmcimfblhpflnaaDoor
