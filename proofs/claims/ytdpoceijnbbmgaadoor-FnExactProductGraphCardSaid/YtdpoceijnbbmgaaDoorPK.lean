/-
What is kept while a law's box for a graph is made at any time.
-/
import Derived.Test.YtdpoceijnbbmgaaDoorCG
import Derived.Test.YtdpoceijnbbmgaaDoorEA0
import Derived.Deep.RegionHeld3
namespace Go.Proofs.YtdpoceijnbbmgaaDoor
open Go.RowKit
set_option maxHeartbeats 4000000
set_option maxRecDepth 8000
theorem toGraph_src {A : Option Addr} {n c : Nat} {f : Nat → Int} {own : Bool} {w : World} (hs : Src w A n (iv f)) (hn : n ≤ 1048576) :
    Calls Tryd.prog 13 #[.agg #[.slice A n c, .bool own]] w (NewGraph w n f own) := toGraph_any A n c f own w hn hs
theorem four_alloc {W : World} (o : Obj) {a b : Nat} {u0 u1 v0 v1 : Value}
    (h : W.cell? ⟨a, 0, none⟩ = some u0 ∧ W.cell? ⟨a, 1, none⟩ = some u1 ∧ W.cell? ⟨b, 0, none⟩ = some v0 ∧ W.cell? ⟨b, 1, none⟩ = some v1) :
    (W.alloc o).cell? ⟨a, 0, none⟩ = some u0 ∧ (W.alloc o).cell? ⟨a, 1, none⟩ = some u1 ∧ (W.alloc o).cell? ⟨b, 0, none⟩ = some v0 ∧ (W.alloc o).cell? ⟨b, 1, none⟩ = some v1 :=
  four_below (by go_grown) h
theorem four_set {W : World} {g i : Nat} {u : Value} {a b : Nat} {u0 u1 v0 v1 : Value} (ha : a ≠ g) (hb : b ≠ g)
    (h : W.cell? ⟨a, 0, none⟩ = some u0 ∧ W.cell? ⟨a, 1, none⟩ = some u1 ∧ W.cell? ⟨b, 0, none⟩ = some v0 ∧ W.cell? ⟨b, 1, none⟩ = some v1) :
    (W.setCell ⟨g, i, none⟩ u).cell? ⟨a, 0, none⟩ = some u0 ∧ (W.setCell ⟨g, i, none⟩ u).cell? ⟨a, 1, none⟩ = some u1 ∧ (W.setCell ⟨g, i, none⟩ u).cell? ⟨b, 0, none⟩ = some v0 ∧ (W.setCell ⟨g, i, none⟩ u).cell? ⟨b, 1, none⟩ = some v1 := by
  obtain ⟨h1, h2, h3, h4⟩ := h
  refine ⟨?_, ?_, ?_, ?_⟩
  · rw [World.cell?_setCell_far _ _ _ _ (fun h => ha h.symm)]; exact h1
  · rw [World.cell?_setCell_far _ _ _ _ (fun h => ha h.symm)]; exact h2
  · rw [World.cell?_setCell_far _ _ _ _ (fun h => hb h.symm)]; exact h3
  · rw [World.cell?_setCell_far _ _ _ _ (fun h => hb h.symm)]; exact h4
theorem below_step {b : Nat} {w a w' : World} (hb : Below a.heap.size a w') (hz : b ≤ a.heap.size) (h : Below b w a) : Below b w w' := h.trans (hb.mono hz)
/-- What a call leaves whose result is put into the new box g. -/
def JoinK (w w' : World) (g : Nat) (u v : Value) : Prop :=
  Below w.heap.size w w' ∧ w.heap.size ≤ g ∧ ∃ f, Arr w' 26 g 2 f ∧ f 0 = u ∧ f 1 = v
theorem joinKeep {w2 : World} {g : Nat} {u v : Value} {W : World} {fb : Nat → Value} (h : Below w2.heap.size w2 W) (hg : w2.heap.size ≤ g) (ha : Arr W 26 g 2 fb) :
    JoinK w2 ((W.setCell ⟨g, 0, none⟩ u).setCell ⟨g, 1, none⟩ v) g u v :=
  ⟨(h.setCell (p := ⟨g, 0, none⟩) hg u).setCell (p := ⟨g, 1, none⟩) hg v, hg, _, (ha.set 0 u).set 1 v, by simp, by simp⟩
theorem joinKeep0 {w2 : World} {g : Nat} {u v : Value} {W : World} (h : Below w2.heap.size w2 W) (hg : w2.heap.size ≤ g) (ha : Arr W 26 g 2 (bx u v)) : JoinK w2 W g u v :=
  ⟨h, hg, _, ha, by simp [bx], by simp [bx]⟩
theorem joinCut {P : Program} {c : Code} {Q : Exit → Act → World → Prop} {a : Act} {w : World} (w2 : World) (u v : Value) (F : Nat → Nat → Nat → Act)
    (reg : c.wp P (fun e a w' => ∃ g3 g4 g6, e = .normal ∧ a = F g3 g4 g6 ∧ JoinK w2 w' g6 u v) a w)
    (cont : ∀ g3 g4 g6 w', JoinK w2 w' g6 u v → Q .normal (F g3 g4 g6) w') : c.wp P Q a w :=
  Code.wp_mono (fun e a w' h => by obtain ⟨g3, g4, g6, rfl, rfl, h⟩ := h; exact cont g3 g4 g6 w' h) reg
theorem arr_ne {w : World} {t t' : TypeId} {g g' n n' : Nat} {f f' : Nat → Value} (h : Arr w t g n f) (h' : Arr w t' g' n' f') (ht : t ≠ t') : g ≠ g' := by
  rintro rfl
  obtain ⟨c, h1, _⟩ := h
  obtain ⟨c', h2, _⟩ := h'
  rw [h1] at h2
  injection h2 with h2
  injection h2 with _ h2
  exact ht h2
/-- .. and which hands back a new row besides. -/
def JoinKOk (w w' : World) (g g5 c5 k : Nat) (f : Nat → Int) (own : Bool) : Prop :=
  JoinK w w' g (.slice (some ⟨g5, 0, none⟩) k c5) (.bool own) ∧ w.heap.size ≤ g5 ∧ Arr w' 3 g5 k (iv f)
theorem joinKeepOk {w2 : World} {g g5 c5 k : Nat} {f : Nat → Int} {own : Bool} {W : World} {fb : Nat → Value} (h : Below w2.heap.size w2 W) (hg : w2.heap.size ≤ g) (hl : w2.heap.size ≤ g5) (ha : Arr W 26 g 2 fb) (h5 : Arr W 3 g5 k (iv f)) :
    JoinKOk w2 ((W.setCell ⟨g, 0, none⟩ (.slice (some ⟨g5, 0, none⟩) k c5)).setCell ⟨g, 1, none⟩ (.bool own)) g g5 c5 k f own :=
  ⟨joinKeep h hg ha, hl, (h5.far (p := ⟨g, 0, none⟩) (arr_ne h5 ha (by decide)) _).far (p := ⟨g, 1, none⟩) (arr_ne h5 ha (by decide)) _⟩
theorem joinKeepOk0 {w2 : World} {g g5 c5 k : Nat} {f : Nat → Int} {own : Bool} {W : World} (h : Below w2.heap.size w2 W) (hg : w2.heap.size ≤ g) (hl : w2.heap.size ≤ g5) (ha : Arr W 26 g 2 (bx (.slice (some ⟨g5, 0, none⟩) k c5) (.bool own))) (h5 : Arr W 3 g5 k (iv f)) :
    JoinKOk w2 W g g5 c5 k f own := ⟨joinKeep0 h hg ha, hl, h5⟩
theorem joinCutOk {P : Program} {c : Code} {Q : Exit → Act → World → Prop} {a : Act} {w : World} (w2 : World) (k : Nat) (f : Nat → Int) (own : Bool) (F : Nat → Nat → Nat → Nat → Nat → Act)
    (reg : c.wp P (fun e a w' => ∃ g3 g4 g6 g5 c5, e = .normal ∧ a = F g3 g4 g6 g5 c5 ∧ JoinKOk w2 w' g6 g5 c5 k f own) a w)
    (cont : ∀ g3 g4 g6 g5 c5 w', JoinKOk w2 w' g6 g5 c5 k f own → Q .normal (F g3 g4 g6 g5 c5) w') : c.wp P Q a w :=
  Code.wp_mono (fun e a w' h => by obtain ⟨g3, g4, g6, g5, c5, rfl, rfl, h⟩ := h; exact cont g3 g4 g6 g5 c5 w' h) reg
theorem heldGraph_any (A : Option Addr) (n c : Nat) (own : Bool) (k : Int) (w : World) (hn : n ≤ 1048576) (h0 : 0 ≤ k) (h1 : k ≤ 4611686018427387904) (hs : Src w A n (iv (marks k))) :
    Calls Tryd.prog 17 #[.agg #[.slice A n c, .bool own], .int .i64 k] w fun e w' => e = .returned (.int .i64 (k + n)) ∧ Below w.heap.size w w' := by
  have HS := hide hs
  clear hs
  have hp : ¬ (k + n < 0) := by omega
  go_enter Tryd.func17, Tryd.ntmps17
  go_wp2_with (go_at_call 25; refine (heldIntS_any _ _ _ _ _ hn h0 h1 (HS.out.alloc _)).mono ?_; rintro e w1 ⟨rfl, rfl⟩)
  go_ret
  exact ⟨rfl, by go_grown⟩
end Go.Proofs.YtdpoceijnbbmgaaDoor
