import Derived.Test.YtibikoajejfdeaaDoorMB
import Derived.Test.YtibikoajejfdeaaDoorBase
import Derived.Deep.MidRow
import Derived.Laws.Tables
namespace Go.Proofs.YtibikoajejfdeaaDoor
open Go.RowKit
set_option maxHeartbeats 400000
/-- Block g is just the cells cs of type t, none frozen. -/
def Blk (w : World) (t : TypeId) (g : Nat) (cs : Array Value) : Prop := w.heap[g]? = some (.cells cs t (0, 0))
section
variable {w w' : World} {g : Nat} {t : TypeId} {cs : Array Value}
theorem Blk.lt (h : Blk w t g cs) : g < w.heap.size := (Array.getElem?_eq_some_iff.1 h).1
theorem Blk.cell (h : Blk w t g cs) (i : Nat) : w.cell? ⟨g, i, none⟩ = cs[i]? := cell_of_row w g i cs t (0, 0) h
theorem Blk.frozen (h : Blk w t g cs) (i : Nat) : w.frozen? ⟨g, i, none⟩ = false := frozen_of_row w g i cs t h
theorem Blk.new (w : World) (t : TypeId) (cs : Array Value) {b : Nat} (hb : b = w.heap.size) : Blk (w.alloc (.cells cs t)) t b cs := by subst hb; exact heap_alloc_new w _
theorem Blk.drew (h : Blk w t g cs) : Blk w.drew t g cs := h
theorem Blk.drewN (h : Blk w t g cs) (k : Nat) : Blk (w.drewN k) t g cs := h
theorem Blk.alloc (h : Blk w t g cs) (o : Obj) : Blk (w.alloc o) t g cs := (Below.heap_alloc w o g h.lt).trans h
theorem Blk.set (h : Blk w t g cs) (i : Nat) (u : Value) : Blk (w.setCell ⟨g, i, none⟩ u) t g (cs.setIfInBounds i u) := by
  unfold Blk at h ⊢
  simp [World.setCell, Array.getElem?_modify, h]
theorem Blk.far (h : Blk w t g cs) {p : Addr} (hp : g ≠ p.block) (u : Value) : Blk (w.setCell p u) t g cs := (Below.heap_setCell w p u g hp).trans h
theorem Blk.all (h : Blk w t g cs) (hb : Below w.heap.size w w') : Blk w' t g cs := (hb.block g h.lt).trans h
theorem Blk.below {B : Nat} (h : Blk w t g cs) (hb : Below B w w') (hg : g < B) : Blk w' t g cs := (hb.block g hg).trans h
theorem Blk.row (h : Blk w t g cs) (cs' : Array Value) : Blk (w.setRow g cs') t g cs' := setRow_heap w g cs cs' t (0, 0) h
end
theorem below_row {B g : Nat} {w0 w : World} (hb : Below B w0 w) (hBg : B ≤ g) (cs : Array Value) : Below B w0 (w.setRow g cs) :=
  hb.trans ⟨rfl, rfl, rfl, by simp [World.setRow], fun k hk => setRow_other w g k cs (by omega)⟩
/-- What a call that hands back a board leaves. -/
def BoardVal (w : World) (near own : Value) (L : Nat → Bool) (e : Ending) (w' : World) : Prop :=
  ∃ L' : Nat → Bool, e = .returned (.agg (bd near own L')) ∧ (∀ j, j < 16 → L' j = L j) ∧ Below w.heap.size w w'
end Go.Proofs.YtibikoajejfdeaaDoor
