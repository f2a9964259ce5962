import Derived.Test.YtibikoajejfdeaaDoorH
import Derived.Handy
namespace Go.Proofs.YtibikoajejfdeaaDoor
open Go.RowKit
set_option maxHeartbeats 400000
/-- The two cells of a graph's struct. -/
def nv (F : Nat → Nat) : Nat → Int := fun k => (F k : Int)
def bx (v0 v1 : Value) : Nat → Value := fun k => if k = 0 then v0 else v1
theorem Arr.box (w : World) (t : TypeId) (v0 v1 : Value) : Arr (w.alloc (.cells #[v0, v1] t)) t w.heap.size 2 (bx v0 v1) :=
  Arr.new w #[v0, v1] t _ (fun i hi => by
    have : i = 0 ∨ i = 1 := by simp at hi; omega
    rcases this with rfl | rfl <;> rfl)
theorem Arr.box_at (w : World) (t : TypeId) (v0 v1 : Value) {b : Nat} (h : b = w.heap.size) : Arr (w.alloc (.cells #[v0, v1] t)) t b 2 (bx v0 v1) := by subst h; exact Arr.box w t v0 v1
theorem Arr.made_at (w : World) (z : Value) (n : Nat) (t : TypeId) {f : Nat → Value} {b : Nat} (h : b = w.heap.size) (hf : ∀ k, k < n → f k = z) : Arr (w.alloc (.cells (madeCells #[z] n) t)) t b n f := by
  subst h; exact (Arr.made w z n t).congr (fun k hk => (hf k hk).symm)
theorem Arr.grown {w w' : World} {t : TypeId} {g n : Nat} {f : Nat → Value} {row : Nat} (h : Arr w t g n f) (hg : w.grownBy w' (some row)) (hne : g ≠ row) : Arr w' t g n f :=
  h.of_block (hg.block g h.lt (by intro e; injection e with e; exact hne e))
/-- What a call that hands back a new graph leaves. -/
def GraphVal (w : World) (n : Nat) (f : Nat → Int) (own : Bool) (e : Ending) (w' : World) : Prop :=
  ∃ g c, e = .returned (.agg #[.slice (some ⟨g, 0, none⟩) n c, .bool own]) ∧ w.heap.size ≤ g ∧ Arr w' 3 g n (iv f) ∧ Below w.heap.size w w'
end Go.Proofs.YtibikoajejfdeaaDoor
