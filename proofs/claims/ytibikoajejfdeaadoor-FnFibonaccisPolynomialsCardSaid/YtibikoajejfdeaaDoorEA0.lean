import Derived.Test.YtibikoajejfdeaaDoorM
import Derived.Test.YtibikoajejfdeaaDoorB
import Derived.Ground.Names7Prog
import Derived.Shelf.Lay
import Derived.Shelf.Spec.TrailingZeros
namespace Go.Proofs
open Go.Shelf
shelf_lay Lays7.n27 Nm7 27 at Tryd as Tryd.ctz
end Go.Proofs
namespace Go.Proofs.YtibikoajejfdeaaDoor
open Go.RowKit
set_option maxHeartbeats 400000
/-- The table of the library, in its variable. -/
def Tab (w : World) : Prop := TabAt (Tryd.ctz_ren.g 1) Lib.deBruijn64tab w
theorem Tab.lt {w : World} (h : Tab w) : 1 < w.heap.size := World.block_lt_of_cell? w _ (h 0 (by decide))
theorem Tab.grown {w w' : World} {b : Nat} (h : Tab w) (hg : w.grownBy w' (some b)) (hb : b ≠ Tryd.ctz_ren.g 1) (hl : Tryd.ctz_ren.g 1 < w.heap.size) : Tab w' := fun j hj => by
  rw [← h j hj]
  have := hg.block (Tryd.ctz_ren.g 1) hl (by intro e; injection e with e; exact hb e.symm)
  simp only [World.cell?, this]
theorem Tab.below {w w' : World} (h : Tab w) (hb : Below w.heap.size w w') : Tab w' := fun j hj => by
  rw [← h j hj]
  have := hb.block (Tryd.ctz_ren.g 1) h.lt
  simp only [World.cell?, this]
theorem Tab.below' {w w' : World} {B : Nat} (h : Tab w) (hb : Below B w w') (hB : 1 < B) : Tab w' := fun j hj => by
  rw [← h j hj]
  have := hb.block (Tryd.ctz_ren.g 1) hB
  simp only [World.cell?, this]
theorem ctz_any (x : Nat) (hx : x < 18446744073709551616) (w : World) (hT : Tab w) :
    Calls Tryd.prog 45 #[.int .u64 x] w fun e w' => e = .returned (.int .i64 (Lib.ctz 64 x)) ∧ w = w' :=
  (Any7.bits_TrailingZeros Tryd.ctz x (by omega) w (fun _ => hT)).mono fun e w' h => ⟨h.1, h.2.symm⟩
end Go.Proofs.YtibikoajejfdeaaDoor
