import Derived.Test.YtmkdikoogbedkaaDoorU
import Derived.Test.YtmkdikoogbedkaaDoorTK
namespace Go.Proofs.YtmkdikoogbedkaaDoor
open Go.RowKit
set_option maxHeartbeats 1000000
/-- The cells of a list of sets. -/
def lv (L : List Nat) : Nat → Value := fun k => .int .i64 (L.getD k 0 : Nat)
theorem lv_get {L : List Nat} {k : Nat} (h : k < L.length) : lv L k = .int .i64 (L[k] : Nat) := by
  simp [lv, h]
/-- The values of a list of sets. -/
def vl (L : List Nat) : List Value := L.map (fun x => Value.int .i64 (x : Nat))
theorem vl_snoc (L : List Nat) (b : Nat) : vl (L ++ [b]) = vl L ++ [.int .i64 (b : Nat)] := by simp [vl]
theorem vl_row (L : List Nat) : vl L = rowL L.length (lv L) := by
  apply List.ext_getElem?
  intro k
  by_cases h : k < L.length
  · rw [rowL_get _ _ _ h]; simp [vl, lv, h]
  · rw [List.getElem?_eq_none (by simp [vl]; omega), List.getElem?_eq_none (by simp [rowL]; omega)]
/-- A list of sets in a row of the call's own, in a block from B on. -/
def OL (w : World) (B : Nat) (v : Value) (L : List Nat) : Prop := w.ownsRow B 3 1 v L.length (vl L)
theorem OL.src {w : World} {B : Nat} {A : Option Addr} {n c : Nat} {L : List Nat} (h : OL w B (.slice A n c) L) (hn : L.length = n) : Src w A n (lv L) := by
  subst hn; unfold OL at h; rw [vl_row] at h; exact own_src h
theorem OL.nil (w : World) (B : Nat) : OL w B (.slice none 0 0) [] := World.ownsRow_nil _ _ _ _
theorem OL.all {w w' : World} {B : Nat} {v : Value} {L : List Nat} (h : OL w B v L) (hb : Below w.heap.size w w') : OL w' B v L := own_below h hb
theorem OL.alloc {w : World} {B : Nat} {v : Value} {L : List Nat} (h : OL w B v L) (o : Obj) : OL (w.alloc o) B v L := h.all ((Below.refl _ _).alloc (Nat.le_refl _) _)
theorem OL.far {w : World} {B : Nat} {v : Value} {L : List Nat} (h : OL w B v L) {p : Addr} (hp : p.block < B) (u : Value) : OL (w.setCell p u) B v L :=
  own_setCell h (by intro e; have := World.ownsRow.lt h _ e; omega) u
end Go.Proofs.YtmkdikoogbedkaaDoor
