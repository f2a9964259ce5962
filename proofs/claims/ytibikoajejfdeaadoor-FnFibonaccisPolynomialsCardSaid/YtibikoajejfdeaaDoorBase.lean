/-
Plain words for memory: a block whose first cells are known by a function of the index, and a slice argument that reads so. Nothing here speaks of the program.
-/
import Derived.WalkKit
import Derived.WalkSpells
import Derived.WalkLawsBesides
import Derived.Deep.OwnRows
import Derived.Deep.Draws
import Derived.BigQuiet
import Derived.Deep.QuietTactic
import Derived.Lib.Hide
namespace Go.Proofs.YtibikoajejfdeaaDoor
open Go.RowKit

/-- Block g holds cells of type t, none frozen; its first n cells are f 0, f 1, .. -/
def Arr (w : World) (t : TypeId) (g n : Nat) (f : Nat → Value) : Prop :=
  ∃ c : Array Value, w.heap[g]? = some (.cells c t (0, 0)) ∧ n ≤ c.size ∧ ∀ k, k < n → c[k]? = some (f k)

/-- The contents of an int slice. -/
def iv (f : Nat → Int) : Nat → Value := fun k => .int .i64 (f k)

/-- A slice argument that reads as f 0, .., f (n - 1): nothing is asked of an empty one. -/
def Src (w : World) (A : Option Addr) (n : Nat) (f : Nat → Value) : Prop :=
  ∀ k, k < n → ∃ b off, A = some ⟨b, off, none⟩ ∧ b < w.heap.size ∧ w.cell? ⟨b, off + k, none⟩ = some (f k)

section
variable {w w' : World} {t : TypeId} {g n B : Nat} {f f' : Nat → Value} {A : Option Addr}

theorem Arr.lt (h : Arr w t g n f) : g < w.heap.size := by
  obtain ⟨c, hb, _, _⟩ := h
  exact (Array.getElem?_eq_some_iff.1 hb).1
theorem Arr.cell (h : Arr w t g n f) {k : Nat} (hk : k < n) : w.cell? ⟨g, k, none⟩ = some (f k) := by
  obtain ⟨c, hb, _, hc⟩ := h
  simp [World.cell?, hb, hc k hk]
theorem Arr.frozen (h : Arr w t g n f) (i : Nat) : w.frozen? ⟨g, i, none⟩ = false := by
  obtain ⟨c, hb, _, _⟩ := h
  simp [World.frozen?, hb]
theorem Arr.congr (h : Arr w t g n f) (e : ∀ k, k < n → f k = f' k) : Arr w t g n f' := by
  obtain ⟨c, hb, hn, hc⟩ := h
  exact ⟨c, hb, hn, fun k hk => by rw [hc k hk, e k hk]⟩
theorem Arr.of_block (h : Arr w t g n f) (e : w'.heap[g]? = w.heap[g]?) : Arr w' t g n f := by
  obtain ⟨c, hb, hn, hc⟩ := h
  exact ⟨c, e.trans hb, hn, hc⟩
theorem Arr.below (h : Arr w t g n f) (hb : Below B w w') (hg : g < B) : Arr w' t g n f := h.of_block (hb.block g hg)
theorem Arr.all (h : Arr w t g n f) (hb : Below w.heap.size w w') : Arr w' t g n f := h.below hb h.lt
theorem Arr.drew (h : Arr w t g n f) : Arr w.drew t g n f := h
theorem Arr.drewN (h : Arr w t g n f) (k : Nat) : Arr (w.drewN k) t g n f := h
theorem Arr.alloc (h : Arr w t g n f) (o : Obj) : Arr (w.alloc o) t g n f := h.of_block (Below.heap_alloc w o g h.lt)
theorem Arr.far (h : Arr w t g n f) {p : Addr} (hp : g ≠ p.block) (u : Value) : Arr (w.setCell p u) t g n f := h.of_block (Below.heap_setCell w p u g hp)
theorem Arr.set (h : Arr w t g n f) (i : Nat) (v : Value) : Arr (w.setCell ⟨g, i, none⟩ v) t g n (fun j => if j = i then v else f j) := by
  obtain ⟨c, hb, hn, hc⟩ := h
  refine ⟨c.setIfInBounds i v, ?_, by simpa using hn, fun j hj => ?_⟩
  · simp [World.setCell, Array.getElem?_modify, hb]
  · rw [Array.getElem?_setIfInBounds]
    by_cases e : j = i
    · subst e
      simp; omega
    · rw [if_neg (fun h => e h.symm)]
      show c[j]? = some (if j = i then v else f j)
      rw [if_neg e]
      exact hc j hj
theorem Arr.take (h : Arr w t g n f) {m : Nat} (hm : m ≤ n) : Arr w t g m f := by
  obtain ⟨c, hb, hn, hc⟩ := h
  exact ⟨c, hb, by omega, fun k hk => hc k (by omega)⟩
theorem Arr.new (w : World) (c : Array Value) (t : TypeId) (f : Nat → Value) (hc : ∀ i, i < c.size → c[i]? = some (f i)) : Arr (w.alloc (.cells c t)) t w.heap.size c.size f :=
  ⟨c, heap_alloc_new w _, Nat.le_refl _, hc⟩
theorem Arr.made (w : World) (z : Value) (n : Nat) (t : TypeId) : Arr (w.alloc (.cells (madeCells #[z] n) t)) t w.heap.size n (fun _ => z) :=
  ⟨_, heap_alloc_new w _, by rw [size_madeCells]; exact Nat.le_refl _, fun i hi => by simp [madeCells, hi, Nat.mod_one]⟩
theorem Arr.ne_ {g' n' : Nat} {t' : TypeId} (h : Arr w t g n f) (h' : Arr w t' g' n' f') (hne : t ≠ t') : g ≠ g' := by
  rintro rfl
  obtain ⟨c, hb, _, _⟩ := h
  obtain ⟨c', hb', _, _⟩ := h'
  rw [hb] at hb'
  injection hb' with hb'
  injection hb' with _ ht
  exact hne ht

theorem Src.of_arr (h : Arr w t g n f) : Src w (some ⟨g, 0, none⟩) n f := fun k hk => ⟨g, 0, rfl, h.lt, by rw [Nat.zero_add]; exact h.cell hk⟩
theorem Src.nil : Src w A 0 f := fun k hk => absurd hk (by omega)
theorem Src.below (h : Src w A n f) (hb : Below w.heap.size w w') : Src w' A n f := fun k hk => by
  obtain ⟨b, off, e, hlt, hc⟩ := h k hk
  exact ⟨b, off, e, Nat.lt_of_lt_of_le hlt hb.size, (hb.cell (p := ⟨b, off + k, none⟩) hlt).trans hc⟩
theorem Src.alloc (h : Src w A n f) (o : Obj) : Src (w.alloc o) A n f := h.below ((Below.refl _ _).alloc (Nat.le_refl _) _)
theorem Src.drew (h : Src w A n f) : Src w.drew A n f := h
theorem Src.drewN (h : Src w A n f) (k : Nat) : Src (w.drewN k) A n f := h
theorem below_drewN {B : Nat} {a w : World} (h : Below B a w) (n : Nat) : Below B a (w.drewN n) := ⟨h.os, h.tape, h.output, h.size, h.block⟩
theorem hide {p : Prop} (h : p) : Hid p := h
theorem bcell {W w1 : World} (hb : Below W.heap.size W w1) : (∀ b o, b < W.heap.size → w1.cell? ⟨b, o, none⟩ = W.cell? ⟨b, o, none⟩) ∧ (∀ b o, b < W.heap.size → w1.frozen? ⟨b, o, none⟩ = W.frozen? ⟨b, o, none⟩) :=
  ⟨fun b o h => hb.cell (p := ⟨b, o, none⟩) h, fun b o h => hb.frozen (p := ⟨b, o, none⟩) h⟩
end
/-- Four cells, and what became of them: two structs of two cells each, held while new memory is made. -/
theorem four_below {W w' : World} {a b : Nat} {u0 u1 v0 v1 : Value} (hb : Below W.heap.size W w')
    (h : W.cell? ⟨a, 0, none⟩ = some u0 ∧ W.cell? ⟨a, 1, none⟩ = some u1 ∧ W.cell? ⟨b, 0, none⟩ = some v0 ∧ W.cell? ⟨b, 1, none⟩ = some v1) :
    w'.cell? ⟨a, 0, none⟩ = some u0 ∧ w'.cell? ⟨a, 1, none⟩ = some u1 ∧ w'.cell? ⟨b, 0, none⟩ = some v0 ∧ w'.cell? ⟨b, 1, none⟩ = some v1 := by
  obtain ⟨h1, h2, h3, h4⟩ := h
  have l1 := World.block_lt_of_cell? W _ h1
  have l3 := World.block_lt_of_cell? W _ h3
  exact ⟨(hb.cell (p := ⟨a, 0, none⟩) l1).trans h1, (hb.cell (p := ⟨a, 1, none⟩) l1).trans h2, (hb.cell (p := ⟨b, 0, none⟩) l3).trans h3, (hb.cell (p := ⟨b, 1, none⟩) l3).trans h4⟩
theorem quiet_add {P : Program} {f : FuncId} {args : Array Value} {w : World} {a n : Nat} {v : Value}
    (h : Calls P f args (w.drewN (a + n)) fun e w' => e = .returned v ∧ ∃ m, w' = (w.drewN (a + n)).drewN m) :
    Calls P f args (w.drewN (a + n)) fun e w'' => e = .returned v ∧ ∃ m, w'' = w.drewN (a + m) :=
  h.mono fun _ _ ⟨he, m, hm⟩ => ⟨he, n + m, by rw [hm, World.drewN_drewN, Nat.add_assoc]⟩
theorem quiet_add_same {P : Program} {f : FuncId} {args : Array Value} {w : World} {a n : Nat} {v : Value}
    (h : Calls P f args (w.drewN (a + n)) fun e w' => e = .returned v ∧ w' = w.drewN (a + n)) :
    Calls P f args (w.drewN (a + n)) fun e w'' => e = .returned v ∧ ∃ m, w'' = w.drewN (a + m) :=
  h.mono fun _ _ ⟨he, hm⟩ => ⟨he, n, hm⟩
end Go.Proofs.YtibikoajejfdeaaDoor
