/-
Lists of lists of ints: what is read of them, what a call owns of them, and three small functions of the laws over them.
-/
import Derived.Test.YtdpoceijnbbmgaaDoorH
import Derived.Test.YtdpoceijnbbmgaaDoorC
namespace Go.Proofs.YtdpoceijnbbmgaaDoor
open Go.RowKit
set_option maxHeartbeats 400000

/-- A list of lists, read alone. -/
def RD (w : World) (A : Option Addr) (n : Nat) (Ai : Nat → Option Addr) (ln C : Nat → Nat) (R : Nat → Nat → Int) : Prop :=
  ∀ k, k < n → ∃ b off, A = some ⟨b, off, none⟩ ∧ b < w.heap.size ∧ w.cell? ⟨b, off + k, none⟩ = some (.slice (Ai k) (ln k) (C k)) ∧ Src w (Ai k) (ln k) (iv (R k))

/-- Nothing is written but into blocks from lo to hi. -/
structure KB (lo hi : Nat) (w w' : World) : Prop where
  os : w'.os = w.os
  tape : w'.tape = w.tape
  output : w'.output = w.output
  size : w.heap.size ≤ w'.heap.size
  block : ∀ k, k < w.heap.size → (k < lo ∨ hi ≤ k) → w'.heap[k]? = w.heap[k]?

section
variable {w w' w'' : World} {A : Option Addr} {n lo hi B : Nat} {Ai : Nat → Option Addr} {ln C : Nat → Nat} {R : Nat → Nat → Int}

theorem RD.below (h : RD w A n Ai ln C R) (hb : Below w.heap.size w w') : RD w' A n Ai ln C R := fun k hk => by
  obtain ⟨b, off, e, hl, hc, hs⟩ := h k hk
  exact ⟨b, off, e, Nat.lt_of_lt_of_le hl hb.size, (hb.cell (p := ⟨b, off + k, none⟩) hl).trans hc, hs.below hb⟩
theorem RD.alloc (h : RD w A n Ai ln C R) (o : Obj) : RD (w.alloc o) A n Ai ln C R := h.below ((Below.refl _ _).alloc (Nat.le_refl _) _)
theorem RD.drew (h : RD w A n Ai ln C R) : RD w.drew A n Ai ln C R := h
theorem RD.drewN (h : RD w A n Ai ln C R) (k : Nat) : RD (w.drewN k) A n Ai ln C R := h

theorem KB.refl (lo hi : Nat) (w : World) : KB lo hi w w := ⟨rfl, rfl, rfl, Nat.le_refl _, fun _ _ _ => rfl⟩
theorem KB.trans (h : KB lo hi w w') (k : KB lo hi w' w'') : KB lo hi w w'' :=
  ⟨k.os.trans h.os, k.tape.trans h.tape, k.output.trans h.output, Nat.le_trans h.size k.size, fun i hi hx => (k.block i (Nat.lt_of_lt_of_le hi h.size) hx).trans (h.block i hi hx)⟩
theorem KB.of_grown {g : Nat} (h : w.grownBy w' (some g)) (h0 : lo ≤ g) (h1 : g < hi) : KB lo hi w w' :=
  ⟨h.os, h.tape, h.output, h.size, fun k hk hx => h.block k hk (fun e => by injection e with e; omega)⟩
theorem KB.of_below (h : Below w.heap.size w w') : KB lo hi w w' := ⟨h.os, h.tape, h.output, h.size, fun k hk _ => h.block k hk⟩
theorem KB.below (h : KB lo hi w w') (h0 : B ≤ lo) (h1 : B ≤ w.heap.size) : Below B w w' :=
  ⟨h.os, h.tape, h.output, h.size, fun k hk => h.block k (by omega) (.inl (by omega))⟩
theorem KB.arr {t : TypeId} {g m : Nat} {f : Nat → Value} (h : KB lo hi w w') (ha : Arr w t g m f) (hx : g < lo ∨ hi ≤ g) : Arr w' t g m f := ha.of_block (h.block g ha.lt hx)
theorem KB.cell (h : KB lo hi w w') {b o : Nat} (hb : b < w.heap.size) (hx : b < lo ∨ hi ≤ b) : w'.cell? ⟨b, o, none⟩ = w.cell? ⟨b, o, none⟩ := World.cell?_of_block (w := w) (h.block b hb hx)
theorem KB.frozen (h : KB lo hi w w') {b o : Nat} (hb : b < w.heap.size) (hx : b < lo ∨ hi ≤ b) : w'.frozen? ⟨b, o, none⟩ = w.frozen? ⟨b, o, none⟩ := World.frozen?_of_block (w := w) (h.block b hb hx)
theorem KB.drewN (h : KB lo hi w w') (k : Nat) : KB lo hi w (w'.drewN k) := ⟨h.os, h.tape, h.output, h.size, h.block⟩
theorem KB.src {f : Nat → Value} (h : KB lo hi w w') (hs : Src w A n f) (hx : ∀ b off, A = some ⟨b, off, none⟩ → b < lo ∨ hi ≤ b) : Src w' A n f := fun k hk => by
  obtain ⟨b, off, e, hl, hc⟩ := hs k hk
  exact ⟨b, off, e, Nat.lt_of_lt_of_le hl h.size, (h.cell hl (hx b off e)).trans hc⟩

/-- A list of lists that lies between the blocks lo and hi: the list itself, and its rows each in a block of its own. -/
structure SS (w : World) (lo hi : Nat) (A : Option Addr) (n : Nat) (G : Nat → Nat) (ln C : Nat → Nat) (R : Nat → Nat → Int) : Prop where
  top : ∀ k, k < n → ∃ b off, A = some ⟨b, off, none⟩ ∧ (lo ≤ b ∧ b < hi ∧ b < w.heap.size) ∧ w.cell? ⟨b, off + k, none⟩ = some (.slice (some ⟨G k, 0, none⟩) (ln k) (C k)) ∧ ∀ j, j < n → G j ≠ b
  row : ∀ k, k < n → lo ≤ G k ∧ G k < hi ∧ Arr w 3 (G k) (ln k) (iv (R k)) ∧ ∀ j, j < k → G j < G k

variable {G : Nat → Nat}
theorem SS.rd (h : SS w lo hi A n G ln C R) : RD w A n (fun k => some ⟨G k, 0, none⟩) ln C R := fun k hk => by
  obtain ⟨b, off, e, hl, hc, _⟩ := h.top k hk
  exact ⟨b, off, e, hl.2.2, hc, Src.of_arr (h.row k hk).2.2.1⟩
theorem SS.nil : SS w lo hi A 0 G ln C R := ⟨fun k hk => absurd hk (by omega), fun k hk => absurd hk (by omega)⟩
theorem SS.all (h : SS w lo hi A n G ln C R) (hb : Below w.heap.size w w') : SS w' lo hi A n G ln C R := by
  refine ⟨fun k hk => ?_, fun k hk => ?_⟩
  · obtain ⟨b, off, e, hl, hc, hn⟩ := h.top k hk
    exact ⟨b, off, e, ⟨hl.1, hl.2.1, Nat.lt_of_lt_of_le hl.2.2 hb.size⟩, (hb.cell (p := ⟨b, off + k, none⟩) hl.2.2).trans hc, hn⟩
  · obtain ⟨h1, h2, h3, h4⟩ := h.row k hk
    exact ⟨h1, h2, h3.all hb, h4⟩
theorem SS.alloc (h : SS w lo hi A n G ln C R) (o : Obj) : SS (w.alloc o) lo hi A n G ln C R := h.all ((Below.refl _ _).alloc (Nat.le_refl _) _)
theorem SS.drew (h : SS w lo hi A n G ln C R) : SS w.drew lo hi A n G ln C R := ⟨h.top, h.row⟩
theorem SS.drewN (h : SS w lo hi A n G ln C R) (k : Nat) : SS (w.drewN k) lo hi A n G ln C R := ⟨h.top, h.row⟩
theorem SS.kept {lo' hi' : Nat} (h : SS w lo hi A n G ln C R) (hb : KB lo' hi' w w') (hx : hi' ≤ lo ∨ hi ≤ lo') : SS w' lo hi A n G ln C R := by
  refine ⟨fun k hk => ?_, fun k hk => ?_⟩
  · obtain ⟨b, off, e, hl, hc, hn⟩ := h.top k hk
    exact ⟨b, off, e, ⟨hl.1, hl.2.1, Nat.lt_of_lt_of_le hl.2.2 hb.size⟩, (hb.cell hl.2.2 (by omega)).trans hc, hn⟩
  · obtain ⟨h1, h2, h3, h4⟩ := h.row k hk
    exact ⟨h1, h2, hb.arr h3 (by omega), h4⟩
theorem RD.kept (h : RD w A n Ai ln C R) (hb : KB lo hi w w') (hs : w.heap.size ≤ lo) : RD w' A n Ai ln C R := h.below (hb.below hs (Nat.le_refl _))
end

/-- The lengths of the first rows, added up. -/
def sumL (ln : Nat → Nat) : Nat → Nat
  | 0 => 0
  | k + 1 => sumL ln k + ln k
theorem sumL_le {ln : Nat → Nat} {n m : Nat} (h : ∀ k, k < n → ln k ≤ m) : sumL ln n ≤ n * m := by
  induction n with
  | zero => simp [sumL]
  | succ n ih =>
    have h1 := ih fun k hk => h k (by omega)
    have h2 := h n (by omega)
    rw [sumL, Nat.succ_mul]
    omega

theorem slice_info : (Tryd.prog.info? 22).map (fun i => (i.zero, i.size, i.bytes)) = some (some (.slice none 0 0), 1, 24) := by kernel_rfl

end Go.Proofs.YtdpoceijnbbmgaaDoor
