/-
A forest in memory, and what the search's closure does to it.
-/
import Derived.Test.YtmcimfblhpflnaaDoorTP
import Derived.Test.YtmcimfblhpflnaaDoorBD
import Derived.Test.YtmcimfblhpflnaaDoorZa
import Derived.Deep.RegionLaw
namespace Go.Proofs.YtmcimfblhpflnaaDoor
open Go.RowKit
set_option maxHeartbeats 2000000
/-- The block that a slice lies in. -/
def ob (A : Option Addr) : Option Nat := A.map (·.block)
theorem ob_own (A : Option Addr) (n c : Nat) : (Value.slice A n c).ownBlock = ob A := by cases A <;> rfl
/-- Nothing is turned but the forest's block, its parents' and the list's. -/
structure Kx (fb gp : Nat) (A A' : Option Addr) (w w' : World) : Prop where
  os : w'.os = w.os
  tape : w'.tape = w.tape
  output : w'.output = w.output
  size : w.heap.size ≤ w'.heap.size
  block : ∀ k, k < w.heap.size → k ≠ fb → k ≠ gp → ob A ≠ some k → w'.heap[k]? = w.heap[k]?
  own : ob A' = ob A ∨ ∃ k, ob A' = some k ∧ w.heap.size ≤ k
section
variable {fb gp : Nat} {A A' A'' : Option Addr} {w w' w'' : World}
theorem Kx.refl (fb gp : Nat) (A : Option Addr) (w : World) : Kx fb gp A A w w := ⟨rfl, rfl, rfl, Nat.le_refl _, fun _ _ _ _ _ => rfl, .inl rfl⟩
theorem Kx.trans (h : Kx fb gp A A' w w') (k : Kx fb gp A' A'' w' w'') : Kx fb gp A A'' w w'' := by
  refine ⟨k.os.trans h.os, k.tape.trans h.tape, k.output.trans h.output, Nat.le_trans h.size k.size, fun i hi h1 h2 h3 => ?_, ?_⟩
  · have h4 : ob A' ≠ some i := by
      rcases h.own with e | ⟨j, e, hj⟩
      · rw [e]; exact h3
      · rw [e]; intro e2; injection e2 with e2; omega
    exact (k.block i (Nat.lt_of_lt_of_le hi h.size) h1 h2 h4).trans (h.block i hi h1 h2 h3)
  · rcases k.own with e | ⟨j, e, hj⟩
    · rw [e]; exact h.own
    · exact .inr ⟨j, e, Nat.le_trans h.size hj⟩
theorem Kx.of_below (fb gp : Nat) (A : Option Addr) (h : Below w.heap.size w w') : Kx fb gp A A w w' := ⟨h.os, h.tape, h.output, h.size, fun k hk _ _ _ => h.block k hk, .inl rfl⟩
theorem Kx.cell (h : Kx fb gp A A' w w') {b o : Nat} {v : Value} (hc : w.cell? ⟨b, o, none⟩ = some v) (h1 : b ≠ fb) (h2 : b ≠ gp) (h3 : ob A ≠ some b) : w'.cell? ⟨b, o, none⟩ = some v := by
  have hl := World.block_lt_of_cell? w _ hc
  rw [← hc]
  exact World.cell?_of_block (h.block b hl h1 h2 h3)
/-- A block that is there and none of these stays none of these. -/
theorem Kx.off (h : Kx fb gp A A' w w') {b : Nat} (hb : b < w.heap.size) (h3 : ob A ≠ some b) : ob A' ≠ some b := by
  rcases h.own with e | ⟨j, e, hj⟩
  · rw [e]; exact h3
  · rw [e]; intro e2; injection e2 with e2; omega
theorem Kx.below {B : Nat} {w0 : World} (h : Kx fb gp A A' w w') (hb : Below B w0 w) (hB : B ≤ w.heap.size) (h1 : B ≤ fb) (h2 : B ≤ gp) (h3 : ∀ k, ob A = some k → B ≤ k) : Below B w0 w' :=
  ⟨h.os.trans hb.os, h.tape.trans hb.tape, h.output.trans hb.output, Nat.le_trans hb.size h.size, fun k hk =>
    (h.block k (by omega) (by omega) (by omega) (fun e => by have := h3 k e; omega)).trans (hb.block k hk)⟩
end
/-- A forest: its graph, the parents p, and the list l of what is reached. -/
structure FS (w : World) (B fb g n c gp cp : Nat) (own : Bool) (F : Nat → Nat) (A : Option Addr) (m d : Nat) (l : List Nat) (p : Nat → Int) : Prop where
  blk : Blk w 56 fb #[.slice (some ⟨g, 0, none⟩) n c, .bool own, .slice (some ⟨gp, 0, none⟩) n cp, .slice A m d]
  near : Arr w 3 g n (iv (nv F))
  par : Arr w 3 gp n (iv p)
  lst : OL w B (.slice A m d) l
  len : l.length = m
  gB : g < B
  fB : fb < B
  pB : gp < B
  fg : fb ≠ g
  fp : fb ≠ gp
  gg : g ≠ gp
section
variable {w w' : World} {B fb g n c gp cp m d : Nat} {own : Bool} {F : Nat → Nat} {A : Option Addr} {l : List Nat} {p : Nat → Int}
theorem FS.off (h : FS w B fb g n c gp cp own F A m d l p) : ∀ k, ob A = some k → B ≤ k ∧ k < w.heap.size := fun k hk => World.ownsRow.lt h.lst k (by rw [ob_own]; exact hk)
theorem FS.all (h : FS w B fb g n c gp cp own F A m d l p) (hb : Below w.heap.size w w') : FS w' B fb g n c gp cp own F A m d l p :=
  ⟨h.blk.all hb, h.near.all hb, h.par.all hb, h.lst.all hb, h.len, h.gB, h.fB, h.pB, h.fg, h.fp, h.gg⟩
theorem FS.drewN (h : FS w B fb g n c gp cp own F A m d l p) (k : Nat) : FS (w.drewN k) B fb g n c gp cp own F A m d l p := h.all (below_drewN (Below.refl _ _) _)
theorem FS.drew (h : FS w B fb g n c gp cp own F A m d l p) : FS w.drew B fb g n c gp cp own F A m d l p := h.all (Below.drew (Below.refl _ _))
theorem FS.alloc (h : FS w B fb g n c gp cp own F A m d l p) (o : Obj) : FS (w.alloc o) B fb g n c gp cp own F A m d l p := h.all ((Below.refl _ _).alloc (Nat.le_refl _) _)
end
/-- 'append(s, x)', s a list of the call's own: one step of a region that draws; what block the list lies in behind it. -/
theorem step_append_own {ops : Array Oper} {o : Oper} {a : Act} {w : World} {K : Act → World → Prop} {Q : Exit → Act → World → Prop} {E : Prop}
    (hgd : o.guard = none) (s x : Operand) (ho : o.op = Op.call { callee := Callee.builtin Builtin.append, args := #[s, x], argTypes := #[22, 22] })
    (B : Nat) (A : Option Addr) (c n : Nat) (L : List Nat) (b g : Nat)
    (hs : a.eval s = .slice A n c) (hown : OL w B (.slice A n c) L) (hn : L.length = n)
    (hx : a.eval x = .slice (some ⟨g, 0, none⟩) 1 1) (hnew : w.cell? ⟨g, 0, none⟩ = some (.int .i64 (b : Nat))) (hlen : n ≤ 1048576) (hB : B ≤ w.heap.size)
    (h : ∀ A' c' w', OL w' B (.slice A' (n + 1) c') (L ++ [b]) → w.grownBy w' (ob A) → (ob A' = ob A ∨ ob A' = some w.heap.size) → K (a.put o.dst (.slice A' (n + 1) c')) w') :
    if Region.wanted o (yielded ops a.tmps) = true then Oper.wp Tryd.prog o a w K Q else E := by
  have hw : Region.wanted o (yielded ops a.tmps) = true := by simp [Region.wanted, hgd]
  rw [if_pos hw]
  obtain ⟨i0, hi, hz0, hz1, hz2⟩ := info_parts int_info
  subst hn
  obtain ⟨v', w', hrun, h3, h4, _, h5⟩ := run_append_own_at (P := Tryd.prog) w B 22 o.type 3 i0 (.int .i64 0) 1 8 Tryd.underlying22 hi hz0 hz1 hz2 rfl (by decide) _ L.length (vl L) hown ⟨g, 0, none⟩ 1 1 [.int .i64 (b : Nat)] rfl
    (fun j u hj => by
      match j, hj with
      | 0, hj => simp at hj; subst hj; simpa [Addr.add] using hnew)
    (by intro u hu; simp at hu; subst hu; rfl) (by unfold maxLen; omega) (by omega) hB
  obtain ⟨A', c', rfl⟩ := own_form h3
  unfold Oper.wp execOp
  simp only [ho, resolve, invoke, builtin, Sem.run_bind, Sem.run_pure, Result.andThen_ok, List.map_toArray, List.map_cons, List.map_nil, hs, hx, hrun]
  refine h A' c' w' ?_ (by rw [← ob_own A L.length c]; exact h4) (by rw [← ob_own A L.length c, ← ob_own A' (L.length + 1) c']; exact h5)
  unfold OL
  rw [vl_snoc, List.length_append]
  exact h3
end Go.Proofs.YtmcimfblhpflnaaDoor
