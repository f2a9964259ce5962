/-
The closure of the search: a button gets its parent and is put on the list.
-/
import Derived.Test.YtmcimfblhpflnaaDoorFA
namespace Go.Proofs.YtmcimfblhpflnaaDoor
open Go.RowKit
set_option maxHeartbeats 2000000
theorem FS.setPar {w : World} {B fb g n c gp cp m d : Nat} {own : Bool} {F : Nat → Nat} {A : Option Addr} {l : List Nat} {p : Nat → Int} (h : FS w B fb g n c gp cp own F A m d l p) (j i : Nat) :
    FS (w.setCell ⟨gp, j, none⟩ (.int .i64 (i : Nat))) B fb g n c gp cp own F A m d l (upd p j i) := by
  refine ⟨h.blk.far (p := ⟨gp, j, none⟩) h.fp _, h.near.far (p := ⟨gp, j, none⟩) h.gg _, (h.par.set j _).congr (fun k hk => ?_), h.lst.far (p := ⟨gp, j, none⟩) h.pB _, h.len, h.gB, h.fB, h.pB, h.fg, h.fp, h.gg⟩
  simp only [iv, upd]
  split <;> rfl
theorem Kx.setPar {fb gp : Nat} {A A' : Option Addr} {w w' : World} (h : Kx fb gp A A' w w') (j : Nat) (u : Value) : Kx fb gp A A' w (w'.setCell ⟨gp, j, none⟩ u) :=
  ⟨h.os, h.tape, h.output, by simpa [World.setCell] using h.size, fun k hk h1 h2 h3 => (Below.heap_setCell w' ⟨gp, j, none⟩ u k (fun e => h2 e)).trans (h.block k hk h1 h2 h3), h.own⟩
theorem Kx.setTop {fb gp : Nat} {A A' : Option Addr} {w w' : World} (h : Kx fb gp A A' w w') (j : Nat) (u : Value) : Kx fb gp A A' w (w'.setCell ⟨fb, j, none⟩ u) :=
  ⟨h.os, h.tape, h.output, by simpa [World.setCell] using h.size, fun k hk h1 h2 h3 => (Below.heap_setCell w' ⟨fb, j, none⟩ u k (fun e => h1 e)).trans (h.block k hk h1 h2 h3), h.own⟩
theorem Kx.drewN {fb gp : Nat} {A A' : Option Addr} {w w' : World} (h : Kx fb gp A A' w w') (k : Nat) : Kx fb gp A A' w (w'.drewN k) :=
  ⟨h.os, h.tape, h.output, h.size, h.block, h.own⟩
theorem Kx.grown {fb gp : Nat} {A A' A'' : Option Addr} {w w' w'' : World} (h : Kx fb gp A A' w w') (hg : w'.grownBy w'' (ob A')) (ho : ob A'' = ob A' ∨ ob A'' = some w'.heap.size) : Kx fb gp A A'' w w'' :=
  h.trans ⟨hg.os, hg.tape, hg.output, hg.size, fun k hk _ _ h3 => hg.block k hk (fun e => h3 e.symm), ho.imp id (fun e => ⟨_, e, Nat.le_refl _⟩)⟩
theorem al_cell {w : World} {a : Addr} {v : Value} (h : w.cell? a = some v) (o : Obj) : (w.alloc o).cell? a = some v :=
  (Below.cell ((Below.refl w.heap.size w).alloc (Nat.le_refl _) o) (p := a) (World.block_lt_of_cell? w _ h)).trans h
theorem FS.push {w w5 : World} {B fb g n c gp cp m d c5 j : Nat} {own : Bool} {F : Nat → Nat} {A A5 : Option Addr} {l : List Nat} {p : Nat → Int} (h : FS w B fb g n c gp cp own F A m d l p)
    (hg : w.grownBy w5 (ob A)) (ho : OL w5 B (.slice A5 (m + 1) c5) (l ++ [j])) : FS (w5.setCell ⟨fb, 3, none⟩ (.slice A5 (m + 1) c5)) B fb g n c gp cp own F A5 (m + 1) c5 (l ++ [j]) p := by
  have off : ∀ b, b < B → some b ≠ ob A := fun b hb e => by have := (h.off b e.symm).1; omega
  have hb5 : Blk w5 56 fb _ := (hg.block fb h.blk.lt (off fb h.fB)).trans h.blk
  have hn5 := h.near.of_block (hg.block g h.near.lt (off g h.gB))
  have hp5 := h.par.of_block (hg.block gp h.par.lt (off gp h.pB))
  refine ⟨?_, hn5.far (p := ⟨fb, 3, none⟩) (fun e => h.fg e.symm) _, hp5.far (p := ⟨fb, 3, none⟩) (fun e => h.fp e.symm) _, ho.far (p := ⟨fb, 3, none⟩) h.fB _, by rw [List.length_append, h.len]; rfl, h.gB, h.fB, h.pB, h.fg, h.fp, h.gg⟩
  have := hb5.set 3 (.slice A5 (m + 1) c5)
  simpa using this
set_option maxRecDepth 4000 in
theorem reach_closure (B fb g n c gp cp ib pb m d i j : Nat) (own : Bool) (F : Nat → Nat) (A : Option Addr) (l : List Nat) (p : Nat → Int) (w : World) (hj : j < n) (hm : m ≤ 64) (hn : n ≤ 16) (hB : B ≤ w.heap.size)
    (hS : FS w B fb g n c gp cp own F A m d l p) (hi : w.cell? ⟨ib, 0, none⟩ = some (.int .i64 (i : Nat))) (hp : w.cell? ⟨pb, 0, none⟩ = some (.pointer (some ⟨fb, 0, none⟩)))
    (p1 : pb ≠ fb) (p2 : pb ≠ gp) (p3 : ob A ≠ some pb) :
    Calls Tryd.prog 102 #[.int .i64 j, .pointer (some ⟨ib, 0, none⟩), .pointer (some ⟨pb, 0, none⟩)] w fun e w' => e = .returned (.tuple #[]) ∧ ∃ A' d', FS w' B fb g n c gp cp own F A' (m + 1) d' (l ++ [j]) (upd p j i) ∧ Kx fb gp A A' w w' := by
  have k2 : w.cell? ⟨fb, 2, none⟩ = some (.slice (some ⟨gp, 0, none⟩) n cp) := hS.blk.cell 2
  have k3 : w.cell? ⟨fb, 3, none⟩ = some (.slice A m d) := hS.blk.cell 3
  have kp := hS.par.cell hj
  have kz := hS.par.frozen j
  have hjn : (j : Int) < (n : Int) := by omega
  have hfl := hS.blk.lt
  have hpl := hS.par.lt
  have HS := hide hS
  have HP := hide hp
  clear hS
  go_enter Tryd.func102, Tryd.ntmps102
  go_wp2_with fail
  go_region
  have HS1 := hide (HS.out.setPar j i).drew
  have HK1 : Hid (Kx fb gp A A w (w.setCell ⟨gp, j, none⟩ (.int .i64 (i : Nat))).drew) := hide (((Kx.refl fb gp A w).setPar j _).drewN 1)
  have kb : (w.setCell ⟨gp, j, none⟩ (.int .i64 (i : Nat))).drew.cell? ⟨pb, 0, none⟩ = some (.pointer (some ⟨fb, 0, none⟩)) := (World.cell?_of_block (Below.heap_setCell w ⟨gp, j, none⟩ _ pb p2)).trans HP.out
  have hB1 : B ≤ (w.setCell ⟨gp, j, none⟩ (.int .i64 (i : Nat))).drew.heap.size := by simpa [World.setCell, World.drew] using hB
  have hpbl : pb < (w.setCell ⟨gp, j, none⟩ (.int .i64 (i : Nat))).drew.heap.size := World.block_lt_of_cell? _ _ kb
  clear kp kz k2 k3 hi hfl hpl
  generalize hW : (w.setCell ⟨gp, j, none⟩ (.int .i64 (i : Nat))).drew = W1 at *
  have k3 : W1.cell? ⟨fb, 3, none⟩ = some (.slice A m d) := HS1.out.blk.cell 3
  have kz : W1.frozen? ⟨fb, 3, none⟩ = false := HS1.out.blk.frozen 3
  have hfl := HS1.out.blk.lt
  have hfB := HS1.out.fB
  have hne : ob A ≠ some fb := fun e => by have := (HS1.out.off fb e).1; omega
  go_wp2_with fail
  go_region_law (first
    | (refine step_append_own rfl (.tmp 15) (.tmp 17) rfl B A d m l j W1.heap.size rfl (HS1.out.lst.drew.alloc _) HS1.out.len rfl (by simp [go_sem]) (by omega) (by simp; omega) ?_; intro A5 c5 w5 ho5 hg5 hob5; have HO5 := hide ho5; have HG5 := hide hg5; have HOB5 := hide hob5; have hbk5 := (hg5.block fb (by simp; omega) (fun e => hne e.symm)).trans (HS1.out.blk.drew.alloc _); have HBK5 : Hid (Blk w5 56 fb _) := hide hbk5; have q0 : w5.cell? ⟨fb, 3, none⟩ = some (.slice A m d) := HBK5.out.cell 3; have q1 : w5.frozen? ⟨fb, 3, none⟩ = false := HBK5.out.frozen 3; have ql : fb < w5.heap.size := HBK5.out.lt; have qb : w5.cell? ⟨pb, 0, none⟩ = some (.pointer (some ⟨fb, 0, none⟩)) := World.grownBy.cell hg5 (al_cell kb _) (fun e => p3 e.symm); clear ho5 hg5 hob5 hbk5))
  all_goals
    go_end0
    refine ⟨rfl, A5, c5, ?_, ?_⟩
    · exact FS.push (HS1.out.drew.alloc _) HG5.out HO5.out
    · exact ((HK1.out.trans (Kx.of_below fb gp A ((by go_grown : Below W1.heap.size W1 _)))).grown HG5.out HOB5.out).setTop 3 _
end Go.Proofs.YtmcimfblhpflnaaDoor
