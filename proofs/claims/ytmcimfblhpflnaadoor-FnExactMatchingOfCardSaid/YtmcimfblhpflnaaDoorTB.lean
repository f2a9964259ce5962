/-
slices.Backward over a list of buttons: what its iterator hands to a loop's body.
-/
import Derived.Test.YtmcimfblhpflnaaDoorLR
import Derived.Test.YtmcimfblhpflnaaDoorB
import Derived.RangeFuncNested
import Derived.RangeFuncBound
import Derived.RangeFuncCalls
import Derived.RangeFuncLeaves
import Derived.RangeFuncBox
import Derived.Shelf.Abstract
import Derived.Shelf.RegionOpen
import Derived.WalkKit
import Derived.OwnWalkIn
import Derived.TacticsInMore
import Derived.LoopNIn
import Derived.LoopIn
namespace Go.Proofs.YtmcimfblhpflnaaDoor
open Go.RowKit Go.Shelf
attribute [local go_sem] Oper.semAt_some
/-- What has come when k rounds are over: from the last one on. -/
def bk {α : Type} (el : Nat → α) (len k : Nat) : List α := (List.range k).map fun j => el (len - 1 - j)
theorem bk_succ {α : Type} (el : Nat → α) (len k : Nat) : bk el len (k + 1) = bk el len k ++ [el (len - 1 - k)] := by simp [bk, List.range_succ]
theorem bk_length {α : Type} (el : Nat → α) (len k : Nat) : (bk el len k).length = k := by simp [bk]
/-- What lay below m lies as it lay, and so does the block q. -/
def Kq (m q : Nat) (W W' : World) : Prop := Below m W W' ∧ W'.heap[q]? = W.heap[q]?
theorem Kq.refl (m q : Nat) (W : World) : Kq m q W W := ⟨Below.refl _ _, rfl⟩
theorem Kq.trans {m q : Nat} {A B C : World} (h : Kq m q A B) (k : Kq m q B C) : Kq m q A C := ⟨h.1.trans k.1, k.2.trans h.2⟩
theorem Kq.put {m q : Nat} {w : World} (hm : m ≤ w.heap.size) (hq : q < w.heap.size) (W : World) (l : Nat) (o o' : Obj) (hl : w.heap.size ≤ l) (h : W.heap[l]? = some o) (h1 : o.isCells = false) (h2 : o.isWalk = false) : Kq m q W (W.putObj l o') :=
  ⟨belowK_b (w := w) hm W l o o' hl h h1 h2, World.putObj_heap_other (by omega)⟩
set_option maxRecDepth 100000 in
set_option maxHeartbeats 2000000 in
theorem back1_in {α : Type} (el : Nat → α) (enc : α → Array Value) (F : Fence) (n : Nat) (h8 : F.fn 83) (hro : F.round = none) (hn : 1 ≤ n) (l Bs m b len cap : Nat) (f : Nat → Nat) (hreach : len ≤ 1048576) (hb : b < m) (J Jx : List α → World → Prop) (henc : ∀ j, j < len → enc (el j) = #[.int .i64 (j : Nat), .int .i64 (f j : Nat)])
    (hY : ∀ pre x W, J pre W → pre.length < len → YieldAt F (n - 1) Tryd.prog l (enc x) W fun e W' =>
      (e = .returned (.bool true) ∧ J (pre ++ [x]) W' ∧ Kq m Bs W W') ∨ (e = .returned (.bool false) ∧ Jx (pre ++ [x]) W'))
    (W : World) (hBs : W.cell? ⟨Bs, 0, none⟩ = some (.slice (some ⟨b, 0, none⟩) len cap)) (hc : ∀ j, j < len → W.cell? ⟨b, j, none⟩ = some (.int .i64 (f j : Nat))) (h0 : J [] W) :
    CallsIn F n Tryd.prog 83 #[.func (.yield l) #[] #[], .pointer (some ⟨Bs, 0, none⟩)] W fun e W' => (∃ v, e = .returned v) ∧
      ((∃ ys, ys = bk el len len ∧ J ys W') ∨ (∃ pre, (∃ k, k ≤ len ∧ pre = bk el len k) ∧ Jx pre W')) := by
  refine callsIn_of_wp Tryd.func83 rfl h8 ?_ hro
  simp only [Tryd.ntmps83, List.size_toArray, List.length_cons, List.length_nil, Nat.reduceAdd, Nat.reduceSub, Array.replicate_succ, Array.replicate_zero, List.push_toArray, List.append_toArray, List.nil_append, List.cons_append]
  gi_wp2
  gi_loopw [3] (fun i wr => ∃ r k : Nat, r + k = len ∧ i = .int .i64 ((r : Int) - 1) ∧ J (bk el len k) wr ∧ Kq m Bs W wr)
    (fun i _ => (intOf i + 1).toNat)
  case atStart => exact ⟨len, 0, rfl, rfl, h0, Kq.refl _ _ _⟩
  case round =>
    obtain ⟨r, k, hrk, rfl, hJs, hnx⟩ := hrel
    have hBx : wr.cell? ⟨Bs, 0, none⟩ = some (.slice (some ⟨b, 0, none⟩) len cap) := (World.cell?_of_block hnx.2).trans hBs
    by_cases hr0 : r = 0
    · subst hr0
      obtain rfl : k = len := by omega
      rw [show (((0 : Nat) : Int) - 1) = -1 from rfl]
      gi_wp2
      go_end0
      exact ⟨⟨_, rfl⟩, .inl ⟨_, rfl, hJs⟩⟩
    · obtain ⟨q, rfl⟩ : ∃ q, r = q + 1 := ⟨r - 1, by omega⟩
      have hql : q < len := by omega
      have hqi : (q : Int) < (len : Int) := by omega
      have hcx : wr.cell? ⟨b, q, none⟩ = some (.int .i64 (f q : Nat)) := (hnx.1.cell (p := ⟨b, q, none⟩) hb).trans (hc q hql)
      obtain ⟨fn, tmps, assign, body, hy, hR⟩ := hY _ (el q) wr hJs (by rw [bk_length]; omega)
      rw [henc q hql] at hy
      have hqk : len - 1 - k = q := by omega
      rw [show (((q + 1 : Nat) : Int) - 1) = (q : Int) by omega]
      gi_wp2
      refine hR.mono ?_
      rintro e W3 (⟨rfl, hJ3, hk3⟩ | ⟨rfl, hJx3⟩)
      · gi_wp2
        go_roundw
        case rel => exact ⟨q, k + 1, by omega, rfl, by rw [bk_succ, hqk]; exact hJ3, hnx.trans hk3⟩
        case measure => simp [intOf] <;> omega
      · gi_wp2
        refine bodyPost_ret (results_none rfl _ _ _) rfl ?_
        exact ⟨⟨_, rfl⟩, .inr ⟨_, ⟨k + 1, by omega, by rw [bk_succ, hqk]⟩, hJx3⟩⟩
/-- slices.Backward(s): the slice is boxed; the function value captures the box. -/
theorem back_any (a : Option Addr) (len cap : Nat) (w : World) :
    Calls Tryd.prog 59 #[.slice a len cap] w fun e w' => e = .returned (.func (.func 83) #[] #[.pointer (some ⟨w.heap.size, 0, none⟩)]) ∧ w' = w.alloc (.cells #[.slice a len cap] 22) := by
  go_enter Tryd.func59, Tryd.ntmps59
  go_wp2
  go_ret
  exact ⟨rfl, rfl⟩
theorem back_stops {α : Type} (el : Nat → α) (enc : α → Array Value) (F : Fence) (n : Nat) (h8 : F.fn 83) (hro : F.round = none) (hn : 1 ≤ n) (Bs m b len cap : Nat) (f : Nat → Nat) (hreach : len ≤ 1048576) (w : World) (hm : m ≤ w.heap.size) (hb : b < m)
    (hBl : Bs < w.heap.size) (hc : w.cell? ⟨Bs, 0, none⟩ = some (.slice (some ⟨b, 0, none⟩) len cap)) (hI : ∀ j, j < len → w.cell? ⟨b, j, none⟩ = some (.int .i64 (f j : Nat))) (henc : ∀ j, j < len → enc (el j) = #[.int .i64 (j : Nat), .int .i64 (f j : Nat)]) :
    SeqStopsK F n Tryd.prog 83 #[.pointer (some ⟨Bs, 0, none⟩)] enc (Kq m Bs) (fun ys => ys = bk el len len) (fun pre => ∃ k, k ≤ len ∧ pre = bk el len k) len w := fun l J Jx W hW _ _ hY h0 =>
  back1_in el enc F n h8 hro hn l Bs m b len cap f hreach hb J Jx henc hY W ((hW.cell (p := ⟨Bs, 0, none⟩) hBl).trans hc) (fun j hj => (hW.cell (p := ⟨b, j, none⟩) (show b < w.heap.size by omega)).trans (hI j hj)) h0
end Go.Proofs.YtmcimfblhpflnaaDoor
