import Derived.Test.YtggcjmdadomlaaaDoorMB
import Derived.Deep.MidRow
import Derived.Laws.Tables
namespace Go.Proofs.YtggcjmdadomlaaaDoor
open Go.RowKit
set_option maxHeartbeats 400000
/-- Block g is just the cells cs of type t, none frozen. -/
def Blk (w : World) (t : TypeId) (g : Nat) (cs : Array Value) : Prop := w.heap[g]? = some (.cells cs t (0, 0))
section
variable {w w' : World} {g : Nat} {t : TypeId} {cs : Array Value}
theorem Blk.lt (h : Blk w t g cs) : g < w.heap.size := (Array.getElem?_eq_some_iff.1 h).1
theorem Blk.cell (h : Blk w t g cs) (i : Nat) : w.cell? ⟨g, i, none⟩ = cs[i]? := cell_of_row w g i cs t (0, 0) h
theorem Blk.frozen (h : Blk w t g cs) (i : Nat) : w.frozen? ⟨g, i, none⟩ = false := frozen_of_row w g i cs t h
theorem Blk.new (w : World) (t : TypeId) (cs : Array Value) {b : Nat} (hb : b = w.heap.size) : Blk (w.alloc (.cells cs t)) t b cs := by subst hb; exact heap_alloc_new w _
theorem Blk.drew (h : Blk w t g cs) : Blk w.drew t g cs := h
theorem Blk.drewN (h : Blk w t g cs) (k : Nat) : Blk (w.drewN k) t g cs := h
theorem Blk.alloc (h : Blk w t g cs) (o : Obj) : Blk (w.alloc o) t g cs := (Below.heap_alloc w o g h.lt).trans h
theorem Blk.set (h : Blk w t g cs) (i : Nat) (u : Value) : Blk (w.setCell ⟨g, i, none⟩ u) t g (cs.setIfInBounds i u) := by
  unfold Blk at h ⊢
  simp [World.setCell, Array.getElem?_modify, h]
theorem Blk.far (h : Blk w t g cs) {p : Addr} (hp : g ≠ p.block) (u : Value) : Blk (w.setCell p u) t g cs := (Below.heap_setCell w p u g hp).trans h
theorem Blk.all (h : Blk w t g cs) (hb : Below w.heap.size w w') : Blk w' t g cs := (hb.block g h.lt).trans h
theorem Blk.below {B : Nat} (h : Blk w t g cs) (hb : Below B w w') (hg : g < B) : Blk w' t g cs := (hb.block g hg).trans h
theorem Blk.row (h : Blk w t g cs) (cs' : Array Value) : Blk (w.setRow g cs') t g cs' := setRow_heap w g cs cs' t (0, 0) h
end
theorem below_row {B g : Nat} {w0 w : World} (hb : Below B w0 w) (hBg : B ≤ g) (cs : Array Value) : Below B w0 (w.setRow g cs) :=
  hb.trans ⟨rfl, rfl, rfl, by simp [World.setRow], fun k hk => setRow_other w g k cs (by omega)⟩
theorem board_info : (Tryd.prog.info? 47).map (·.size) = some 18 := by kernel_rfl
/-- What a call that hands back a board leaves. -/
def BoardVal (w : World) (near own : Value) (L : Nat → Bool) (e : Ending) (w' : World) : Prop :=
  ∃ L' : Nat → Bool, e = .returned (.agg (bd near own L')) ∧ (∀ j, j < 16 → L' j = L j) ∧ Below w.heap.size w w'
theorem wpList_load_board {ops : Array Oper} {rest : List Oper} {o : Oper} {a : Act} {w : World} {Q : Exit → Act → World → Prop} (hgd : o.guard = none) (x : Operand) (ho : o.op = .load 47 x)
    (g : Nat) (hx : a.eval x = .pointer (some ⟨g, 0, none⟩)) (near own : Value) (L : Nat → Bool) (hg : Blk w 47 g (bd near own L))
    (h : wpList Tryd.prog ops Q rest (a.put o.dst (.agg (bd near own L))) w) : wpList Tryd.prog ops Q (o :: rest) a w :=
  wpList_load_row hgd 47 x ho g hx 47 _ (0, 0) _ hg Tryd.underlying47 rfl (by rw [bd_size]; exact board_info) h
theorem wpList_store_board {ops : Array Oper} {rest : List Oper} {o : Oper} {a : Act} {w : World} {Q : Exit → Act → World → Prop} (hgd : o.guard = none) (x y : Operand) (ho : o.op = .store 47 x y)
    (g : Nat) (near own : Value) (L : Nat → Bool) (hx : a.eval x = .pointer (some ⟨g, 0, none⟩)) (hy : a.eval y = .agg (bd near own L)) (h0 : near.oneCell' = true) (h1 : own.oneCell' = true)
    (near' own' : Value) (L' : Nat → Bool) (hg : Blk w 47 g (bd near' own' L'))
    (h : wpList Tryd.prog ops Q rest (a.put o.dst undef) (w.setRow g (bd near own L))) : wpList Tryd.prog ops Q (o :: rest) a w :=
  wpList_store_row hgd 47 x y ho g _ hx hy 47 _ hg (by rw [bd_size]; exact board_info) (by rw [bd_size, bd_size]) (bd_one _ _ _ h0 h1) h
theorem boardWith_any (g n c : Nat) (own : Bool) (s : Nat) (w : World) (hn : n ≤ 16) (hs : s < 2 ^ n) (_ : g < w.heap.size) :
    Calls Tryd.prog 28 #[.agg #[.slice (some ⟨g, 0, none⟩) n c, .bool own], .int .i64 s] w (BoardVal w (.slice (some ⟨g, 0, none⟩) n c) (.bool own) s.testBit) := by
  have HS := hide hs
  clear hs
  go_enter Tryd.func28, Tryd.ntmps28
  go_wp2
  go_loopw [12] (fun i wr => ∃ k : Nat, k ≤ n ∧ i = .int .i64 k ∧ Blk wr 47 (w.heap.size + 1 + 1) (bd (.slice (some ⟨g, 0, none⟩) n c) (.bool own) (fun j => decide (j < k) && s.testBit j)) ∧ Blk wr 47 (w.heap.size + 1) (bd (.slice none 0 0) (.bool false) (fun _ => false)) ∧ Below w.heap.size w wr)
    (fun i _ => n - (intOf i).toNat)
  case atStart => exact ⟨0, by omega, rfl, Blk.new ((w.alloc _).alloc _) 47 _ (by simp), (Blk.new (w.alloc _) 47 _ (by simp)).alloc _, by go_grown⟩
  case round =>
    obtain ⟨k, hk, rfl, hb, hr, hw⟩ := hrel
    by_cases hlt : k < n
    · have hc := (hb.cell (2 + k)).trans (bd_get _ _ _ k (by omega))
      have hz := hb.frozen (2 + k)
      have HB := hide hb
      have HR := hide hr
      have HW := hide hw
      clear hb hr hw
      go_wp2_with (go_at_call 44; refine (has_any _ _ (by omega) (by omega) _).mono ?_; rintro e w3 ⟨rfl, rfl⟩; simp only [Int.toNat_natCast, bt_nat])
      go_roundw
      case rel =>
        refine ⟨k + 1, by omega, by go_num, ?_, HR.out.far (by simp) _, HW.out.setCell (by simp; omega) _⟩
        have h := HB.out.set (2 + k) (.bool (s.testBit k))
        rw [bd_set] at h
        have e : (fun j => if j = k then s.testBit k else decide (j < k) && s.testBit j) = (fun j => decide (j < k + 1) && s.testBit j) := by
          funext j
          by_cases hj : j = k
          · subst hj; simp
          · rw [if_neg hj]
            by_cases h2 : j < k
            · simp [h2, show j < k + 1 by omega]
            · simp [h2, show ¬ j < k + 1 by omega]
        rw [e] at h
        exact h
      case measure => simp [intOf]; omega
    · have hkn : k = n := by omega
      subst hkn
      have HB := hide hb
      have HR := hide hr
      have HW := hide hw
      clear hb hr hw
      go_wp2_with (first | (with_reducible refine wpList_load_board rfl (.tmp 5) rfl (w.heap.size + 1 + 1) rfl _ _ _ HB.out ?_) | (with_reducible refine wpList_store_board rfl (.tmp 4) (.tmp 22) rfl (w.heap.size + 1) _ _ _ rfl rfl rfl rfl _ _ _ HR.out ?_))
      refine bodyPost_ret (results_cell_row (p := 4) (ty := 47) rfl _ _ (w.heap.size + 1) 47 _ (0, 0) _ rfl (Blk.row HR.out _) Tryd.underlying47 rfl (by rw [bd_size]; exact board_info)) rfl ?_
      have hsz := HW.out.size
      refine ⟨_, rfl, fun j hj => ?_, below_row HW.out (by omega) _⟩
      by_cases h2 : j < k
      · simp [h2]
      · simp [h2, bit_above HS.out (show k ≤ j by omega)]
end Go.Proofs.YtggcjmdadomlaaaDoor
