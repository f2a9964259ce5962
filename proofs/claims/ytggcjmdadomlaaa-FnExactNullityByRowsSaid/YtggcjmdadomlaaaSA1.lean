import Derived.Test.YtggcjmdadomlaaaRS
import Derived.Deep.MidRow
import Derived.Deep.Cut
import Derived.Deep.RegionWith
namespace Go.Proofs.Ytggcjmdadomlaaa
open Go.RowKit
set_option maxHeartbeats 1000000
/-- The cells of a table of sixteen rows. -/
def tabL (f : Nat → Nat) : List Value := (List.range 16).map (fun i => Value.int .i64 (f i : Nat))
def tabA (f : Nat → Nat) : Array Value := (tabL f).toArray
theorem tabL_length (f : Nat → Nat) : (tabL f).length = 16 := by simp [tabL]
theorem tabL_get (f : Nat → Nat) {i : Nat} (h : i < 16) : (tabL f)[i]? = some (.int .i64 (f i : Nat)) := by simp [tabL, h]
theorem tabA_size (f : Nat → Nat) : (tabA f).size = 16 := by simp [tabA, tabL]
theorem tabA_get (f : Nat → Nat) {i : Nat} (h : i < 16) : (tabA f)[i]? = some (.int .i64 (f i : Nat)) := by simpa [tabA] using tabL_get f h
theorem tabL_congr {f g : Nat → Nat} (h : ∀ i, i < 16 → f i = g i) : tabL f = tabL g := by
  unfold tabL
  apply List.map_congr_left
  intro i hi
  rw [h i (List.mem_range.1 hi)]
theorem tab_info : (Try.prog.info? 68).map (·.size) = some 16 := by kernel_rfl
theorem tab_one (f : Nat → Nat) : (tabA f).all (·.oneCell') = true := all_oneCell_toArray (fun v hv => by
  simp only [tabL, List.mem_map] at hv
  obtain ⟨i, _, rfl⟩ := hv
  rfl)
def zeroT : Array Value := #[.int .i64 0, .int .i64 0, .int .i64 0, .int .i64 0, .int .i64 0, .int .i64 0, .int .i64 0, .int .i64 0, .int .i64 0, .int .i64 0, .int .i64 0, .int .i64 0, .int .i64 0, .int .i64 0, .int .i64 0, .int .i64 0]
theorem zeroT_eq : zeroT = tabA (fun _ => 0) := rfl
/-- Block b is a table. -/
def Tab (w : World) (b : Nat) (f : Nat → Nat) : Prop := Blk w 68 b (tabA f)
section
variable {w w' : World} {b : Nat} {f : Nat → Nat}
theorem Tab.new (w : World) (C : Array Value) (f : Nat → Nat) (hC : C = tabA f) {b : Nat} (hb : b = w.heap.size) : Tab (w.alloc (.cells C 68)) b f := by subst hC; exact Blk.new w 68 _ hb
theorem Tab.alloc (h : Tab w b f) (o : Obj) : Tab (w.alloc o) b f := Blk.alloc h o
theorem Tab.all (h : Tab w b f) (hb : Below w.heap.size w w') : Tab w' b f := Blk.all h hb
theorem Tab.lt (h : Tab w b f) : b < w.heap.size := Blk.lt h
theorem Tab.cell (h : Tab w b f) {i : Nat} (hi : i < 16) : w.cell? ⟨b, i, none⟩ = some (.int .i64 (f i : Nat)) := (Blk.cell h i).trans (tabA_get f hi)
theorem Tab.frozen (h : Tab w b f) (i : Nat) : w.frozen? ⟨b, i, none⟩ = false := Blk.frozen h i
theorem Tab.far (h : Tab w b f) {p : Addr} (hp : b ≠ p.block) (u : Value) : Tab (w.setCell p u) b f := Blk.far h hp u
theorem tabA_set (f : Nat → Nat) (j x : Nat) : (tabA f).setIfInBounds j (.int .i64 (x : Nat)) = tabA (fun i => if i = j then x else f i) := by
  apply Array.ext_getElem?
  intro i
  rw [Array.getElem?_setIfInBounds]
  by_cases hi : i < 16
  · by_cases hj : j = i
    · subst hj
      rw [if_pos rfl, if_pos (by rw [tabA_size]; exact hi), tabA_get _ hi, if_pos rfl]
    · rw [if_neg hj, tabA_get _ hi, tabA_get _ hi, if_neg (fun e => hj e.symm)]
  · have h1 : (tabA (fun i => if i = j then x else f i))[i]? = none := Array.getElem?_eq_none (by rw [tabA_size]; omega)
    have h2 : (tabA f)[i]? = none := Array.getElem?_eq_none (by rw [tabA_size]; omega)
    rw [h1]
    by_cases hj : j = i
    · subst hj; rw [if_pos rfl, if_neg (by rw [tabA_size]; omega)]
    · rw [if_neg hj, h2]
theorem Tab.set (h : Tab w b f) (j x : Nat) : Tab (w.setCell ⟨b, j, none⟩ (.int .i64 (x : Nat))) b (fun i => if i = j then x else f i) := by
  have h2 := Blk.set h j (.int .i64 (x : Nat))
  rw [tabA_set] at h2
  exact h2
theorem tabA_congr {f g : Nat → Nat} (h : ∀ i, i < 16 → f i = g i) : tabA f = tabA g := by rw [tabA, tabA, tabL_congr h]
theorem Tab.congr {g : Nat → Nat} (h : Tab w b f) (e : ∀ i, i < 16 → f i = g i) : Tab w b g := by
  unfold Tab at h ⊢
  rw [← tabA_congr e]; exact h
theorem Tab.range (h : Tab w b f) : w.rangeAt b 0 (tabL f) := fun j v hv => by
  have hj : j < 16 := by
    rcases Nat.lt_or_ge j 16 with h | h
    · exact h
    · rw [List.getElem?_eq_none (by rw [tabL_length]; exact h)] at hv; cases hv
  rw [tabL_get _ hj] at hv
  rw [Nat.zero_add]
  exact (h.cell hj).trans hv
theorem Tab.load (h : Tab w b f) : (Instr.loadAt 68 (.pointer (some ⟨b, 0, none⟩))).run Try.prog w = .ok (.agg (tabA f)) w :=
  run_loadAt_mid w b 0 68 (tabL f) _ h.range Try.underlying68 rfl (by rw [tabL_length]; exact tab_info)
theorem wpList_load_tab {ops : Array Oper} {rest : List Oper} {o : Oper} {a : Act} {w : World} {Q : Exit → Act → World → Prop} (hgd : o.guard = none) (x : Operand) (ho : o.op = .load 68 x)
    (b : Nat) (hx : a.eval x = .pointer (some ⟨b, 0, none⟩)) (f : Nat → Nat) (hg : Tab w b f)
    (h : wpList Try.prog ops Q rest (a.put o.dst (.agg (tabA f))) w) : wpList Try.prog ops Q (o :: rest) a w :=
  wpList_load_mid hgd 68 x ho b 0 hx (tabL f) _ hg.range Try.underlying68 rfl (by rw [tabL_length]; exact tab_info) h
theorem wpList_store_tab {ops : Array Oper} {rest : List Oper} {o : Oper} {a : Act} {w : World} {Q : Exit → Act → World → Prop} (hgd : o.guard = none) (x y : Operand) (ho : o.op = .store 68 x y)
    (b : Nat) (hx : a.eval x = .pointer (some ⟨b, 0, none⟩)) (f g : Nat → Nat) (hy : a.eval y = .agg (tabA g)) (hg : Tab w b f)
    (h : wpList Try.prog ops Q rest (a.put o.dst undef) (w.setRow b (tabA g))) : wpList Try.prog ops Q (o :: rest) a w :=
  wpList_store_row hgd 68 x y ho b (tabA g) hx hy 68 (tabA f) hg (by rw [tabA_size]; exact tab_info) (by rw [tabA_size, tabA_size]) (tab_one g) h
theorem Tab.row (h : Tab w b f) (g : Nat → Nat) : Tab (w.setRow b (tabA g)) b g := Blk.row h (tabA g)
end
theorem next_zero (R c k b x : Nat) (own : Bool) (w : World) (hc : c ≤ 16) (hk : k ≤ 1048576) (hb : b < 2 ^ c) (hx : x < 2 ^ c) :
    Calls Try.prog 98 #[.agg #[.int .i64 R, .int .i64 c, .bool own, .int .i64 0], .int .i64 k, .int .i64 b, .int .i64 x] w fun e w' => e = .returned (.int .i64 (b ^^^ rt c own x : Nat)) ∧ Below w.heap.size w w' := by
  have h := next_any R c 0 k b x own w hc (by omega) hk hb hx
  rw [lr_zero, Nat.zero_xor] at h
  exact h
/-- What a step makes of two tables. -/
def stepT (c : Nat) (own : Bool) (B X : Nat → Nat) (n : Nat) : Nat → Nat := fun i => if i < n then B i ^^^ rt c own (X i) else X i
theorem closure_any (R c k Bc : Nat) (own : Bool) (B X : Nat → Nat) (Cb Cx : Array Value) (w : World) (hc : c ≤ 16) (hk : k ≤ 1048576) (hB : ∀ i, i < c → B i < 2 ^ c) (hX : ∀ i, i < c → X i < 2 ^ c)
    (hCb : Cb = tabA B) (hCx : Cx = tabA X) (hbx : Box4 w Bc (.int .i64 R) (.int .i64 c) (.bool own) (.int .i64 0)) :
    Calls Try.prog 97 #[.int .i64 k, .agg Cb, .agg Cx, .pointer (some ⟨Bc, 0, none⟩)] w fun e w' => e = .returned (.agg (tabA (stepT c own B X c))) ∧ Below w.heap.size w w' := by
  have hbl : Bc < w.heap.size := World.block_lt_of_cell? w _ hbx.1
  have HBX := Lib.hid hbx
  obtain ⟨k0, k1, k2, k3⟩ := hbx
  have HB := Lib.hid hB
  have HX := Lib.hid hX
  have HCb := Lib.hid hCb
  have HCx := Lib.hid hCx
  clear hB hX hCb hCx
  go_enter Try.func97, Try.ntmps97
  go_upto_region 1 with (fail)
  obtain ⟨W3, hW3⟩ : ∃ W3, ((w.alloc (.cells Cb 68)).alloc (.cells Cx 68)).alloc (.cells zeroT 68) = W3 := ⟨_, rfl⟩
  have hb3 : Below w.heap.size w W3 := by rw [← hW3]; exact (((Below.refl _ _).alloc (Nat.le_refl _) _).alloc (by simp) _).alloc (by simp; omega) _
  have ht5 : Tab W3 w.heap.size B := by rw [← hW3]; exact ((Tab.new w Cb B HCb.out rfl).alloc _).alloc _
  have ht6 : Tab W3 (w.heap.size + 1) X := by rw [← hW3]; exact (Tab.new _ Cx X HCx.out (by simp)).alloc _
  have ht7 : Tab W3 (w.heap.size + 1 + 1) (fun _ => 0) := by rw [← hW3]; exact Tab.new _ zeroT _ zeroT_eq (by simp)
  have hz3 : W3.heap.size = w.heap.size + 3 := by rw [← hW3]; simp
  have hk := HBX.out.below hb3
  rw [show (#[.int .i64 0, .int .i64 0, .int .i64 0, .int .i64 0, .int .i64 0, .int .i64 0, .int .i64 0, .int .i64 0, .int .i64 0, .int .i64 0, .int .i64 0, .int .i64 0, .int .i64 0, .int .i64 0, .int .i64 0, .int .i64 0] : Array Value) = zeroT from rfl, hW3]
  clear hW3 k0 k1 k2 k3
  obtain ⟨k0, k1, k2, k3⟩ := hk
  go_wp2_with fail
  clear k0 k1 k2 k3
  go_loopw [11] (fun i wr => ∃ j : Nat, j ≤ c ∧ i = .int .i64 j ∧ Tab wr w.heap.size B ∧ Tab wr (w.heap.size + 1) (stepT c own B X j) ∧ Tab wr (w.heap.size + 1 + 1) (fun _ => 0) ∧ Box4 wr Bc (.int .i64 R) (.int .i64 c) (.bool own) (.int .i64 0) ∧ Below w.heap.size w wr) (fun i _ => c - (intOf i).toNat)
  case atStart => exact ⟨0, by omega, rfl, ht5, ht6, ht7, HBX.out.below hb3, hb3⟩
  case round =>
    clear ht5 ht6 ht7 hb3 hz3
    obtain ⟨j, hj, rfl, h5, h6, h7, hbx, hb⟩ := hrel
    have H5 := Lib.hid h5
    have H6 := Lib.hid h6
    have H7 := Lib.hid h7
    have HBr := Lib.hid hb
    have HXr := Lib.hid hbx
    have hsz := hb.size
    have l6 := h6.lt
    have l7 := h7.lt
    by_cases hlt : j < c
    · have hj16 : (j : Int) < 16 := by omega
      have hj0 : (0 : Int) ≤ (j : Int) := by omega
      obtain ⟨k0, k1, k2, k3⟩ := hbx
      have c5 : wr.cell? ⟨w.heap.size, j, none⟩ = some (.int .i64 (B j : Nat)) := h5.cell (by omega)
      have c6 : wr.cell? ⟨w.heap.size + 1, j, none⟩ = some (.int .i64 (X j : Nat)) := by
        have h := h6.cell (i := j) (by omega)
        rw [stepT, if_neg (Nat.lt_irrefl j)] at h
        exact h
      have hBj := HB.out j hlt
      have hXj := HX.out j hlt
      have HST : Hid (∀ i, i < 16 → (if i = j then B j ^^^ rt c own (X j) else stepT c own B X j i) = stepT c own B X (j + 1) i) := Lib.hid (fun i _ => by
        unfold stepT
        by_cases hij : i = j
        · subst hij; simp
        · rw [if_neg hij]
          by_cases h2 : i < j
          · rw [if_pos h2, if_pos (by omega)]
          · rw [if_neg h2, if_neg (by omega)])
      clear h5 h6 h7 hb
      go_wp2_with fail
      go_region_with ((go_at_call 98; refine (next_zero R c k (B j) (X j) own _ hc hk hBj hXj).mono ?_; rintro e w3 ⟨rfl, hb3⟩; have hb3' : Below wr.heap.size wr w3 := (Below.drew (Below.refl wr.heap.size wr)).trans hb3; have h63 := Tab.all H6.out hb3'; have hc63 := h63.cell (i := j) (by omega); have hf63 := h63.frozen j; have hl63 := h63.lt; have HB3 := Lib.hid hb3'; clear hb3 hb3' h63))
      all_goals
        go_wp2
        go_roundw
        case rel => exact ⟨j + 1, by omega, by go_num, (H5.out.all HB3.out).far (by simp) _, ((H6.out.all HB3.out).set j _).congr HST.out, (H7.out.all HB3.out).far (by simp) _, (by obtain ⟨x1, x2, x3, x4⟩ := HXr.out.below HB3.out; exact ⟨(cell_apart (by simp; omega) x1), (cell_apart (by simp; omega) x2), (cell_apart (by simp; omega) x3), (cell_apart (by simp; omega) x4)⟩), (HBr.out.trans (HB3.out.mono hsz)).setCell (by simp) _⟩
        case measure => simp [intOf]; omega
    · have hjc : j = c := by omega
      subst hjc
      clear h5 h6 h7 hb hbx
      go_wp2_with (first | (with_reducible refine wpList_load_tab rfl (.tmp 6) rfl (w.heap.size + 1) rfl _ H6.out ?_) | (with_reducible refine wpList_store_tab rfl (.tmp 7) (.tmp 26) rfl (w.heap.size + 1 + 1) rfl _ _ rfl H7.out ?_))
      refine bodyPost_ret (results_cell_row (p := 7) (ty := 68) rfl _ _ (w.heap.size + 1 + 1) 68 _ (0, 0) _ rfl (H7.out.row _) Try.underlying68 rfl (by rw [tabA_size]; exact tab_info)) rfl ?_
      exact ⟨rfl, below_row HBr.out (by omega) _⟩
end Go.Proofs.Ytggcjmdadomlaaa
