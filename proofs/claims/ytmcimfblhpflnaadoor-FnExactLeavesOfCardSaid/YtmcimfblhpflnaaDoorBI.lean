/-
LeavesOf: both sides.
-/
import Derived.Test.YtmcimfblhpflnaaDoorBK
import Derived.Test.YtmcimfblhpflnaaDoorXB
namespace Go.Proofs.YtmcimfblhpflnaaDoor
open Go.RowKit Go.Maps
set_option maxHeartbeats 2000000
/-- Has the button just one neighbour? -/
def lf (F : Nat → Nat) (i : Nat) : Bool := decide (popN 16 (F i) = 1)
def LvOut (F : Nat → Nat) (n : Nat) : Value := if treeB F n = true then .tuple #[.int .i64 (litN (lf F) n : Nat), .bool true] else .tuple #[.int .i64 0, .bool false]
theorem lvOut_two (F : Nat → Nat) (n : Nat) : ∃ (v : Int) (b : Bool), LvOut F n = .tuple #[.int .i64 v, .bool b] := by
  unfold LvOut
  split
  · exact ⟨_, _, rfl⟩
  · exact ⟨_, _, rfl⟩
theorem lvSpec_no (g n c : Nat) (f : Nat → Int) (own : Bool) (w : World) (hn : n ≤ 1048576) (hno : goodB n f = false) (ha : Arr w 3 g n (iv f)) :
    Calls Tryd.prog 25 #[.agg #[.slice (some ⟨g, 0, none⟩) n c, .bool own]] w fun e w' => e = .returned (.tuple #[.int .i64 0, .bool false]) ∧ Below w.heap.size w w' := by
  have HA := hide ha
  clear ha
  go_enter Tryd.func25, Tryd.ntmps25
  go_wp2_with fail
  refine (grGood_any _ _ _ f _ _ hn (HA.out.alloc _)).mono ?_
  rintro e w1 ⟨rfl, hb1⟩
  simp only [hno]
  have HB1 := hide ((by go_grown : Below w.heap.size w _).trans (hb1.mono (by simp)))
  clear hb1
  go_wp2
  go_ret2
  exact ⟨rfl, HB1.out⟩
set_option maxRecDepth 4000 in
theorem lvSpec_v (g n c : Nat) (F : Nat → Nat) (own : Bool) (v : Int) (b : Bool) (w : World) (hv : LvOut F n = .tuple #[.int .i64 v, .bool b]) (hn : n ≤ 16) (hG : goodB n (nv F) = true) (ha : Arr w 3 g n (iv (nv F))) :
    Calls Tryd.prog 25 #[.agg #[.slice (some ⟨g, 0, none⟩) n c, .bool own]] w fun e w' => e = .returned (.tuple #[.int .i64 v, .bool b]) ∧ Below w.heap.size w w' := by
  rw [← hv]
  have hgd := goodB_iff.1 hG
  have HA := hide ha
  clear ha hv
  go_enter Tryd.func25, Tryd.ntmps25
  go_wp2_with fail
  refine (grGood_any _ _ _ (nv F) _ _ (by omega) (HA.out.alloc _)).mono ?_
  rintro e w1 ⟨rfl, hb1⟩
  simp only [hG]
  have hp := (Arr.box w 28 (.slice (some ⟨g, 0, none⟩) n c) (.bool own)).all hb1
  have c0 : w1.cell? ⟨w.heap.size, 0, none⟩ = some (.slice (some ⟨g, 0, none⟩) n c) := hp.cell (by omega)
  have c1 : w1.cell? ⟨w.heap.size, 1, none⟩ = some (.bool own) := hp.cell (by omega)
  have HAr := hide ((HA.out.alloc _).all hb1)
  have HB1 := hide ((by go_grown : Below w.heap.size w _).trans (hb1.mono (by simp)))
  have HG := hide hgd
  have hz := HB1.out.size
  have HP := hide hp
  clear hb1 hp hgd
  go_wp2_with fail
  refine (search_any _ _ _ F _ _ hn HG.out (by first | exact HAr.out | exact HAr.out.drew)).mono ?_
  rintro e w2 hs
  rcases hs with ⟨ht, rfl, hb2⟩ | ⟨ht, g2, m2, d2, A2, o, t, p, rfl, _, _, _, _, _, _, hb2⟩
  · have HB2 := hide (HB1.out.trans (hb2.mono hz))
    have hT := tree_no ht
    clear hb2 ht
    go_wp2
    go_ret2
    exact ⟨by rw [LvOut, hT]; rfl, HB2.out⟩
  have HBw := hide (HB1.out.trans (hb2.mono hz))
  have HAw := hide (HAr.out.all hb2)
  have HPw := hide (HP.out.all hb2)
  have hT := tree_yes ht
  clear hb2 ht c0 c1
  have c0 : w2.cell? ⟨w.heap.size, 0, none⟩ = some (.slice (some ⟨g, 0, none⟩) n c) := HPw.out.cell (by omega)
  go_wp2
  go_loopw [7, 24] (fun s i wr => ∃ k : Nat, k ≤ n ∧ i = .int .i64 k ∧ s = .int .i64 (litN (lf F) k : Nat) ∧ wr = w2)
    (fun _ i _ => n - (intOf i).toNat)
  case atStart => exact ⟨0, Nat.zero_le _, rfl, rfl, rfl⟩
  case round =>
    obtain ⟨k, hk, rfl, rfl, rfl⟩ := hrel
    by_cases hlt : k < n
    · have hcell := HAw.out.cell hlt
      have hFk := HG.out.lt16 k hlt
      have hl16 := litN_lt (lf F) k (by omega)
      have e1 := or_wrap (litN (lf F) k) k hl16 (by omega)
      simp only [iv, nv] at hcell
      by_cases h1 : popN 16 (F k) = 1
      · have hL : lf F k = true := by simp [lf, h1]
        go_wp2_with (go_at_call 54; refine (grCount_any _ _ hFk).mono ?_; rintro e w9 ⟨rfl, hw9⟩; subst w9; rw [h1])
        go_roundw
        case rel => exact ⟨k + 1, by omega, by go_num, by rw [litN, if_pos hL], trivial⟩
        case measure => simp [intOf]; omega
      · have hL : ¬ lf F k = true := by simp [lf, h1]
        have hz : (((popN 16 (F k) : Nat) : Int) == 1) = false := by simp; omega
        go_wp2_with (go_at_call 54; refine (grCount_any _ _ hFk).mono ?_; rintro e w9 ⟨rfl, hw9⟩; subst w9)
        go_roundw
        case rel => exact ⟨k + 1, by omega, by go_num, by rw [litN, if_neg hL], trivial⟩
        case measure => simp [intOf]; omega
    · have hkn : k = n := by omega
      subst hkn
      go_wp2
      go_ret2
      exact ⟨by rw [LvOut, hT]; rfl, HBw.out⟩
theorem lvImpl_no (g n c : Nat) (f : Nat → Int) (own : Bool) (w : World) (hn : n ≤ 1048576) (hno : goodB n f = false) (ha : Arr w 3 g n (iv f)) :
    Calls Tryd.prog 26 #[.agg #[.slice (some ⟨g, 0, none⟩) n c, .bool own]] w fun e w' => e = .returned (.tuple #[.int .i64 0, .bool false]) ∧ Below w.heap.size w w' := by
  have HA := hide ha
  clear ha
  go_enter Tryd.func26, Tryd.ntmps26
  go_wp2_with fail
  refine (forImpl_no _ _ _ f _ _ hn hno (HA.out.alloc _)).mono ?_
  rintro e w1 ⟨rfl, hb1⟩
  have HB1 := hide ((by go_grown : Below w.heap.size w _).trans (hb1.mono (by simp)))
  clear hb1
  go_wp2
  go_ret2
  exact ⟨rfl, HB1.out⟩
set_option maxRecDepth 4000 in
theorem lvImpl_v (g n c : Nat) (F : Nat → Nat) (own : Bool) (v : Int) (b : Bool) (w : World) (hv : LvOut F n = .tuple #[.int .i64 v, .bool b]) (hn : n ≤ 16) (hG : goodB n (nv F) = true) (ha : Arr w 3 g n (iv (nv F))) (hT0 : Tab w) (hw1 : 1 < w.heap.size) :
    Calls Tryd.prog 26 #[.agg #[.slice (some ⟨g, 0, none⟩) n c, .bool own]] w fun e w' => e = .returned (.tuple #[.int .i64 v, .bool b]) ∧ Below w.heap.size w w' := by
  rw [← hv]
  have hgd := goodB_iff.1 hG
  have HA := hide ha
  have HT0 := hide hT0
  clear ha hv hT0
  go_enter Tryd.func26, Tryd.ntmps26
  go_wp2_with fail
  refine (forImpl_ok _ _ _ F _ _ hn hG (HA.out.alloc _) (by first | exact HT0.out.below ((Below.refl _ _).alloc (Nat.le_refl _) _) | exact HT0.out.below' (by go_grown) hw1) (by first | omega | (simp; omega))).mono ?_
  rintro e w1 ⟨rfl, hb1⟩
  have hp := (Arr.box w 28 (.slice (some ⟨g, 0, none⟩) n c) (.bool own)).all hb1
  have c0 : w1.cell? ⟨w.heap.size, 0, none⟩ = some (.slice (some ⟨g, 0, none⟩) n c) := hp.cell (by omega)
  have c1 : w1.cell? ⟨w.heap.size, 1, none⟩ = some (.bool own) := hp.cell (by omega)
  have HAr := hide ((HA.out.alloc _).all hb1)
  have HB1 := hide ((by go_grown : Below w.heap.size w _).trans (hb1.mono (by simp)))
  have HG := hide hgd
  have HBw := HB1
  have HAw := HAr
  clear hb1 hp hgd
  cases hT : treeB F n
  · go_wp2
    go_ret2
    exact ⟨by rw [LvOut, hT]; rfl, HB1.out⟩
  go_wp2
  go_loopw [6, 19] (fun s i wr => ∃ k : Nat, k ≤ n ∧ i = .int .i64 k ∧ s = .int .i64 (litN (lf F) k : Nat) ∧ wr = w1)
    (fun _ i _ => n - (intOf i).toNat)
  case atStart => exact ⟨0, Nat.zero_le _, rfl, rfl, rfl⟩
  case round =>
    obtain ⟨k, hk, rfl, rfl, rfl⟩ := hrel
    by_cases hlt : k < n
    · have hcell := HAw.out.cell hlt
      have hFk := HG.out.lt16 k hlt
      have hl16 := litN_lt (lf F) k (by omega)
      have e1 := or_wrap (litN (lf F) k) k hl16 (by omega)
      simp only [iv, nv] at hcell
      by_cases h1 : popN 16 (F k) = 1
      · have hL : lf F k = true := by simp [lf, h1]
        go_wp2_with (go_at_call 55; refine (sizeOf_any _ _ hFk).mono ?_; rintro e w9 ⟨rfl, hw9⟩; subst w9; rw [h1])
        go_roundw
        case rel => exact ⟨k + 1, by omega, by go_num, by rw [litN, if_pos hL], trivial⟩
        case measure => simp [intOf]; omega
      · have hL : ¬ lf F k = true := by simp [lf, h1]
        have hz : (((popN 16 (F k) : Nat) : Int) == 1) = false := by simp; omega
        go_wp2_with (go_at_call 55; refine (sizeOf_any _ _ hFk).mono ?_; rintro e w9 ⟨rfl, hw9⟩; subst w9)
        go_roundw
        case rel => exact ⟨k + 1, by omega, by go_num, by rw [litN, if_neg hL], trivial⟩
        case measure => simp [intOf]; omega
    · have hkn : k = n := by omega
      subst hkn
      go_wp2
      go_ret2
      exact ⟨by rw [LvOut, hT]; rfl, HBw.out⟩
end Go.Proofs.YtmcimfblhpflnaaDoor
