import Derived.Test.YtggcjmdadomlaaaSB1
import Derived.Ground.Names2Prog
import Derived.Shelf.Slices.Clone
namespace Go.Proofs
open Go.Shelf
shelf_lay Lays2.n15 Nm2 15 at Try as Try.clone
end Go.Proofs
namespace Go.Proofs.Ytggcjmdadomlaaa
open Go.RowKit
set_option maxHeartbeats 2000000
theorem flatT_length (c : Nat) (own : Bool) (k : Nat) : (flatT c own k).length = (k + 1) * 16 := by
  induction k with
  | zero => rw [flatT_zero, tabL_length]
  | succ k ih => rw [flatT_succ, List.length_append, ih, tabL_length]; omega
theorem flatT_get (c : Nat) (own : Bool) (k i j : Nat) (hi : i ≤ k) (hj : j < 16) : (flatT c own k)[i * 16 + j]? = (tabL (tT c own i))[j]? := by
  induction k with
  | zero =>
    have : i = 0 := by omega
    subst this
    rw [flatT_zero, Nat.zero_mul, Nat.zero_add]
  | succ k ih =>
    rw [flatT_succ]
    by_cases h : i ≤ k
    · rw [List.getElem?_append_left (by rw [flatT_length]; omega)]
      exact ih h
    · have : i = k + 1 := by omega
      subst this
      rw [List.getElem?_append_right (by rw [flatT_length]; omega), flatT_length]
      congr 1
      omega
theorem OT.elem {w : World} {B c k d : Nat} {own : Bool} {A : Option Addr} (h : OT w B c own (.slice A (k + 1) d) k) :
    ∃ g, A = some ⟨g, 0, none⟩ ∧ B ≤ g ∧ g < w.heap.size ∧ k + 1 ≤ d ∧ ∀ i, i ≤ k → w.rangeAt g (i * 16) (tabL (tT c own i)) := by
  obtain ⟨h0, h | ⟨g, cap, cur, h1, h2, h3, h4, h5, h6, h7⟩⟩ := h
  · omega
  · injection h1 with a b e
    subst a e
    refine ⟨g, rfl, h2, (Array.getElem?_eq_some_iff.1 h3).1, h4, fun i hi j v hv => ?_⟩
    have hj : j < 16 := by
      rcases Nat.lt_or_ge j 16 with h | h
      · exact h
      · rw [List.getElem?_eq_none (by rw [tabL_length]; exact h)] at hv; cases hv
    rw [← flatT_get c own k i j hi hj, ← h7, List.getElem?_take_of_lt (by omega)] at hv
    rw [cell_of_row w g (i * 16 + j) cur 68 (0, 0) h3]
    simpa using hv
theorem wpList_load_elem {ops : Array Oper} {rest : List Oper} {o : Oper} {a : Act} {w : World} {Q : Exit → Act → World → Prop} (hgd : o.guard = none) (x : Operand) (ho : o.op = .load 68 x)
    (b off : Nat) (hx : a.eval x = .pointer (some ⟨b, off, none⟩)) (f : Nat → Nat) (hg : w.rangeAt b off (tabL f))
    (h : wpList Try.prog ops Q rest (a.put o.dst (.agg (tabA f))) w) : wpList Try.prog ops Q (o :: rest) a w :=
  wpList_load_mid hgd 68 x ho b off hx (tabL f) _ hg Try.underlying68 rfl (by rw [tabL_length]; exact tab_info) h
/-- The row R behind single buttons. -/
def fmF (c : Nat) (own : Bool) (R : Nat) : Nat → Int := fun i => ((tT c own R i : Nat) : Int)
theorem clone_any (b c R : Nat) (own : Bool) (w : World) (hc1 : 1 ≤ c) (hc : c ≤ 16) (ht : Tab w b (tT c own R)) :
    Calls Try.prog 66 #[.slice (some ⟨b, 0, none⟩) c 16] w fun e w' => ∃ g d, e = .returned (.slice (some ⟨g, 0, none⟩) c d) ∧ w.heap.size ≤ g ∧ Arr w' 3 g c (iv (fmF c own R)) ∧ Below w.heap.size w w' := by
  have h := Any.slices_Clone_int Try.clone b 0 c 16 ((List.range 16).map (fmF c own R)) w (by simpa using hc) (by omega) (fun j hj => by
    have hj16 : j < 16 := by simpa using hj
    rw [Nat.zero_add, ht.cell hj16]
    simp [fmF, hj16])
  refine h.mono ?_
  rintro e w' ⟨v', rfl, ho, hne, hb⟩
  obtain ⟨A, d, rfl⟩ := own_form ho
  have e1 : ((List.range 16).map (fmF c own R)).take c = (List.range c).map (fmF c own R) := by
    rw [← List.map_take, List.take_range, Nat.min_eq_left hc]
  rw [e1] at ho
  have hoz : OZ w' w.heap.size (.slice A c d) ((List.range c).map (fmF c own R)) := by
    unfold OZ
    rw [List.length_map, List.length_range]
    exact ho
  obtain ⟨g, rfl, hg, ha⟩ := hoz.arr hc1
  exact ⟨g, d, rfl, hg, ha, hb⟩
end Go.Proofs.Ytggcjmdadomlaaa
