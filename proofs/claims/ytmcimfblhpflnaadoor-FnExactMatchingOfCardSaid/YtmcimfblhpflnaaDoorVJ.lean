/-
MatchingOf and MatchingSize: both sides.
-/
import Derived.Test.YtmcimfblhpflnaaDoorVI
import Derived.Test.YtmcimfblhpflnaaDoorBK
namespace Go.Proofs.YtmcimfblhpflnaaDoor
open Go.RowKit
set_option maxHeartbeats 2000000
theorem mtSpec_none (g n c : Nat) (f : Nat → Int) (own : Bool) (w : World) (hn : n ≤ 1048576) (hno : goodB n f = false) (ha : Arr w 3 g n (iv f)) :
    Calls Tryd.prog 31 #[.agg #[.slice (some ⟨g, 0, none⟩) n c, .bool own]] w (MtNo w) := by
  have HA := hide ha
  clear ha
  go_enter Tryd.func31, Tryd.ntmps31
  go_wp2_with fail
  refine (grGood_any _ _ _ f _ _ hn (HA.out.alloc _)).mono ?_
  rintro e w1 ⟨rfl, hb1⟩
  rw [hno]
  have HB1 := hide ((by go_grown : Below w.heap.size w _).trans (hb1.mono (by simp)))
  clear hb1
  go_wp2
  go_ret2
  exact ⟨rfl, HB1.out⟩
theorem mtSpec_any (g n c : Nat) (F : Nat → Nat) (own : Bool) (w : World) (hn : n ≤ 16) (hG : goodB n (nv F) = true) (ha : Arr w 3 g n (iv (nv F))) :
    Calls Tryd.prog 31 #[.agg #[.slice (some ⟨g, 0, none⟩) n c, .bool own]] w fun e w' => (treeB F n = false ∧ MtNo w e w') ∨ (treeB F n = true ∧ MtOk w (matchL F n) e w') := by
  have HA := hide ha
  clear ha
  have HG := hide (goodB_iff.1 hG)
  have hgb := hG
  go_enter Tryd.func31, Tryd.ntmps31
  go_wp2_with fail
  refine (grGood_any _ _ _ (nv F) _ _ (by omega) (HA.out.alloc _)).mono ?_
  rintro e w1 ⟨rfl, hb1⟩
  rw [hgb]
  have hp := (Arr.box w 28 (.slice (some ⟨g, 0, none⟩) n c) (.bool own)).all hb1
  have c0 : w1.cell? ⟨w.heap.size, 0, none⟩ = some (.slice (some ⟨g, 0, none⟩) n c) := hp.cell (by omega)
  have c1 : w1.cell? ⟨w.heap.size, 1, none⟩ = some (.bool own) := hp.cell (by omega)
  have hl := hp.lt
  have HA1 := hide ((HA.out.alloc (.cells #[.slice (some ⟨g, 0, none⟩) n c, .bool own] 28)).all hb1)
  have HB1 := hide ((by go_grown : Below w.heap.size w _).trans (hb1.mono (by simp)))
  clear hb1 hp
  go_wp2_with fail
  refine (trMt_any _ n _ F _ _ hn HG.out HA1.out).mono ?_
  rintro e w2 (⟨ht, rfl, hb2⟩ | ⟨ht, A, m, c', Q, rfl, h2, h3, h4, hb2⟩)
  · have HB2 := hide (HB1.out.trans (hb2.mono HB1.out.size))
    have HT := hide ht
    clear hb2 ht
    go_wp2
    go_ret2
    exact .inl ⟨HT.out, rfl, HB2.out⟩
  · have HB2 := hide (HB1.out.trans (hb2.mono HB1.out.size))
    have HT := hide ht
    have H4 := hide h4
    have H3 := hide h3
    clear hb2 ht h4 h3
    go_wp2
    go_ret2
    exact .inr ⟨HT.out, A, m, c', Q, rfl, h2, H3.out, H4.out.mono HB1.out.size HB1.out.size, HB2.out⟩
theorem mtImpl_none (g n c : Nat) (own : Bool) (w : World)
    (H : Hid (∀ w', Below w.heap.size w w' → Calls Tryd.prog 57 #[.agg #[.slice (some ⟨g, 0, none⟩) n c, .bool own]] w' (ForestNo w'))) :
    Calls Tryd.prog 32 #[.agg #[.slice (some ⟨g, 0, none⟩) n c, .bool own]] w (MtNo w) := by
  go_enter Tryd.func32, Tryd.ntmps32
  go_wp2_with fail
  refine (H.out _ (by go_grown)).mono ?_
  rintro e w1 ⟨rfl, hb1⟩
  have HB1 := hide ((by go_grown : Below w.heap.size w _).trans (hb1.mono (by simp)))
  clear hb1
  go_wp2
  go_ret2
  exact ⟨rfl, HB1.out.alloc HB1.out.size _⟩
/-- The pairs, as a list of lists. -/
def MtM (w : World) (M : Nat) (P : List (Nat × Nat)) (e : Ending) (w' : World) : Prop :=
  ∃ A d G, e = .returned (.tuple #[.slice A M d, .bool true]) ∧ SQ w' w.heap.size w'.heap.size A M G (fun _ => 2) (fun _ => 2) (pairR P) ∧ Below w.heap.size w w'
theorem EQ.sq {w : World} {B lo M c lo' : Nat} {A : Option Addr} {Q : List Ent} (h : EQ w B lo (.slice A M c) Q) (hq : Q.length = M) (hB : lo' ≤ B) (hl : lo' ≤ lo) : SQ w lo' w.heap.size A M (fun k => (Q.getD k (0, (0, 0))).1) (fun _ => 2) (fun _ => 2) (pairR (Q.map (·.2))) := by
  have hat : ∀ k (hk : k < Q.length), Q.getD k (0, (0, 0)) = Q[k] := fun k hk => by simp [List.getD, hk]
  refine ⟨fun k hk => ?_, fun k hk => ?_⟩
  · have hne : Q ≠ [] := fun e => by rw [e] at hq; simp at hq; omega
    obtain ⟨r, cap, e0, h1, h2, h3, h4⟩ := h.cells hne
    injection e0 with e1 e2 e3
    refine ⟨r, 0, e1, ⟨by omega, h2, h2⟩, ?_, fun j hj => ?_⟩
    · rw [Nat.zero_add, (h4 k (by omega)).1, hat k (by omega)]
    · rw [hat j (by omega)]
      exact h3 _ (List.getElem_mem _)
  · have hkl : k < Q.length := by omega
    rw [hat k hkl]
    obtain ⟨h1, h2⟩ := h.ent Q[k] (List.getElem_mem hkl)
    refine ⟨by omega, h2.lt, h2.congr (fun j hj => ?_), fun j hj hne => ?_⟩
    · have e : (Q.map (·.2)).getD k (0, 0) = Q[k].2 := by simp [List.getD, hkl]
      simp only [iv, pairR, pv, bx, e]
      by_cases h0 : j = 0 <;> simp [h0]
    · rw [hat j (by omega)]
      intro e
      have hnd := List.pairwise_iff_getElem.1 h.nd
      rcases Nat.lt_or_gt_of_ne hne with hlt | hlt
      · exact hnd j k (by rw [List.length_map]; omega) (by rw [List.length_map]; omega) hlt (by simpa using e)
      · exact hnd k j (by rw [List.length_map]; omega) (by rw [List.length_map]; omega) hlt (by simpa using e.symm)
theorem MtOk.m {w w' : World} {P : List (Nat × Nat)} {e : Ending} {M : Nat} (h : MtOk w P e w') (hM : M = P.length) : MtM w M P e w' := by
  obtain ⟨A, m, c, Q, rfl, h2, h3, h4, hb⟩ := h
  have e1 : m = M := by rw [← h2, hM, ← h3, List.length_map]
  subst e1
  refine ⟨A, c, fun k => (Q.getD k (0, (0, 0))).1, rfl, ?_, hb⟩
  rw [← h3]
  exact h4.sq h2 (Nat.le_refl _) (Nat.le_refl _)
theorem openL_len (n : Nat) (l : List Nat) (k : Nat) : (openL n l k).length ≤ l.length + 1 := by
  unfold openL rootL
  repeat' split
  all_goals simp
theorem kidL_len (F : Nat → Nat) (l : List Nat) (i j : Nat) : (kidL F l i j).length ≤ j := by
  unfold kidL
  exact Nat.le_trans (List.length_filter_le _ _) (by simp)
theorem seqL_len (F : Nat → Nat) (n : Nat) : ∀ k, (seqL F n k).length ≤ k * (n + 1)
  | 0 => Nat.zero_le _
  | k + 1 => by
    unfold seqL
    rw [List.length_append]
    have h1 := openL_len n (seqL F n k) k
    have h2 := kidL_len F (openL n (seqL F n k) k) ((openL n (seqL F n k) k).getD k 0) n
    have h3 := seqL_len F n k
    rw [Nat.add_mul]
    omega
theorem mtRun_len (p : Nat → Int) : ∀ l : List Nat, (mtRun p l).2.length ≤ l.length := by
  have key : ∀ (l : List Nat) (s : Nat × List (Nat × Nat)), (l.foldl (mtStep p) s).2.length ≤ s.2.length + l.length := by
    intro l
    induction l with
    | nil => intro s; simp
    | cons a r ih =>
      intro s
      rw [List.foldl_cons]
      have h := ih (mtStep p s a)
      have h2 : (mtStep p s a).2.length ≤ s.2.length + 1 := by
        unfold mtStep
        split
        · omega
        · simp
      simp only [List.length_cons]
      omega
  intro l
  have := key l (0, [])
  simpa [mtRun] using this
theorem matchL_len (F : Nat → Nat) {n : Nat} (hn : n ≤ 16) : (matchL F n).length ≤ 1048576 := by
  unfold matchL
  rw [(sortE_perm _).length_eq]
  have h1 := mtRun_len (parV F n) (ordL F n).reverse
  have h2 := seqL_len F n n
  rw [List.length_reverse] at h1
  have h3 : n * (n + 1) ≤ 16 * 17 := Nat.mul_le_mul hn (by omega)
  have h4 : (ordL F n).length ≤ n * (n + 1) := h2
  omega
end Go.Proofs.YtmcimfblhpflnaaDoor
