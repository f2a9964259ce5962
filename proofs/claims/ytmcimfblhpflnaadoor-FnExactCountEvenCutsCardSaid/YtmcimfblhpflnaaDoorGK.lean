/-
The cut of a set: those pairs of a graph of which one is in the set.
-/
import Derived.Test.YtmcimfblhpflnaaDoorGI
import Derived.Test.YtmcimfblhpflnaaDoorZa
import Derived.Deep.QuietTactic
import Derived.StillTailTactics
namespace Go.Proofs.YtmcimfblhpflnaaDoor
open Go.RowKit
set_option maxHeartbeats 2000000
/-- The pairs among the first k of which one is in the set. -/
def cutP (P : List (Nat × Nat)) (s k : Nat) : List (Nat × Nat) := (P.take k).filter (fun p => s.testBit p.1 != s.testBit p.2)
theorem cutP_zero (P : List (Nat × Nat)) (s : Nat) : cutP P s 0 = [] := by simp [cutP]
theorem cutP_succ {P : List (Nat × Nat)} {s k : Nat} (h : k < P.length) : cutP P s (k + 1) = cutP P s k ++ (if (s.testBit P[k].1 != s.testBit P[k].2) = true then [P[k]] else []) := by
  unfold cutP
  rw [List.take_succ_eq_append_getElem h, List.filter_append]
  congr 1
  cases hp : (s.testBit P[k].1 != s.testBit P[k].2) <;> simp [hp]
theorem cutP_len (P : List (Nat × Nat)) (s k : Nat) : (cutP P s k).length ≤ k := by
  unfold cutP
  exact Nat.le_trans (List.length_filter_le _ _) (by simp; omega)
theorem rowP_mem (F : Nat → Nat) (i : Nat) : ∀ j p, p ∈ rowP F i j → p.1 = i ∧ p.2 < j ∧ i < p.2
  | 0, p, h => by simp [rowP] at h
  | j + 1, p, h => by
    rw [rowP] at h
    split at h
    · rcases List.mem_append.1 h with h | h
      · have := rowP_mem F i j p h; exact ⟨this.1, by omega, this.2.2⟩
      · simp at h; subst h; rename_i hc; exact ⟨rfl, by simp, hc.1⟩
    · have := rowP_mem F i j p h; exact ⟨this.1, by omega, this.2.2⟩
theorem allP_mem (F : Nat → Nat) (n : Nat) : ∀ i p, p ∈ allP F n i → p.1 < i ∧ p.2 < n ∧ p.1 < p.2
  | 0, p, h => by simp [allP] at h
  | i + 1, p, h => by
    rw [allP] at h
    rcases List.mem_append.1 h with h | h
    · have := allP_mem F n i p h; exact ⟨by omega, this.2⟩
    · have := rowP_mem F i n p h; exact ⟨by omega, this.2.1, by omega⟩
/-- What a call leaves that lists the cut. -/
def CutL (w : World) (L : List (Nat × Nat)) (mk : Value → Value) (e : Ending) (w' : World) : Prop :=
  ∃ A m d G, e = .returned (mk (.slice A m d)) ∧ m = L.length ∧ m ≤ 272 ∧ SS w' (w.heap.size + 1) w'.heap.size A m G (fun _ => 2) (fun _ => 2) (pairR L) ∧ Below w.heap.size w w'
theorem pair_at {P : List (Nat × Nat)} {k : Nat} (h : k < P.length) : iv (pairR P k) 0 = .int .i64 (P[k].1 : Nat) ∧ iv (pairR P k) 1 = .int .i64 (P[k].2 : Nat) ∧ ∀ j, j < 2 → iv (pairR P k) j = pv P[k] j := by
  have e : P.getD k (0, 0) = P[k] := by simp [List.getD, h]
  refine ⟨by simp only [iv, pairR, e]; rfl, by simp only [iv, pairR, e]; rfl, fun j hj => ?_⟩
  simp only [iv, pairR, pv, bx, e]
  by_cases h0 : j = 0 <;> simp [h0]
/-- A list of pairs that a call appends to, its row in memory from B on, the pairs in blocks from lo on, in the order of their blocks. -/
def EM (w : World) (B lo : Nat) (v : Value) (G : Nat → Nat) (P : List (Nat × Nat)) : Prop :=
  w.ownsRow B 22 1 v P.length (rowL P.length fun k => .slice (some ⟨G k, 0, none⟩) 2 2) ∧ ∀ k (hk : k < P.length), lo ≤ G k ∧ Arr w 3 (G k) 2 (pv P[k]) ∧ ∀ j, j < k → G j < G k
theorem EM.nil (w : World) (B lo : Nat) (G : Nat → Nat) : EM w B lo (.slice none 0 0) G [] := ⟨World.ownsRow_nil _ _ _ _, fun k hk => absurd hk (by simp)⟩
theorem EM.all {w w' : World} {B lo : Nat} {v : Value} {G : Nat → Nat} {P : List (Nat × Nat)} (h : EM w B lo v G P) (hb : Below w.heap.size w w') : EM w' B lo v G P :=
  ⟨own_below h.1 hb, fun k hk => by obtain ⟨hB, ha, ho⟩ := h.2 k hk; exact ⟨hB, ha.all hb, ho⟩⟩
theorem EM.alloc {w : World} {B lo : Nat} {v : Value} {G : Nat → Nat} {P : List (Nat × Nat)} (h : EM w B lo v G P) (o : Obj) : EM (w.alloc o) B lo v G P := h.all ((Below.refl _ _).alloc (Nat.le_refl _) _)
theorem EM.drewN {w : World} {B lo : Nat} {v : Value} {G : Nat → Nat} {P : List (Nat × Nat)} (h : EM w B lo v G P) (n : Nat) : EM (w.drewN n) B lo v G P := h.all (below_drewN (Below.refl _ _) _)
theorem EM.ss {w : World} {B lo : Nat} {A : Option Addr} {n c : Nat} {G : Nat → Nat} {P : List (Nat × Nat)} (h : EM w B lo (.slice A n c) G P) (hn : P.length = n) (hlo : lo ≤ B) : SS w lo w.heap.size A n G (fun _ => 2) (fun _ => 2) (pairR P) := by
  subst hn
  obtain ⟨h1, h2⟩ := h
  refine ⟨fun k hk => ?_, fun k hk => ?_⟩
  · obtain ⟨g, c', hv, hb, ha⟩ := own_pos h1 (by omega)
    injection hv with hA
    subst hA
    refine ⟨g, 0, rfl, ⟨Nat.le_trans hlo hb, ha.lt, ha.lt⟩, by rw [Nat.zero_add]; exact ha.cell hk, fun j hj e => ?_⟩
    exact own_type h1 (h2 j hj).2.1 (by rw [e]; rfl)
  · obtain ⟨hB, ha, ho⟩ := h2 k hk
    refine ⟨hB, ha.lt, ha.congr (fun j hj => ((pair_at hk).2.2 j hj).symm), ho⟩
theorem wpList_append_edge {ops : Array Oper} {rest : List Oper} {o : Oper} {a : Act} {Q : Exit → Act → World → Prop} (w : World) (hgd : o.guard = none) (s x : Operand)
    (ho : o.op = .call { callee := .builtin .append, args := #[s, x], argTypes := #[39, 39] }) (B lo : Nat) (A : Option Addr) (c n : Nat) (G : Nat → Nat) (P : List (Nat × Nat)) (p : Nat × Nat) (gx gp : Nat)
    (hs : a.eval s = .slice A n c) (hown : EM w B lo (.slice A n c) G P) (hn : P.length = n)
    (hx : a.eval x = .slice (some ⟨gx, 0, none⟩) 1 1) (hnew : w.cell? ⟨gx, 0, none⟩ = some (.slice (some ⟨gp, 0, none⟩) 2 2)) (hp : Arr w 3 gp 2 (pv p)) (hBp : lo ≤ gp) (hG : ∀ k, k < n → G k < gp) (hlen : n ≤ 1048576) (hB : B ≤ w.heap.size)
    (h : ∀ A' c' w', EM w' B lo (.slice A' (n + 1) c') (fun k => if k = n then gp else G k) (P ++ [p]) → Below B w w' → wpList Tryd.prog ops Q rest (a.put o.dst (.slice A' (n + 1) c')) w') : wpList Tryd.prog ops Q (o :: rest) a w := by
  obtain ⟨i0, hi, hz0, hz1, hz2⟩ := info_parts slice_info
  subst hn
  obtain ⟨h1, h2⟩ := hown
  refine wpList_append_own w hgd s x 39 ho B 22 i0 (.slice none 0 0) 1 24 Tryd.underlying39 hi hz0 hz1 hz2 rfl (by decide) _ _ _ hs h1 ⟨gx, 0, none⟩ 1 1 [.slice (some ⟨gp, 0, none⟩) 2 2] hx rfl ?_ ?_ (by unfold maxLen; omega) (by omega) hB ?_
  · intro j u hj
    match j, hj with
    | 0, hj => simp at hj; subst hj; simpa [Addr.add] using hnew
  · intro u hu; simp at hu; subst hu; rfl
  · intro v' w' h3 h4 _
    obtain ⟨A', c', rfl⟩ := own_form h3
    refine h A' c' w' ⟨?_, fun k hk => ?_⟩ (Below.own_grown (Below.refl B w) h1 h4 (Nat.le_refl _) hB)
    · rw [List.length_append, List.length_singleton, rowL_succ]
      simp only [if_true]
      have e : rowL P.length (fun k => Value.slice (some ⟨if k = P.length then gp else G k, 0, none⟩) 2 2) = rowL P.length fun k => .slice (some ⟨G k, 0, none⟩) 2 2 := by
        unfold rowL
        apply List.map_congr_left
        intro j hj
        rw [if_neg (by have := List.mem_range.1 hj; omega)]
      rw [e]
      exact h3
    · by_cases hkl : k = P.length
      · subst hkl
        refine ⟨by simpa using hBp, ?_, fun j hj => ?_⟩
        · have := hp.of_block (h4.block gp hp.lt (own_type h1 hp))
          simpa using this
        · simp only [if_true]
          rw [if_neg (by omega)]
          exact hG j hj
      · have hk2 : k < P.length := by simp at hk; omega
        obtain ⟨hB2, ha, hord⟩ := h2 k hk2
        simp only [hkl, if_false]
        refine ⟨hB2, ?_, fun j hj => ?_⟩
        · rw [List.getElem_append_left hk2]
          exact ha.of_block (h4.block _ ha.lt (own_type h1 ha))
        · rw [if_neg (by omega)]
          exact hord j hj

end Go.Proofs.YtmcimfblhpflnaaDoor
