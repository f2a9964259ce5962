/-
A list of pairs that a call appends to, each pair in a block of its own; and the pairs of a graph in their order.
-/
import Derived.Test.YtdpoceijnbbmgaaDoorGA
import Derived.Test.YtdpoceijnbbmgaaDoorZB
import Derived.Test.YtdpoceijnbbmgaaDoorU
import Derived.OwnWalk
namespace Go.Proofs.YtdpoceijnbbmgaaDoor
open Go.RowKit
set_option maxHeartbeats 1000000
/-- The two cells of a pair. -/
def pv (p : Nat × Nat) : Nat → Value := bx (.int .i64 (p.1 : Nat)) (.int .i64 (p.2 : Nat))
/-- A list of pairs, each in a block of its own, from block B on, in the order of their blocks. -/
def EL (w : World) (B : Nat) (v : Value) (G : Nat → Nat) (P : List (Nat × Nat)) : Prop :=
  w.ownsRow B 22 1 v P.length (rowL P.length fun k => .slice (some ⟨G k, 0, none⟩) 2 2) ∧ ∀ k (hk : k < P.length), B ≤ G k ∧ Arr w 3 (G k) 2 (pv P[k]) ∧ ∀ j, j < k → G j < G k
theorem EL.nil (w : World) (B : Nat) (G : Nat → Nat) : EL w B (.slice none 0 0) G [] := ⟨World.ownsRow_nil _ _ _ _, fun k hk => absurd hk (by simp)⟩
theorem EL.all {w w' : World} {B : Nat} {v : Value} {G : Nat → Nat} {P : List (Nat × Nat)} (h : EL w B v G P) (hb : Below w.heap.size w w') : EL w' B v G P :=
  ⟨own_below h.1 hb, fun k hk => by obtain ⟨hB, ha, ho⟩ := h.2 k hk; exact ⟨hB, ha.all hb, ho⟩⟩
theorem EL.alloc {w : World} {B : Nat} {v : Value} {G : Nat → Nat} {P : List (Nat × Nat)} (h : EL w B v G P) (o : Obj) : EL (w.alloc o) B v G P := h.all ((Below.refl _ _).alloc (Nat.le_refl _) _)
theorem EL.drewN {w : World} {B : Nat} {v : Value} {G : Nat → Nat} {P : List (Nat × Nat)} (h : EL w B v G P) (n : Nat) : EL (w.drewN n) B v G P := h.all (below_drewN (Below.refl _ _) _)
theorem own_type {w : World} {base : Nat} {v : Value} {n : Nat} {xs : List Value} (h : w.ownsRow base 22 1 v n xs) {g m : Nat} {f : Nat → Value} (ha : Arr w 3 g m f) : some g ≠ v.ownBlock := by
  rcases h.2 with ⟨rfl, _⟩ | ⟨r, cap, cur, rfl, _, hh, _⟩
  · simp [Value.ownBlock]
  · intro e
    simp only [Value.ownBlock, Option.some.injEq] at e
    subst e
    obtain ⟨cs, h2, _⟩ := ha
    rw [h2] at hh
    injection hh with hh
    injection hh with _ hh
    cases hh
/-- The k-th pair's two numbers. -/
def pairR (P : List (Nat × Nat)) : Nat → Nat → Int := fun k j => if j = 0 then ((P.getD k (0, 0)).1 : Nat) else ((P.getD k (0, 0)).2 : Nat)
theorem EL.ss {w : World} {B : Nat} {A : Option Addr} {n c : Nat} {G : Nat → Nat} {P : List (Nat × Nat)} (h : EL w B (.slice A n c) G P) (hn : P.length = n) : SS w B w.heap.size A n G (fun _ => 2) (fun _ => 2) (pairR P) := by
  subst hn
  obtain ⟨h1, h2⟩ := h
  refine ⟨fun k hk => ?_, fun k hk => ?_⟩
  · obtain ⟨g, c', hv, hb, ha⟩ := own_pos h1 (by omega)
    injection hv with hA
    subst hA
    refine ⟨g, 0, rfl, ⟨hb, ha.lt, ha.lt⟩, by rw [Nat.zero_add]; exact ha.cell hk, fun j hj e => ?_⟩
    exact own_type h1 (h2 j hj).2.1 (by rw [e]; rfl)
  · obtain ⟨hB, ha, ho⟩ := h2 k hk
    refine ⟨hB, ha.lt, ha.congr (fun j hj => ?_), ho⟩
    have e : P.getD k (0, 0) = P[k] := by simp [List.getD, hk]
    simp only [iv, pairR, pv, bx, e]
    by_cases h0 : j = 0 <;> simp [h0]
theorem EL.lt {w : World} {B : Nat} {v : Value} {G : Nat → Nat} {P : List (Nat × Nat)} (h : EL w B v G P) {k : Nat} (hk : k < P.length) : G k < w.heap.size := (h.2 k hk).2.1.lt
theorem wpList_append_pair {ops : Array Oper} {rest : List Oper} {o : Oper} {a : Act} {Q : Exit → Act → World → Prop} (w : World) (hgd : o.guard = none) (s x : Operand)
    (ho : o.op = .call { callee := .builtin .append, args := #[s, x], argTypes := #[50, 50] }) (B : Nat) (A : Option Addr) (c n : Nat) (G : Nat → Nat) (P : List (Nat × Nat)) (p : Nat × Nat) (gx gp : Nat)
    (hs : a.eval s = .slice A n c) (hown : EL w B (.slice A n c) G P) (hn : P.length = n)
    (hx : a.eval x = .slice (some ⟨gx, 0, none⟩) 1 1) (hnew : w.cell? ⟨gx, 0, none⟩ = some (.slice (some ⟨gp, 0, none⟩) 2 2)) (hp : Arr w 3 gp 2 (pv p)) (hBp : B ≤ gp) (hG : ∀ k, k < n → G k < gp) (hlen : n ≤ 1048576) (hB : B ≤ w.heap.size)
    (h : ∀ A' c' w', EL w' B (.slice A' (n + 1) c') (fun k => if k = n then gp else G k) (P ++ [p]) → Below B w w' → wpList Tryd.prog ops Q rest (a.put o.dst (.slice A' (n + 1) c')) w') : wpList Tryd.prog ops Q (o :: rest) a w := by
  obtain ⟨i0, hi, hz0, hz1, hz2⟩ := info_parts slice_info
  subst hn
  obtain ⟨h1, h2⟩ := hown
  refine wpList_append_own w hgd s x 50 ho B 22 i0 (.slice none 0 0) 1 24 Tryd.underlying50 hi hz0 hz1 hz2 rfl (by decide) _ _ _ hs h1 ⟨gx, 0, none⟩ 1 1 [.slice (some ⟨gp, 0, none⟩) 2 2] hx rfl ?_ ?_ (by unfold maxLen; omega) (by omega) hB ?_
  · intro j u hj
    match j, hj with
    | 0, hj => simp at hj; subst hj; simpa [Addr.add] using hnew
  · intro u hu; simp at hu; subst hu; rfl
  · intro v' w' h3 h4 _
    obtain ⟨A', c', rfl⟩ := own_form h3
    refine h A' c' w' ⟨?_, fun k hk => ?_⟩ (Below.own_grown (Below.refl B w) h1 h4 (Nat.le_refl _) hB)
    · rw [List.length_append, List.length_singleton, rowL_succ]
      simp only [if_true]
      have e : rowL P.length (fun k => Value.slice (some ⟨if k = P.length then gp else G k, 0, none⟩) 2 2) = rowL P.length fun k => .slice (some ⟨G k, 0, none⟩) 2 2 := by
        unfold rowL
        apply List.map_congr_left
        intro j hj
        rw [if_neg (by have := List.mem_range.1 hj; omega)]
      rw [e]
      exact h3
    · by_cases hkl : k = P.length
      · subst hkl
        refine ⟨by simpa using hBp, ?_, fun j hj => ?_⟩
        · have := hp.of_block (h4.block gp hp.lt (own_type h1 hp))
          simpa using this
        · simp only [if_true]
          rw [if_neg (by omega)]
          exact hG j hj
      · have hk2 : k < P.length := by simp at hk; omega
        obtain ⟨hB2, ha, hord⟩ := h2 k hk2
        simp only [hkl, if_false]
        refine ⟨hB2, ?_, fun j hj => ?_⟩
        · rw [List.getElem_append_left hk2]
          exact ha.of_block (h4.block _ ha.lt (own_type h1 ha))
        · rw [if_neg (by omega)]
          exact hord j hj

/-- The pairs i < b of one row, up to j. -/
def rowP (F : Nat → Nat) (i : Nat) : Nat → List (Nat × Nat)
  | 0 => []
  | j + 1 => if i < j ∧ (F i).testBit j = true then rowP F i j ++ [(i, j)] else rowP F i j
/-- The pairs of all rows before i. -/
def allP (F : Nat → Nat) (n : Nat) : Nat → List (Nat × Nat)
  | 0 => []
  | i + 1 => allP F n i ++ rowP F i n
theorem rowP_low (F : Nat → Nat) (i : Nat) : ∀ j, j ≤ i + 1 → rowP F i j = []
  | 0, _ => rfl
  | j + 1, h => by rw [rowP, if_neg (by omega), rowP_low F i j (by omega)]
theorem rowP_len (F : Nat → Nat) (i : Nat) : ∀ j, (rowP F i j).length ≤ j
  | 0 => by simp [rowP]
  | j + 1 => by
    have := rowP_len F i j
    rw [rowP]
    split
    · simp; omega
    · omega
theorem allP_len (F : Nat → Nat) (n : Nat) : ∀ i, (allP F n i).length ≤ n * i
  | 0 => by simp [allP]
  | i + 1 => by
    have h1 := allP_len F n i
    have h2 := rowP_len F i n
    rw [allP, List.length_append, Nat.mul_succ]
    omega
end Go.Proofs.YtdpoceijnbbmgaaDoor
