import Derived.Test.YtmkdikoogbedkaaDoorFF
import Derived.Test.YtmkdikoogbedkaaDoorU
import Derived.OwnWalk
namespace Go.Proofs.YtmkdikoogbedkaaDoor
open Go.RowKit
set_option maxHeartbeats 1000000
/-- The two cells of a pair. -/
def pv (p : Nat × Nat) : Nat → Value := bx (.int .i64 (p.1 : Nat)) (.int .i64 (p.2 : Nat))
/-- A list of pairs, each in a block of its own, from block B on. -/
def EL (w : World) (B : Nat) (v : Value) (P : List (Nat × Nat)) : Prop :=
  ∃ Vs : Nat → Value, w.ownsRow B 27 1 v P.length (rowL P.length Vs) ∧ ∀ k (hk : k < P.length), ∃ g, Vs k = .slice (some ⟨g, 0, none⟩) 2 2 ∧ B ≤ g ∧ Arr w 3 g 2 (pv P[k])
theorem EL.nil (w : World) (B : Nat) : EL w B (.slice none 0 0) [] := ⟨fun _ => .bool true, World.ownsRow_nil _ _ _ _, fun k hk => absurd hk (by simp)⟩
theorem EL.all {w w' : World} {B : Nat} {v : Value} {P : List (Nat × Nat)} (h : EL w B v P) (hb : Below w.heap.size w w') : EL w' B v P := by
  obtain ⟨Vs, h1, h2⟩ := h
  exact ⟨Vs, own_below h1 hb, fun k hk => by obtain ⟨g, e, hB, ha⟩ := h2 k hk; exact ⟨g, e, hB, ha.all hb⟩⟩
theorem EL.read {w : World} {B : Nat} {A : Option Addr} {n c : Nat} {P : List (Nat × Nat)} (h : EL w B (.slice A n c) P) (hn : P.length = n) {k : Nat} (hk : k < P.length) :
    ∃ b off g, A = some ⟨b, off, none⟩ ∧ w.cell? ⟨b, off + k, none⟩ = some (.slice (some ⟨g, 0, none⟩) 2 2) ∧ Arr w 3 g 2 (pv P[k]) ∧ B ≤ g ∧ b < w.heap.size := by
  subst hn
  obtain ⟨Vs, h1, h2⟩ := h
  obtain ⟨b, off, hA, hl, hc⟩ := own_src h1 k hk
  obtain ⟨g, e, hB, ha⟩ := h2 k hk
  rw [e] at hc
  exact ⟨b, off, g, hA, hc, ha, hB, hl⟩
theorem slice_info : (Tryd.prog.info? 27).map (fun i => (i.zero, i.size, i.bytes)) = some (some (.slice none 0 0), 1, 24) := by kernel_rfl
theorem own_type {w : World} {base : Nat} {v : Value} {n : Nat} {xs : List Value} (h : w.ownsRow base 27 1 v n xs) {g m : Nat} {f : Nat → Value} (ha : Arr w 3 g m f) : some g ≠ v.ownBlock := by
  rcases h.2 with ⟨rfl, _⟩ | ⟨r, cap, cur, rfl, _, hh, _⟩
  · simp [Value.ownBlock]
  · intro e
    simp only [Value.ownBlock, Option.some.injEq] at e
    subst e
    obtain ⟨cs, h2, _⟩ := ha
    rw [h2] at hh
    injection hh with hh
    injection hh with _ hh
    cases hh
theorem wpList_append_pair {ops : Array Oper} {rest : List Oper} {o : Oper} {a : Act} {Q : Exit → Act → World → Prop} (w : World) (hgd : o.guard = none) (s x : Operand)
    (ho : o.op = .call { callee := .builtin .append, args := #[s, x], argTypes := #[47, 47] }) (B : Nat) (A : Option Addr) (c n : Nat) (P : List (Nat × Nat)) (p : Nat × Nat) (gx gp : Nat)
    (hs : a.eval s = .slice A n c) (hown : EL w B (.slice A n c) P) (hn : P.length = n)
    (hx : a.eval x = .slice (some ⟨gx, 0, none⟩) 1 1) (hnew : w.cell? ⟨gx, 0, none⟩ = some (.slice (some ⟨gp, 0, none⟩) 2 2)) (hp : Arr w 3 gp 2 (pv p)) (hBp : B ≤ gp) (hlen : n ≤ 1048576) (hB : B ≤ w.heap.size)
    (h : ∀ A' c' w', EL w' B (.slice A' (n + 1) c') (P ++ [p]) → Below B w w' → wpList Tryd.prog ops Q rest (a.put o.dst (.slice A' (n + 1) c')) w') : wpList Tryd.prog ops Q (o :: rest) a w := by
  obtain ⟨i0, hi, hz0, hz1, hz2⟩ := info_parts slice_info
  subst hn
  obtain ⟨Vs, h1, h2⟩ := hown
  refine wpList_append_own w hgd s x 47 ho B 27 i0 (.slice none 0 0) 1 24 Tryd.underlying47 hi hz0 hz1 hz2 rfl (by decide) _ _ _ hs h1 ⟨gx, 0, none⟩ 1 1 [.slice (some ⟨gp, 0, none⟩) 2 2] hx rfl ?_ ?_ (by unfold maxLen; omega) (by omega) hB ?_
  · intro j u hj
    match j, hj with
    | 0, hj => simp at hj; subst hj; simpa [Addr.add] using hnew
  · intro u hu; simp at hu; subst hu; rfl
  · intro v' w' h3 h4 _
    obtain ⟨A', c', rfl⟩ := own_form h3
    refine h A' c' w' ?_ (Below.own_grown (Below.refl B w) h1 h4 (Nat.le_refl _) hB)
    refine ⟨fun k => if k = P.length then .slice (some ⟨gp, 0, none⟩) 2 2 else Vs k, ?_, fun k hk => ?_⟩
    · rw [List.length_append, List.length_singleton, rowL_succ, if_pos rfl]
      have e : rowL P.length (fun k => if k = P.length then Value.slice (some ⟨gp, 0, none⟩) 2 2 else Vs k) = rowL P.length Vs := by
        unfold rowL
        apply List.map_congr_left
        intro j hj
        rw [if_neg (by have := List.mem_range.1 hj; omega)]
      rw [e]
      exact h3
    · by_cases hkl : k = P.length
      · subst hkl
        refine ⟨gp, by simp, hBp, ?_⟩
        have := hp.of_block (h4.block gp hp.lt (own_type h1 hp))
        simpa using this
      · have hk2 : k < P.length := by simp at hk; omega
        obtain ⟨g, e, hB2, ha⟩ := h2 k hk2
        refine ⟨g, by simp only [hkl, if_false]; exact e, hB2, ?_⟩
        rw [List.getElem_append_left hk2]
        exact ha.of_block (h4.block g ha.lt (own_type h1 ha))
end Go.Proofs.YtmkdikoogbedkaaDoor
