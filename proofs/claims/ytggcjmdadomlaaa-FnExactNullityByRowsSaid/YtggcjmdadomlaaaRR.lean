import Derived.Test.YtggcjmdadomlaaaRQ
import Derived.Test.YtggcjmdadomlaaaRN
namespace Go.Proofs.Ytggcjmdadomlaaa
open Go.RowKit
set_option maxHeartbeats 1000000
/-- The least first row below k that leaves v of no lights, or -1. -/
def tb (c : Nat) (own : Bool) (R k v : Nat) : Int := (((List.range k).find? (fun f => decide (prw c own 0 f R = v))).map (fun f : Nat => (f : Int))).getD (-1)
theorem tb_zero (c : Nat) (own : Bool) (R v : Nat) : tb c own R 0 v = -1 := rfl
theorem tb_other {c : Nat} {own : Bool} {R k v : Nat} (h : prw c own 0 k R ≠ v) : tb c own R (k + 1) v = tb c own R k v := by
  unfold tb
  rw [List.range_succ, List.find?_append]
  cases hf : (List.range k).find? (fun f => decide (prw c own 0 f R = v)) <;> simp [h]
theorem tb_hit {c : Nat} {own : Bool} {R k v : Nat} (h : prw c own 0 k R = v) : tb c own R (k + 1) v = if tb c own R k v = -1 then (k : Int) else tb c own R k v := by
  unfold tb
  rw [List.range_succ, List.find?_append]
  cases hf : (List.range k).find? (fun f => decide (prw c own 0 f R = v)) with
  | none => simp [h]
  | some f =>
    have : ¬ ((f : Int) = -1) := by omega
    simp [this]
theorem fls_last {C R last n : Nat} {own : Bool} (hR : 1 ≤ R) (hl : last < 2 ^ C) : fls C own (last * 2 ^ (C * (R - 1))) R n = (List.range n).filter (fun f => decide (prw C own 0 f R = last)) := by
  unfold fls
  apply List.filter_congr
  intro f _
  obtain ⟨R', rfl⟩ : ∃ R', R = R' + 1 := ⟨R - 1, by omega⟩
  rw [Nat.add_sub_cancel, prw_last hl, decide_eq_decide, xor_eq_zero]
  exact ⟨fun h => h.symm, fun h => h.symm⟩
theorem tb_fls {C R last n : Nat} {own : Bool} (hR : 1 ≤ R) (hl : last < 2 ^ C) : tb C own R n last = if (fls C own (last * 2 ^ (C * (R - 1))) R n).length = 0 then -1 else (((fls C own (last * 2 ^ (C * (R - 1))) R n).getD 0 0 : Nat) : Int) := by
  rw [fls_last hR hl]
  unfold tb
  rw [← List.head?_filter]
  cases hf : (List.range n).filter (fun f => decide (prw C own 0 f R = last)) <;> simp
/-- A list of numbers in a row of the call's own. -/
def OZ (w : World) (B : Nat) (v : Value) (Z : List Int) : Prop := w.ownsRow B 3 1 v Z.length (Z.map (fun x => Value.int .i64 x))
theorem OZ.nil (w : World) (B : Nat) : OZ w B (.slice none 0 0) [] := World.ownsRow_nil _ _ _ _
theorem OZ.all {w w' : World} {B : Nat} {v : Value} {Z : List Int} (h : OZ w B v Z) (hb : Below w.heap.size w w') : OZ w' B v Z := own_below h hb
theorem OZ.alloc {w : World} {B : Nat} {v : Value} {Z : List Int} (h : OZ w B v Z) (o : Obj) : OZ (w.alloc o) B v Z := h.all ((Below.refl _ _).alloc (Nat.le_refl _) _)
theorem wpList_append_int {ops : Array Oper} {rest : List Oper} {o : Oper} {a : Act} {Q : Exit → Act → World → Prop} (w : World) (hgd : o.guard = none) (s x : Operand)
    (ho : o.op = .call { callee := .builtin .append, args := #[s, x], argTypes := #[25, 25] }) (B : Nat) (A : Option Addr) (c n : Nat) (Z : List Int) (b : Int) (g : Nat)
    (hs : a.eval s = .slice A n c) (hown : OZ w B (.slice A n c) Z) (hn : Z.length = n)
    (hx : a.eval x = .slice (some ⟨g, 0, none⟩) 1 1) (hnew : w.cell? ⟨g, 0, none⟩ = some (.int .i64 b)) (hlen : n ≤ 1048576) (hB : B ≤ w.heap.size)
    (h : ∀ A' c' w', OZ w' B (.slice A' (n + 1) c') (Z ++ [b]) → Below B w w' → wpList Try.prog ops Q rest (a.put o.dst (.slice A' (n + 1) c')) w') : wpList Try.prog ops Q (o :: rest) a w := by
  obtain ⟨i0, hi, hz0, hz1, hz2⟩ := info_parts int_info
  subst hn
  refine wpList_append_own w hgd s x 25 ho B 3 i0 (.int .i64 0) 1 8 Try.underlying25 hi hz0 hz1 hz2 rfl (by decide) _ _ _ hs hown ⟨g, 0, none⟩ 1 1 [.int .i64 b] hx rfl ?_ ?_ (by unfold maxLen; omega) (by omega) hB ?_
  · intro j u hj
    match j, hj with
    | 0, hj => simp at hj; subst hj; simpa [Addr.add] using hnew
  · intro u hu; simp at hu; subst hu; rfl
  · intro v' w' h2 h3 _
    obtain ⟨A', c', rfl⟩ := own_form h2
    refine h A' c' w' ?_ (Below.own_grown (Below.refl B w) hown h3 (Nat.le_refl _) hB)
    unfold OZ
    rw [List.map_append, List.length_append]
    exact h2
theorem OZ.arr {w : World} {B m d : Nat} {A : Option Addr} {F : Nat → Int} (h : OZ w B (.slice A m d) ((List.range m).map F)) (hm : 0 < m) : ∃ g, A = some ⟨g, 0, none⟩ ∧ B ≤ g ∧ Arr w 3 g m (iv F) := by
  obtain ⟨h0, h | ⟨g, cap, cur, h1, h2, h3, h4, h5, h6, h7⟩⟩ := h
  · simp at h; omega
  · injection h1 with a b e
    subst a e
    refine ⟨g, rfl, h2, ⟨cur, h3, by simp at h4; omega, fun k hk => ?_⟩⟩
    have h8 : (cur.toList.take (((List.range m).map F).length * 1))[k]? = (((List.range m).map F).map (fun x => Value.int .i64 x))[k]? := by rw [h7]
    rw [List.getElem?_take_of_lt (by simpa using hk)] at h8
    simpa [hk, iv] using h8
end Go.Proofs.Ytggcjmdadomlaaa
