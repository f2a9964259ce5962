import Derived.Test.YtibikoajejfdeaaDoorSA
import Derived.Test.YtibikoajejfdeaaDoorB
namespace Go.Proofs.YtibikoajejfdeaaDoor
open Go.RowKit
set_option maxHeartbeats 400000
/-- The values of a list of sets. -/
def vl (L : List Nat) : List Value := L.map (fun x => Value.int .i64 (x : Nat))
theorem vl_snoc (L : List Nat) (b : Nat) : vl (L ++ [b]) = vl L ++ [.int .i64 (b : Nat)] := by simp [vl]
theorem vl_row (L : List Nat) : vl L = rowL L.length (lv L) := by
  apply List.ext_getElem?
  intro k
  by_cases h : k < L.length
  · rw [rowL_get _ _ _ h]; simp [vl, lv, h]
  · rw [List.getElem?_eq_none (by simp [vl]; omega), List.getElem?_eq_none (by simp [rowL]; omega)]
/-- A list of sets in a row of the call's own, in a block from B on. -/
def OL (w : World) (B : Nat) (v : Value) (L : List Nat) : Prop := w.ownsRow B 3 1 v L.length (vl L)
theorem OL.src {w : World} {B : Nat} {A : Option Addr} {n c : Nat} {L : List Nat} (h : OL w B (.slice A n c) L) (hn : L.length = n) : Src w A n (lv L) := by
  subst hn; unfold OL at h; rw [vl_row] at h; exact own_src h
theorem OL.nil (w : World) (B : Nat) : OL w B (.slice none 0 0) [] := World.ownsRow_nil _ _ _ _
theorem OL.all {w w' : World} {B : Nat} {v : Value} {L : List Nat} (h : OL w B v L) (hb : Below w.heap.size w w') : OL w' B v L := own_below h hb
theorem OL.alloc {w : World} {B : Nat} {v : Value} {L : List Nat} (h : OL w B v L) (o : Obj) : OL (w.alloc o) B v L := h.all ((Below.refl _ _).alloc (Nat.le_refl _) _)
theorem OL.far {w : World} {B : Nat} {v : Value} {L : List Nat} (h : OL w B v L) {p : Addr} (hp : p.block < B) (u : Value) : OL (w.setCell p u) B v L :=
  own_setCell h (by intro e; have := World.ownsRow.lt h _ e; omega) u
theorem wpList_append_nat {ops : Array Oper} {rest : List Oper} {o : Oper} {a : Act} {Q : Exit → Act → World → Prop} (w : World) (hgd : o.guard = none) (s x : Operand)
    (ho : o.op = .call { callee := .builtin .append, args := #[s, x], argTypes := #[36, 36] }) (B : Nat) (A : Option Addr) (c n : Nat) (L : List Nat) (b g : Nat)
    (hs : a.eval s = .slice A n c) (hown : OL w B (.slice A n c) L) (hn : L.length = n)
    (hx : a.eval x = .slice (some ⟨g, 0, none⟩) 1 1) (hnew : w.cell? ⟨g, 0, none⟩ = some (.int .i64 (b : Nat))) (hlen : n ≤ 1048576) (hB : B ≤ w.heap.size)
    (h : ∀ A' c' w', OL w' B (.slice A' (n + 1) c') (L ++ [b]) → Below B w w' → wpList Tryd.prog ops Q rest (a.put o.dst (.slice A' (n + 1) c')) w') : wpList Tryd.prog ops Q (o :: rest) a w := by
  obtain ⟨i0, hi, hz0, hz1, hz2⟩ := info_parts int_info
  subst hn
  refine wpList_append_own w hgd s x 36 ho B 3 i0 (.int .i64 0) 1 8 Tryd.underlying36 hi hz0 hz1 hz2 rfl (by decide) _ _ _ hs hown ⟨g, 0, none⟩ 1 1 [.int .i64 (b : Nat)] hx rfl ?_ ?_ (by unfold maxLen; omega) (by omega) hB ?_
  · intro j u hj
    match j, hj with
    | 0, hj => simp at hj; subst hj; simpa [Addr.add] using hnew
  · intro u hu; simp at hu; subst hu; rfl
  · intro v' w' h2 h3 _
    obtain ⟨A', c', rfl⟩ := own_form h2
    refine h A' c' w' ?_ (Below.own_grown (Below.refl B w) hown h3 (Nat.le_refl _) hB)
    unfold OL
    rw [vl_snoc, List.length_append]
    exact h2
/-- A call hands back a list, in memory that stays. -/
def NewL (w : World) (L : List Nat) (e : Ending) (w' : World) : Prop :=
  ∃ A c n, e = .returned (.slice A n c) ∧ L.length = n ∧ Src w' A n (lv L) ∧ Below w.heap.size w w'
theorem take_filter {L : List Nat} {k : Nat} (h : k < L.length) (p : Nat → Bool) : (L.take (k + 1)).filter p = (L.take k).filter p ++ (if p L[k] then [L[k]] else []) := by
  rw [List.take_succ_eq_append_getElem h, List.filter_append]
  cases hp : p L[k] <;> simp [hp]
/-- What has been put down behind k sets of the first round, and of the second one. -/
def lowL (L : List Nat) (r k : Nat) : List Nat := (L.take k).filter (fun b => decide (b.log2 < r.log2))
def hiL (L : List Nat) (r k : Nat) : List Nat := L.filter (fun b => decide (b.log2 < r.log2)) ++ r :: ((L.take k).filter (fun b => decide (r.log2 < b.log2))).map (fun b => stp b r)
theorem lowL_succ {L : List Nat} {r k : Nat} (h : k < L.length) : lowL L r (k + 1) = lowL L r k ++ (if decide (L[k].log2 < r.log2) then [L[k]] else []) := take_filter h _
theorem hiL_succ {L : List Nat} {r k : Nat} (h : k < L.length) : hiL L r (k + 1) = hiL L r k ++ (if decide (r.log2 < L[k].log2) then [stp L[k] r] else []) := by
  unfold hiL
  rw [take_filter h]
  cases hp : decide (r.log2 < L[k].log2) <;> simp
theorem lowL_len (L : List Nat) (r k : Nat) : (lowL L r k).length ≤ L.length := Nat.le_trans (List.length_filter_le _ _) (List.length_take_le' _ _)
theorem hiL_len (L : List Nat) (r k : Nat) : (hiL L r k).length ≤ L.length + 1 + L.length := by
  have h1 := List.length_filter_le (fun b => decide (b.log2 < r.log2)) L
  have h2 := List.length_filter_le (fun b => decide (r.log2 < b.log2)) (L.take k)
  have h3 := List.length_take_le' k L
  simp only [hiL, List.length_append, List.length_cons, List.length_map]
  omega
end Go.Proofs.YtibikoajejfdeaaDoor
