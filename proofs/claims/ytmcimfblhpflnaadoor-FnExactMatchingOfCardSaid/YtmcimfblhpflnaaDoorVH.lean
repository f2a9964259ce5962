/-
Lists of pairs appended to a list of pairs.
-/
import Derived.Test.YtmcimfblhpflnaaDoorVG
import Derived.Test.YtmcimfblhpflnaaDoorTP
import Derived.Laws.AppendOwnNone
import Derived.Maps.AppendAt
import Derived.BigQuiet
import Derived.Deep.RegionLaw
namespace Go.Proofs.YtmcimfblhpflnaaDoor
open Go.RowKit
set_option maxHeartbeats 2000000
theorem addr_add (b o j : Nat) : (⟨b, o, none⟩ : Addr).add j = ⟨b, o + j, none⟩ := by
  by_cases h : j = 0
  · subst h; simp [Addr.add]
  · simp [Addr.add, h]
def hdE (e : Ent) : Value := .slice (some ⟨e.1, 0, none⟩) 2 2
/-- What is appended lies in memory. -/
def SrcE (w : World) (src : Value) (S : List Ent) : Prop :=
  (src = .slice none 0 0 ∧ S = []) ∨ ∃ ad m c, src = .slice (some ad) m c ∧ S.length = m ∧ ∀ j (hj : j < S.length), w.cell? (ad.add j) = some (hdE S[j])
theorem run_app {w : World} {B : Nat} (ty : TypeId) {v src : Value} {Q S : List Ent} (hown : w.ownsRow B 22 1 v Q.length (Q.map hdE)) (hs : SrcE w src S) (hl : Q.length + S.length ≤ 1048576) (hB : B ≤ w.heap.size) :
    ∃ A' n' c' w', (Builtin.append_ #[39, 39] ty #[v, src]).run Tryd.prog w = .ok (.slice A' n' c') w' ∧ n' = (Q ++ S).length ∧ w'.ownsRow B 22 1 (.slice A' n' c') (Q ++ S).length ((Q ++ S).map hdE) ∧ w.grownBy w' v.ownBlock := by
  rw [List.length_append]
  obtain ⟨i0, hi, hz0, hz1, hz2⟩ := info_parts slice_info
  rcases hs with ⟨rfl, rfl⟩ | ⟨ad, m, c, rfl, rfl, hc⟩
  · obtain ⟨A', c', rfl⟩ := own_form hown
    refine ⟨A', Q.length, c', w, run_append_owned_none w B 39 ty 22 i0 1 Tryd.underlying39 hi _ _ _ hown, rfl, by simpa using hown, World.grownBy.refl _ _⟩
  · obtain ⟨v', w', h1, h2, h3, _, _⟩ := run_append_own_at (P := Tryd.prog) w B 39 ty 22 i0 (.slice none 0 0) 1 24 Tryd.underlying39 hi hz0 hz1 hz2 rfl (by decide) v Q.length (Q.map hdE) hown ad S.length c (S.map hdE) (by simp)
      (fun j u hj => by
        rw [List.getElem?_map] at hj
        obtain ⟨e, he, rfl⟩ := Option.map_eq_some_iff.1 hj
        obtain ⟨hj2, rfl⟩ := List.getElem?_eq_some_iff.1 he
        exact hc j hj2)
      (fun u hu => by obtain ⟨e, _, rfl⟩ := List.mem_map.1 hu; rfl) (by unfold maxLen; omega) (by omega) hB
    obtain ⟨A', c', rfl⟩ := own_form h2
    exact ⟨A', _, c', w', h1, rfl, by rw [List.map_append]; exact h2, h3⟩
/-- A row of heads, appended to. -/
theorem wpList_append_heads {ops : Array Oper} {rest : List Oper} {o : Oper} {a : Act} {K : Exit → Act → World → Prop} (w : World) (hgd : o.guard = none) (s x : Operand)
    (ho : o.op = .call { callee := .builtin .append, args := #[s, x], argTypes := #[39, 39] }) (B : Nat) (v src : Value) (Q S : List Ent)
    (hs : a.eval s = v) (hown : w.ownsRow B 22 1 v Q.length (Q.map hdE)) (hx : a.eval x = src) (hsrc : SrcE w src S) (hlen : Q.length + S.length ≤ 1048576) (hB : B ≤ w.heap.size)
    (h : ∀ A' n' c' w', n' = (Q ++ S).length → w'.ownsRow B 22 1 (.slice A' n' c') (Q ++ S).length ((Q ++ S).map hdE) → w.grownBy w' v.ownBlock → wpList Tryd.prog ops K rest (a.put o.dst (.slice A' n' c')) w') : wpList Tryd.prog ops K (o :: rest) a w := by
  refine wpList_plain hgd fun K' hK => ?_
  obtain ⟨A', n', c', w', h1, h0, h2, h3⟩ := run_app o.type hown hsrc hlen hB
  unfold Oper.wp execOp
  simp only [ho, resolve, invoke, builtin, Sem.run_bind, Sem.run_pure, Result.andThen_ok, List.map_toArray, List.map_cons, List.map_nil, hs, hx, h1]
  exact hK _ _ (h A' n' c' w' h0 h2 h3)
theorem step_append_heads {ops : Array Oper} {o : Oper} {a : Act} {w : World} {K : Act → World → Prop} {K2 : Exit → Act → World → Prop} {E : Prop}
    (hgd : o.guard = none) (s x : Operand) (ho : o.op = Op.call { callee := Callee.builtin Builtin.append, args := #[s, x], argTypes := #[39, 39] })
    (B : Nat) (v src : Value) (Q S : List Ent) (hs : a.eval s = v) (hown : w.ownsRow B 22 1 v Q.length (Q.map hdE)) (hx : a.eval x = src) (hsrc : SrcE w src S) (hlen : Q.length + S.length ≤ 1048576) (hB : B ≤ w.heap.size)
    (h : ∀ A' n' c' w', n' = (Q ++ S).length → w'.ownsRow B 22 1 (.slice A' n' c') (Q ++ S).length ((Q ++ S).map hdE) → w.grownBy w' v.ownBlock → K (a.put o.dst (.slice A' n' c')) w') :
    if Region.wanted o (yielded ops a.tmps) = true then Oper.wp Tryd.prog o a w K K2 else E := by
  have hw : Region.wanted o (yielded ops a.tmps) = true := by simp [Region.wanted, hgd]
  rw [if_pos hw]
  obtain ⟨A', n', c', w', h1, h0, h2, h3⟩ := run_app o.type hown hsrc hlen hB
  unfold Oper.wp execOp
  simp only [ho, resolve, invoke, builtin, Sem.run_bind, Sem.run_pure, Result.andThen_ok, List.map_toArray, List.map_cons, List.map_nil, hs, hx, h1]
  exact h A' n' c' w' h0 h2 h3
theorem src_one (w : World) {W : World} (e : Ent) {b : Nat} (hb : b = w.heap.size) (hB : Below (w.heap.size + 1) (w.alloc (.cells #[hdE e] 22)) W) : SrcE W (.slice (some ⟨b, 0, none⟩) 1 1) [e] := by
  subst hb
  refine .inr ⟨_, 1, 1, rfl, rfl, fun j hj => ?_⟩
  have hj0 : j = 0 := by simp at hj; omega
  subst hj0
  rw [addr_add]
  exact (hB.cell (p := ⟨w.heap.size, 0, none⟩) (Nat.lt_succ_self _)).trans (cell_at_new w _ _ rfl)
theorem src_rest {w : World} {rb a q c : Nat} {Q : List Ent} (hq : Q.length = q) (ha : a ≤ q) (hc : q ≤ c) (hcell : ∀ j (hj : j < Q.length), w.cell? ⟨rb, j, none⟩ = some (.slice (some ⟨Q[j].1, 0, none⟩) 2 2)) :
    SrcE w (.slice (if c = a then some ⟨rb, 0, none⟩ else some ⟨rb, a, none⟩) (q - a) (c - a)) (Q.drop a) := by
  have hl : (Q.drop a).length = q - a := by rw [List.length_drop, hq]
  by_cases h : c = a
  · rw [if_pos h]
    exact .inr ⟨_, _, _, rfl, hl, fun j hj => absurd hj (by omega)⟩
  · rw [if_neg h]
    refine .inr ⟨_, _, _, rfl, hl, fun j hj => ?_⟩
    rw [addr_add, List.getElem_drop]
    exact hcell (a + j) (by omega)
/-- The list with one pair more in its place. -/
theorem EQ.place {w W : World} {B lo B' n c a : Nat} {A : Option Addr} {v : Value} {Q : List Ent} {x : Ent} (h : EQ w B lo v Q) (hb : Below w.heap.size w W) (hp : Arr W 3 x.1 2 (pv x.2)) (hx : w.heap.size ≤ x.1) (hlo : lo ≤ x.1) (hn : n = ((Q.take a ++ [x]) ++ Q.drop a).length)
    (ho : W.ownsRow B' 22 1 (.slice A n c) ((Q.take a ++ [x]) ++ Q.drop a).length (((Q.take a ++ [x]) ++ Q.drop a).map hdE)) : EQ W B' lo (.slice A n c) ((Q.take a ++ [x]) ++ Q.drop a) := by
  have hperm : ((Q.take a ++ [x]) ++ Q.drop a).Perm (x :: Q) := by
    rw [List.append_assoc]
    exact (List.perm_middle (a := x) (l₁ := Q.take a) (l₂ := Q.drop a)).trans (by rw [List.take_append_drop])
  refine ⟨ho, fun e he => ?_, ?_⟩
  · rcases List.mem_cons.1 (hperm.mem_iff.1 he) with rfl | he
    · exact ⟨hlo, hp⟩
    · exact ⟨(h.ent e he).1, (h.ent e he).2.all hb⟩
  · rw [(hperm.map (·.1)).nodup_iff, List.map_cons, List.nodup_cons]
    refine ⟨fun hm => ?_, h.nd⟩
    obtain ⟨e, he, e2⟩ := List.mem_map.1 hm
    have := h.lt he
    omega
theorem place_len (Q : List Ent) (x : Ent) (a : Nat) : ((Q.take a ++ [x]) ++ Q.drop a).length = Q.length + 1 := by
  have h := congrArg List.length (List.take_append_drop a Q)
  simp only [List.length_append, List.length_cons, List.length_nil] at h ⊢
  omega
theorem place_map {Q : List Ent} {x : Ent} {a : Nat} (ha : a ≤ Q.length) (h1 : ∀ j (hj : j < a) (hl : j < Q.length), (Q[j].2).1 < x.2.1) (h2 : ∀ (hl : a < Q.length), ¬ (Q[a].2).1 < x.2.1) :
    ((Q.take a ++ [x]) ++ Q.drop a).map (·.2) = putE x.2 (Q.map (·.2)) := by
  rw [putE_at (k := a) (by rw [List.length_map]; exact ha) (fun j hj hl => by rw [List.getElem_map]; exact h1 j hj (by simpa using hl)) (fun hl => by rw [List.getElem_map]; exact h2 (by simpa using hl))]
  simp
theorem least_any (a b : Nat) (w : World) : Calls Tryd.prog 81 #[.int .i64 (a : Nat), .int .i64 (b : Nat)] w fun e w' => e = .returned (.int .i64 ((min a b : Nat) : Int)) ∧ w' = w := by
  by_cases h : a < b
  · have h' : (a : Int) < (b : Int) := by omega
    have e : min a b = a := by omega
    rw [e]
    go_enter Tryd.func81, Tryd.ntmps81
    go_wp2
    go_ret
    exact ⟨rfl, rfl⟩
  · have h' : ¬ (a : Int) < (b : Int) := by omega
    have e : min a b = b := by omega
    rw [e]
    go_enter Tryd.func81, Tryd.ntmps81
    go_wp2
    go_ret
    exact ⟨rfl, rfl⟩
theorem most_any (a b : Nat) (w : World) : Calls Tryd.prog 82 #[.int .i64 (a : Nat), .int .i64 (b : Nat)] w fun e w' => e = .returned (.int .i64 ((max a b : Nat) : Int)) ∧ w' = w := by
  by_cases h : b < a
  · have h' : (b : Int) < (a : Int) := by omega
    have h2 : ¬ (a : Int) < (b : Int) := by omega
    have h3 : (a : Int) > (b : Int) := by omega
    have e : max a b = a := by omega
    rw [e]
    go_enter Tryd.func82, Tryd.ntmps82
    go_wp2
    go_ret
    exact ⟨rfl, rfl⟩
  · have h' : ¬ (b : Int) < (a : Int) := by omega
    have e : max a b = b := by omega
    rw [e]
    go_enter Tryd.func82, Tryd.ntmps82
    go_wp2
    go_ret
    exact ⟨rfl, rfl⟩
end Go.Proofs.YtmcimfblhpflnaaDoor
