/-
MatchingOf: what the program's loop holds between two rounds.
-/
import Derived.Test.YtmcimfblhpflnaaDoorVE
import Derived.Test.YtmcimfblhpflnaaDoorTB
import Derived.Test.YtmcimfblhpflnaaDoorFA
namespace Go.Proofs.YtmcimfblhpflnaaDoor
open Go.RowKit Go.Shelf
set_option maxHeartbeats 4000000
/-- What a body of the loop does to memory. -/
structure Bdm (m bs : Nat) (W W' : World) : Prop where
  kq : Kq m bs W W'
  ko : KeepsOthers W W'
theorem Bdm.refl (m bs : Nat) (W : World) : Bdm m bs W W := ⟨Kq.refl _ _ _, KeepsOthers.refl _⟩
theorem Bdm.trans {m bs : Nat} {A B C : World} (h : Bdm m bs A B) (k : Bdm m bs B C) : Bdm m bs A C := ⟨h.kq.trans k.kq, h.ko.trans k.ko⟩
theorem Bdm.of_below {m bs : Nat} {A B : World} (h : Below A.heap.size A B) (hm : m ≤ A.heap.size) (hb : bs < A.heap.size) : Bdm m bs A B :=
  ⟨⟨h.mono hm, h.block bs hb⟩, ⟨h.size, fun k o hk _ => (h.block k (Array.getElem?_eq_some_iff.1 hk).1).trans hk⟩⟩
theorem Bdm.set {m bs c d : Nat} {A : World} {u : Value} (hm : m ≤ c) (hb : bs ≠ c) : Bdm m bs A (A.setCell ⟨c, d, none⟩ u) :=
  ⟨⟨(Below.refl m A).setCell (p := ⟨c, d, none⟩) hm u, Below.heap_setCell A ⟨c, d, none⟩ u bs hb⟩, KeepsOthers.setCell _ _ _⟩
theorem EQ.alloc {w : World} {B lo : Nat} {v : Value} {Q : List Ent} (h : EQ w B lo v Q) (o : Obj) : EQ (w.alloc o) B lo v Q := h.all ((Below.refl _ _).alloc (Nat.le_refl _) _)
theorem EQ.drewN {w : World} {B lo : Nat} {v : Value} {Q : List Ent} (h : EQ w B lo v Q) (n : Nat) : EQ (w.drewN n) B lo v Q := h.all (below_drewN (Below.refl _ _) _)
theorem EQ.kept {w w' : World} {B lo : Nat} {v : Value} {Q : List Ent} {row : Option Nat} (h : EQ w B lo v Q) (hg : w.grownBy w' row) (hr : ∀ r, row = some r → v.ownBlock ≠ some r ∧ ∀ e ∈ Q, e.1 ≠ r) : EQ w' B lo v Q := by
  refine ⟨h.row.kept hg ?_, fun e he => ⟨(h.ent e he).1, (h.ent e he).2.of_block (hg.block _ (h.lt he) fun e2 => ?_)⟩, h.nd⟩
  · cases row with
    | none => cases hv : v.ownBlock with
      | none => exact .inl rfl
      | some b => exact .inr (fun e => by cases e)
    | some r => exact .inr (hr r rfl).1
  · exact (hr e.1 e2.symm).2 e he rfl
/-- One more pair. -/
theorem EQ.more {w w' : World} {B lo m : Nat} {A A' : Option Addr} {c c' gp : Nat} {Q : List Ent} {e : Nat × Nat} (h : EQ w B lo (.slice A m c) Q) (hn : Q.length = m) (hp : Arr w 3 gp 2 (pv e)) (hlo : lo ≤ gp) (hG : ∀ q ∈ Q, q.1 ≠ gp)
    (h3 : w'.ownsRow B 22 1 (.slice A' (m + 1) c') (m + 1) ((Q.map fun e => .slice (some ⟨e.1, 0, none⟩) 2 2) ++ [.slice (some ⟨gp, 0, none⟩) 2 2])) (h4 : w.grownBy w' (Value.slice A m c).ownBlock) :
    EQ w' B lo (.slice A' (m + 1) c') (Q ++ [(gp, e)]) := by
  refine ⟨by simpa [hn] using h3, fun q hq => ?_, ?_⟩
  · rcases List.mem_append.1 hq with hq | hq
    · exact ⟨(h.ent q hq).1, (h.ent q hq).2.of_block (h4.block _ (h.lt hq) (own_type h.row (h.ent q hq).2))⟩
    · simp only [List.mem_singleton] at hq
      subst hq
      exact ⟨hlo, hp.of_block (h4.block _ hp.lt (own_type h.row hp))⟩
  · rw [List.map_append, List.nodup_append]
    refine ⟨h.nd, by simp, fun a ha b hb => ?_⟩
    simp only [List.map_cons, List.map_nil, List.mem_singleton] at hb
    subst hb
    obtain ⟨q, hq, rfl⟩ := List.mem_map.1 ha
    exact hG q hq
theorem own_keeps {w w' : World} {B : Nat} {v : Value} {n : Nat} {xs : List Value} (h : w.ownsRow B 22 1 v n xs) (hg : w.grownBy w' v.ownBlock) : KeepsOthers w w' := by
  refine ⟨hg.size, fun k o hk ho => (hg.block k (Array.getElem?_eq_some_iff.1 hk).1 ?_).trans hk⟩
  intro e
  rcases h.2 with ⟨rfl, _⟩ | ⟨r, cap, cur, rfl, _, hh, _⟩
  · simp [Value.ownBlock] at e
  · simp only [Value.ownBlock, Option.some.injEq] at e
    subst e
    rw [hh] at hk
    injection hk with hk
    subst hk
    cases ho
theorem wpListIn_append_ent {F : Fence} {n : Nat} {ops : Array Oper} {rest : List Oper} {o : Oper} {a : Act} {K : Exit → Act → World → Prop} (w : World) (hgd : o.guard = none) (s x : Operand)
    (ho : o.op = .call { callee := .builtin .append, args := #[s, x], argTypes := #[39, 39] }) (B lo : Nat) (A : Option Addr) (c m : Nat) (Q : List Ent) (e : Nat × Nat) (gx gp : Nat)
    (hs : a.eval s = .slice A m c) (hown : EQ w B lo (.slice A m c) Q) (hn : Q.length = m)
    (hx : a.eval x = .slice (some ⟨gx, 0, none⟩) 1 1) (hnew : w.cell? ⟨gx, 0, none⟩ = some (.slice (some ⟨gp, 0, none⟩) 2 2)) (hp : Arr w 3 gp 2 (pv e)) (hBp : lo ≤ gp) (hG : ∀ q ∈ Q, q.1 ≠ gp) (hlen : m ≤ 1048576) (hB : B ≤ w.heap.size)
    (h : ∀ A' c' w', EQ w' B lo (.slice A' (m + 1) c') (Q ++ [(gp, e)]) → Below B w w' → KeepsOthers w w' → w.grownBy w' (Value.slice A m c).ownBlock → wpListIn F n Tryd.prog ops K rest (a.put o.dst (.slice A' (m + 1) c')) w') : wpListIn F n Tryd.prog ops K (o :: rest) a w := by
  obtain ⟨i0, hi, hz0, hz1, hz2⟩ := info_parts slice_info
  have h1 := hown.row
  rw [hn] at h1
  refine wpListIn_append_own w hgd s x 39 ho B 22 i0 (.slice none 0 0) 1 24 Tryd.underlying39 hi hz0 hz1 hz2 rfl (by decide) _ _ _ hs h1 ⟨gx, 0, none⟩ 1 1 [.slice (some ⟨gp, 0, none⟩) 2 2] hx rfl ?_ ?_ (by unfold maxLen; omega) (by omega) hB ?_
  · intro j u hj
    match j, hj with
    | 0, hj => simp at hj; subst hj; simpa [Addr.add] using hnew
  · intro u hu; simp at hu; subst hu; rfl
  · intro v' w' h3 h4 _
    obtain ⟨A', c', rfl⟩ := own_form h3
    exact h A' c' w' (hown.more hn hp hBp hG h3 h4) (Below.own_grown (Below.refl B w) h1 h4 (Nat.le_refl _) hB) (own_keeps h1 h4) h4
/-- Between two rounds. -/
structure MI (w : World) (g n c fb gp lb d eb tb bs B : Nat) (own : Bool) (p : Nat → Int) (l : List Nat) (W : World) : Prop where
  be : Below w.heap.size w W
  bf : Blk W 56 fb #[.slice (some ⟨g, 0, none⟩) n c, .bool own, .slice (some ⟨gp, 0, none⟩) n n, .slice (some ⟨lb, 0, none⟩) n d]
  bt : Blk W 3 tb #[.int .i64 ((mtRun p l).1 : Nat)]
  pa : Arr W 3 gp n (iv p)
  ed : ∃ (A : Option Addr) (m c' : Nat) (Q : List Ent), Blk W 39 eb #[.slice A m c'] ∧ Q.length = m ∧ Q.map (·.2) = (mtRun p l).2 ∧ EQ W B B (.slice A m c') Q ∧ (Q = [] → A = none ∧ c' = 0)
  top : B ≤ W.heap.size
theorem MI.all {w W W' : World} {g n c fb gp lb d eb tb bs B : Nat} {own : Bool} {p : Nat → Int} {l : List Nat} (h : MI w g n c fb gp lb d eb tb bs B own p l W) (hb : Below W.heap.size W W') : MI w g n c fb gp lb d eb tb bs B own p l W' := by
  obtain ⟨A, m, c', Q, h1, h2, h3, h4, h5⟩ := h.ed
  exact ⟨h.be.trans (hb.mono h.be.size), h.bf.all hb, h.bt.all hb, h.pa.all hb, ⟨A, m, c', Q, h1.all hb, h2, h3, h4.all hb, h5⟩, Nat.le_trans h.top hb.size⟩
theorem MI.own {α : Type} {w : World} {g n c fb gp lb d eb tb bs B : Nat} {own : Bool} {p : Nat → Int} (k : α → Nat) (hw : w.heap.size ≤ B) : OwnFrom B (fun (pre : List α) W => MI w g n c fb gp lb d eb tb bs B own p (pre.map k) W) := by
  intro s W W' row hs hg hr
  have ne : ∀ b ob, W.heap[b]? = some ob → ob.isCells = true → some b ≠ row := fun b ob hb hc e => by
    obtain ⟨_, o, ho, hf⟩ := hr b e.symm
    rw [hb] at ho
    injection ho with ho
    subst ho
    rw [hc] at hf; cases hf
  obtain ⟨A, m, c', Q, h1, h2, h3, h4, h5⟩ := hs.ed
  refine ⟨⟨hg.os.trans hs.be.os, hg.tape.trans hs.be.tape, hg.output.trans hs.be.output, Nat.le_trans hs.be.size hg.size, fun k hk => (hg.block k (Nat.lt_of_lt_of_le hk hs.be.size) (fun e => by have := (hr k e.symm).1; omega)).trans (hs.be.block k hk)⟩, ?_, ?_, ?_, ?_, Nat.le_trans hs.top hg.size⟩
  · exact (hg.block _ hs.bf.lt (ne _ _ hs.bf rfl)).trans hs.bf
  · exact (hg.block _ hs.bt.lt (ne _ _ hs.bt rfl)).trans hs.bt
  · obtain ⟨cs, hc, _⟩ := id hs.pa
    exact hs.pa.of_block (hg.block _ hs.pa.lt (ne _ _ hc rfl))
  · refine ⟨A, m, c', Q, (hg.block _ h1.lt (ne _ _ h1 rfl)).trans h1, h2, h3, h4.kept hg fun r er => ⟨?_, fun e he e2 => ?_⟩, h5⟩
    · intro eo
      rcases h4.row.2 with ⟨e0, _⟩ | ⟨r', cap, cur, e0, _, hh, _⟩
      · rw [e0] at eo; cases eo
      · rw [e0] at eo
        injection eo with eo
        subst eo
        exact ne _ _ hh rfl er.symm
    · obtain ⟨cs, hc, _⟩ := id (h4.ent e he).2
      exact ne _ _ hc rfl (by rw [e2, er])
end Go.Proofs.YtmcimfblhpflnaaDoor
