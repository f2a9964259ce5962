/-
Lists of maps that a call owns, and the powers of a map.
-/
import Derived.Test.YtdpoceijnbbmgaaDoorOI
import Derived.Test.YtdpoceijnbbmgaaDoorRC
import Derived.Test.YtdpoceijnbbmgaaDoorZa
import Derived.OwnWalk
namespace Go.Proofs.YtdpoceijnbbmgaaDoor
open Go.RowKit
set_option maxHeartbeats 2000000
theorem map_info : (Tryd.prog.info? 61).map (fun i => (i.zero, i.size, i.bytes)) = some (some (.agg #[.slice none 0 0]), 1, 24) := by kernel_rfl
/-- A list of K maps of n sets, the list in a row of the call's own from block B on, each map in a block of its own. -/
def ML (w : World) (B : Nat) (v : Value) (n : Nat) (G : Nat → Nat) (P : Nat → Nat → Nat) (K : Nat) : Prop :=
  w.ownsRow B 61 1 v K (rowL K fun k => .slice (some ⟨G k, 0, none⟩) n n) ∧ ∀ k, k < K → Arr w 57 (G k) n (iv (nv (P k)))
theorem ML.all {w w' : World} {B n K : Nat} {v : Value} {G : Nat → Nat} {P : Nat → Nat → Nat} (h : ML w B v n G P K) (hb : Below w.heap.size w w') : ML w' B v n G P K :=
  ⟨own_below h.1 hb, fun k hk => (h.2 k hk).all hb⟩
theorem ML.alloc {w : World} {B n K : Nat} {v : Value} {G : Nat → Nat} {P : Nat → Nat → Nat} (h : ML w B v n G P K) (o : Obj) : ML (w.alloc o) B v n G P K := h.all ((Below.refl _ _).alloc (Nat.le_refl _) _)
theorem ML.drewN {w : World} {B n K : Nat} {v : Value} {G : Nat → Nat} {P : Nat → Nat → Nat} (h : ML w B v n G P K) (k : Nat) : ML (w.drewN k) B v n G P K := h.all (below_drewN (Below.refl _ _) _)
theorem ML.src {w : World} {B n K d : Nat} {A : Option Addr} {G : Nat → Nat} {P : Nat → Nat → Nat} (h : ML w B (.slice A K d) n G P K) : Src w A K (fun k => .slice (some ⟨G k, 0, none⟩) n n) := own_src h.1
theorem own_type {w : World} {base : Nat} {v : Value} {n : Nat} {xs : List Value} (h : w.ownsRow base 61 1 v n xs) {g m : Nat} {f : Nat → Value} (ha : Arr w 57 g m f) : some g ≠ v.ownBlock := by
  rcases h.2 with ⟨rfl, _⟩ | ⟨r, cap, cur, rfl, _, hh, _⟩
  · simp [Value.ownBlock]
  · intro e
    simp only [Value.ownBlock, Option.some.injEq] at e
    subst e
    obtain ⟨cs, h2, _⟩ := ha
    rw [h2] at hh
    injection hh with hh
    injection hh with _ hh
    cases hh
theorem own_blk {w : World} {base : Nat} {v : Value} {n : Nat} {xs : List Value} (h : w.ownsRow base 61 1 v n xs) {b : Nat} (hb : b < base) : some b ≠ v.ownBlock := fun e => by
  have := (World.ownsRow.lt h b e.symm).1
  omega
theorem ML.far {w : World} {B n K : Nat} {v : Value} {G : Nat → Nat} {P : Nat → Nat → Nat} (h : ML w B v n G P K) {b : Nat} {c : Array Value} (hx : Blk w 61 b c) (hb : b < B) (u : Value) : ML (w.setCell ⟨b, 0, none⟩ u) B v n G P K := by
  refine ⟨own_setCell h.1 (fun e => own_blk h.1 hb e.symm) u, fun k hk => (h.2 k hk).far (fun e => ?_) u⟩
  obtain ⟨cs, h2, _⟩ := h.2 k hk
  simp only at e
  rw [e] at h2
  unfold Blk at hx
  rw [hx] at h2
  injection h2 with h2
  injection h2 with _ h2
  cases h2
/-- The block that a slice lies in. -/
def ob (A : Option Addr) : Option Nat := A.map (·.block)
theorem ob_eq (A : Option Addr) (n c : Nat) : (Value.slice A n c).ownBlock = ob A := by cases A <;> rfl
theorem wpList_append_map {ops : Array Oper} {rest : List Oper} {o : Oper} {a : Act} {Q : Exit → Act → World → Prop} (w : World) (hgd : o.guard = none) (s x : Operand)
    (ho : o.op = .call { callee := .builtin .append, args := #[s, x], argTypes := #[90, 90] }) (B : Nat) (A : Option Addr) (c n K : Nat) (G : Nat → Nat) (P : Nat → Nat → Nat) (gx gp : Nat)
    (hs : a.eval s = .slice A K c) (hown : ML w B (.slice A K c) n G P K)
    (hx : a.eval x = .slice (some ⟨gx, 0, none⟩) 1 1) (hnew : w.cell? ⟨gx, 0, none⟩ = some (.slice (some ⟨gp, 0, none⟩) n n)) (hp : Arr w 57 gp n (iv (nv (P K)))) (hlen : K ≤ 1048576) (hB : B ≤ w.heap.size)
    (h : ∀ A' c' w', ML w' B (.slice A' (K + 1) c') n (fun k => if k = K then gp else G k) P (K + 1) → w.grownBy w' (ob A) → (ob A' = ob A ∨ ob A' = some w.heap.size) → wpList Tryd.prog ops Q rest (a.put o.dst (.slice A' (K + 1) c')) w') : wpList Tryd.prog ops Q (o :: rest) a w := by
  obtain ⟨i0, hi, hz0, hz1, hz2⟩ := info_parts map_info
  obtain ⟨h1, h2⟩ := hown
  refine wpList_plain hgd fun Q' hQ' => ?_
  obtain ⟨v', w', hrun, h3, h4, _, h5⟩ := run_append_own_at (P := Tryd.prog) w B 90 o.type 61 i0 (.agg #[.slice none 0 0]) 1 24 Tryd.underlying90 hi hz0 hz1 hz2 rfl (by decide) _ K _ h1 ⟨gx, 0, none⟩ 1 1 [.slice (some ⟨gp, 0, none⟩) n n] rfl
    (fun j u hj => by
      match j, hj with
      | 0, hj => simp at hj; subst hj; simpa [Addr.add] using hnew)
    (by intro u hu; simp at hu; subst hu; rfl) (by unfold maxLen; omega) (by omega) hB
  obtain ⟨A', c', rfl⟩ := own_form h3
  rw [ob_eq, ob_eq] at h5
  unfold Oper.wp execOp
  simp only [ho, resolve, invoke, builtin, Sem.run_bind, Sem.run_pure, Result.andThen_ok, List.map_toArray, List.map_cons, List.map_nil, hs, hx, hrun]
  refine hQ' _ _ (h A' c' w' ⟨?_, fun k hk => ?_⟩ (by rw [← ob_eq A K c]; exact h4) h5)
  · rw [rowL_succ]
    simp only [if_true]
    have e : rowL K (fun k => Value.slice (some ⟨if k = K then gp else G k, 0, none⟩) n n) = rowL K fun k => .slice (some ⟨G k, 0, none⟩) n n := by
      unfold rowL
      apply List.map_congr_left
      intro j hj
      rw [if_neg (by have := List.mem_range.1 hj; omega)]
    rw [e]
    exact h3
  · by_cases hkl : k = K
    · subst hkl
      have := hp.of_block (h4.block gp hp.lt (own_type h1 hp))
      simpa using this
    · simp only [hkl, if_false]
      have ha := h2 k (by omega)
      exact ha.of_block (h4.block _ ha.lt (own_type h1 ha))
theorem ML.fars {w : World} {B n K d : Nat} {A : Option Addr} {G : Nat → Nat} {P : Nat → Nat → Nat} (h : ML w B (.slice A K d) n G P K) {b : Nat} {c : Array Value} (hx : Blk w 61 b c) (hb : ob A ≠ some b) (u : Value) : ML (w.setCell ⟨b, 0, none⟩ u) B (.slice A K d) n G P K := by
  refine ⟨own_setCell h.1 (by rw [ob_eq]; exact hb) u, fun k hk => (h.2 k hk).far (fun e => ?_) u⟩
  obtain ⟨cs, h2, _⟩ := h.2 k hk
  simp only at e
  rw [e] at h2
  unfold Blk at hx
  rw [hx] at h2
  injection h2 with h2
  injection h2 with _ h2
  cases h2
theorem Blk.kept {w w' : World} {t b : Nat} {cs : Array Value} {r : Option Nat} (h : Blk w t b cs) (hg : w.grownBy w' r) (hne : r ≠ some b) : Blk w' t b cs := (hg.block b h.lt (fun e => hne e.symm)).trans h
theorem ofPolyF_any (b n : Nat) (A A' : Option Addr) (c g n' c' : Nat) (x : Int) (M R : Nat → Nat) (w : World) (h1' : 1 ≤ n) (hn : n ≤ 40) (hT : Tab w) (hb : w.cell? ⟨b, 0, none⟩ = some (.slice A n c)) (hs : Src w A n (iv (nv M))) (hR : Arr w 57 g n (iv (nv R)))
    (hM : ∀ i, i < n → M i < 2 ^ n) (hRl : ∀ i, i < n → R i < 2 ^ n) :
    Calls Tryd.prog 96 #[.int .i64 x, .agg #[.slice A' n' c'], .agg #[.slice (some ⟨g, 0, none⟩) n n], .pointer (some ⟨b, 0, none⟩)] w (NewMap w n fun i => effN M (R i) n) := by
  have hbl := World.block_lt_of_cell? w _ hb
  have HT := hide hT
  have HS := hide hs
  have HR := hide hR
  have HM := hide hM
  have HRl := hide hRl
  have hb0 : Below w.heap.size w (((w.alloc (.cells #[.slice A' n' c'] 61)).alloc (.cells #[.slice (some ⟨g, 0, none⟩) n n] 61)).alloc (.cells #[.slice none 0 0] 61)) := by go_grown
  have hcb := (hb0.cell (p := ⟨b, 0, none⟩) hbl).trans hb
  clear hT hs hR hM hRl
  go_enter Tryd.func96, Tryd.ntmps96
  go_wp2_with fail
  refine (mapAfter_any A (some ⟨g, 0, none⟩) n c n M R _ h1' hn (HT.out.below hb0) (HS.out.below hb0) (Src.of_arr (HR.out.all hb0)) HM.out HRl.out).mono ?_
  rintro e w2 ⟨g2, rfl, hlo, ha, hb2⟩
  have HA := hide ha
  have HB := hide (hb0.trans (hb2.mono (by simp; omega)))
  have hr := (Blk.new ((w.alloc (.cells #[.slice A' n' c'] 61)).alloc (.cells #[.slice (some ⟨g, 0, none⟩) n n] 61)) 61 #[.slice none 0 0] (b := w.heap.size + 1 + 1) (by simp)).all hb2
  have r0 : w2.cell? ⟨w.heap.size + 1 + 1, 0, none⟩ = some (.slice none 0 0) := hr.cell 0
  have z0 := hr.frozen 0
  have hl := hr.lt
  clear ha hb2 hr hb0 hb hcb
  go_wp2
  refine bodyPost_ret (v := .agg #[.slice (some ⟨g2, 0, none⟩) n n]) (by simp [results, Tryd.results96, go_sem, r0]) rfl ?_
  simp at hlo
  exact ⟨g2, rfl, by omega, HA.out.far (by simp; omega) _, HB.out.setCell (by simp; omega) _⟩
end Go.Proofs.YtdpoceijnbbmgaaDoor
