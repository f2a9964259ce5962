/-
Slices that a call builds by append, told by a function of the index. Nothing here speaks of the program.
-/
import Derived.Test.YtibikoajejfdeaaDoorBase
import Derived.Maps.AppendAt
import Derived.Deep.RegionLaw
import Derived.RegionTactic
namespace Go.Proofs.YtibikoajejfdeaaDoor
open Go.RowKit
/-- The list of the first n. -/
def rowL (n : Nat) (f : Nat → Value) : List Value := (List.range n).map f
theorem rowL_succ (n : Nat) (f : Nat → Value) : rowL (n + 1) f = rowL n f ++ [f n] := by simp [rowL, List.range_succ]
theorem rowL_zero (f : Nat → Value) : rowL 0 f = [] := rfl
theorem rowL_get (n : Nat) (f : Nat → Value) (k : Nat) (hk : k < n) : (rowL n f)[k]? = some (f k) := by simp [rowL, hk]
theorem rowL_length (n : Nat) (f : Nat → Value) : (rowL n f).length = n := by simp [rowL]
theorem own_form {w : World} {base : Nat} {e : TypeId} {v : Value} {n : Nat} {xs : List Value} (h : w.ownsRow base e 1 v n xs) : ∃ A c, v = .slice A n c := by
  rcases h.2 with ⟨rfl, rfl⟩ | ⟨g, cap, cur, rfl, _⟩
  · exact ⟨_, _, rfl⟩
  · exact ⟨_, _, rfl⟩
theorem own_pos {w : World} {base : Nat} {e : TypeId} {v : Value} {n : Nat} {f : Nat → Value} (h : w.ownsRow base e 1 v n (rowL n f)) (hn : 0 < n) :
    ∃ g c, v = .slice (some ⟨g, 0, none⟩) n c ∧ base ≤ g ∧ Arr w e g n f := by
  rcases h.2 with ⟨_, rfl⟩ | ⟨g, cap, cur, rfl, hb, hh, hc, _, hs, ht⟩
  · omega
  · refine ⟨g, cap, rfl, hb, cur, hh, by omega, fun k hk => ?_⟩
    have := rowL_get n f k hk
    rw [← ht, List.getElem?_take] at this
    rw [if_pos (by omega)] at this
    simpa using this
theorem own_src {w : World} {base : Nat} {e : TypeId} {A : Option Addr} {n c : Nat} {f : Nat → Value} (h : w.ownsRow base e 1 (.slice A n c) n (rowL n f)) : Src w A n f := by
  intro k hk
  obtain ⟨g, c', hv, hb, ha⟩ := own_pos h (by omega)
  injection hv with hA
  subst hA
  exact Src.of_arr ha k hk
theorem own_below {w w' : World} {base : Nat} {e : TypeId} {v : Value} {n : Nat} {xs : List Value} (h : w.ownsRow base e 1 v n xs) (hb : Below w.heap.size w w') : w'.ownsRow base e 1 v n xs :=
  h.kept (row := none) ⟨hb.os, hb.tape, hb.output, hb.size, fun k hk _ => hb.block k hk⟩ (by cases hv : v.ownBlock <;> simp)
theorem own_setCell {w : World} {base : Nat} {e : TypeId} {v : Value} {n : Nat} {xs : List Value} (h : w.ownsRow base e 1 v n xs) {p : Addr} (hp : v.ownBlock ≠ some p.block) (u : Value) : (w.setCell p u).ownsRow base e 1 v n xs :=
  h.kept (row := some p.block) ⟨rfl, rfl, rfl, by simp [World.setCell], fun k hk hne => Below.heap_setCell w p u k (by intro e; exact hne (by rw [e]))⟩ (by right; exact hp)
theorem Arr.own_grown {w w' : World} {base : Nat} {e : TypeId} {v : Value} {n : Nat} {xs : List Value} {t : TypeId} {g m : Nat} {f : Nat → Value} (h : Arr w t g m f) (ho : w.ownsRow base e 1 v n xs) (hg : w.grownBy w' v.ownBlock) (hlt : g < base) : Arr w' t g m f :=
  h.of_block (hg.block g h.lt (by intro e; have := (ho.lt g e.symm).1; omega))
theorem Below.own_grown {B : Nat} {a w w' : World} {base : Nat} {e : TypeId} {v : Value} {n : Nat} {xs : List Value} (h : Below B a w) (ho : w.ownsRow base e 1 v n xs) (hg : w.grownBy w' v.ownBlock) (hB : B ≤ base) (hz : B ≤ w.heap.size) : Below B a w' :=
  h.grown hg hz (fun k hk => by have := (ho.lt k hk).1; omega)
/-- 'out = append(out, x)', out a row of the call's own: one step of a region that draws its order. -/
theorem step_append_one {P : Program} {ops : Array Oper} {o : Oper} {a : Act} {w : World} {K : Act → World → Prop} {Q : Exit → Act → World → Prop} {E : Prop}
    (hgd : o.guard = none) (s x : Operand) (t : TypeId) (ho : o.op = Op.call { callee := Callee.builtin Builtin.append, args := #[s, x], argTypes := #[t, t] })
    (base : Nat) (e : TypeId) (i : TypeInfo) (z : Value) (bytes : Nat) (ht : P.underlying t = some (.slice e)) (hi : P.info? e = some i) (hz : i.zero = some z)
    (hsize : i.size = 1) (hby : i.bytes = bytes) (hzs : z.cells.size = 1)
    (A : Option Addr) (n cp : Nat) (f : Nat → Value) (hs : a.eval s = .slice A n cp) (hown : w.ownsRow base e 1 (.slice A n cp) n (rowL n f))
    (g c : Nat) (hx : a.eval x = .slice (some ⟨g, 0, none⟩) 1 c) (hnew : w.cell? ⟨g, 0, none⟩ = some (f n)) (h1 : (f n).oneCell' = true)
    (h63 : n + 1 ≤ 1048577) (hbytes : bytes ≤ 64) (hbase : base ≤ w.heap.size)
    (h : ∀ A' cp' w', w'.ownsRow base e 1 (.slice A' (n + 1) cp') (n + 1) (rowL (n + 1) f) → w.grownBy w' (Value.slice A n cp).ownBlock → ((Value.slice A' (n + 1) cp').ownBlock = (Value.slice A n cp).ownBlock ∨ (Value.slice A' (n + 1) cp').ownBlock = some w.heap.size) → K (a.put o.dst (.slice A' (n + 1) cp')) w') :
    if Region.wanted o (yielded ops a.tmps) = true then Oper.wp P o a w K Q else E := by
  have hw : Region.wanted o (yielded ops a.tmps) = true := by simp [Region.wanted, hgd]
  rw [if_pos hw]
  obtain ⟨v', w', hrun, h2, h3, _, h5⟩ := run_append_own_at (P := P) w base t o.type e i z 1 bytes ht hi hz hsize hby hzs (by omega) _ n (rowL n f) hown ⟨g, 0, none⟩ 1 c [f n] rfl
    (fun j u hu => by
      match j, hu with
      | 0, hu => simp at hu; subst hu; simpa [Addr.add] using hnew)
    (by simpa using h1) (by simp only [maxLen]; omega) (by
      have : (n + 1) * bytes ≤ 1048577 * 64 := Nat.mul_le_mul h63 hbytes
      omega) hbase
  rw [← rowL_succ] at h2
  obtain ⟨A', cp', rfl⟩ := own_form h2
  unfold Oper.wp execOp
  simp only [ho, resolve, invoke, builtin, Sem.run_bind, Sem.run_pure, Result.andThen_ok, List.map_toArray, List.map_cons, List.map_nil, hs, hx, hrun]
  exact h A' cp' w' h2 h3 h5
end Go.Proofs.YtibikoajejfdeaaDoor
