/-
The builtins append and copy over slices told by a function of the index. Nothing here speaks of the program.
-/
import Derived.Test.YtdpoceijnbbmgaaDoorU
import Derived.Laws.CopyOwn
namespace Go.Proofs.YtdpoceijnbbmgaaDoor
open Go.RowKit
/-- copy of a whole slice into the head of a block. -/
theorem wpList_copy_arr {P : Program} {w : World} {ops : Array Oper} {rest : List Oper} {o : Oper} {a : Act} {Q : Exit → Act → World → Prop} (hgd : o.guard = none) (d s : Operand) (dT : TypeId)
    (ho : o.op = .call { callee := .builtin .copy, args := #[d, s], argTypes := #[dT, dT] }) (e : TypeId) (hu : P.underlying dT = some (.slice e)) (hsz : (P.info? e).map (·.size) = some 1)
    (g n dc m sc : Nat) (A : Option Addr) (f f0 : Nat → Value) (hd : a.eval d = .slice (some ⟨g, 0, none⟩) n dc) (hs : a.eval s = .slice A m sc) (hmn : m ≤ n)
    (ha : Arr w e g n f0) (hsrc : Src w A m f) (h1 : ∀ k, k < m → (f k).oneCell' = true)
    (hK : ∀ w', Arr w' e g n (fun k => if k < m then f k else f0 k) → w.grownBy w' (some g) → wpList P ops Q rest (a.put o.dst (goInt m)) w') : wpList P ops Q (o :: rest) a w := by
  obtain ⟨cur, hb, hn, hc⟩ := ha
  rcases Nat.eq_zero_or_pos m with h0 | h0
  · subst h0
    refine wpList_copy_nothing hgd d s dT dT ho e hu hsz _ _ n dc 0 sc hd hs (by simp) ?_
    exact hK w ⟨cur, hb, hn, fun k hk => by simpa using hc k hk⟩ (World.grownBy.refl _ _)
  · obtain ⟨b, off, rfl, _, _⟩ := hsrc 0 h0
    have hl := rowL_length m f
    refine wpList_copy_own hgd d s dT dT ho e hu hsz g 0 n dc ⟨b, off, none⟩ m sc hd hs cur e hb (rowL m f) (by rw [hl]; exact (Nat.min_eq_left hmn).symm)
      (fun j v hj => ?_) (by rw [hl]; omega) (fun v hv => ?_) ?_
    · have hjm : j < m := by
        rcases Nat.lt_or_ge j m with h | h
        · exact h
        · rw [List.getElem?_eq_none (by rw [hl]; exact h)] at hj; cases hj
      rw [rowL_get m f j hjm] at hj
      obtain ⟨b', off', e1, _, hcell⟩ := hsrc j hjm
      injection e1 with e1
      injection e1 with e2 e3
      subst e2 e3
      rw [Go.WideShapes.add_plain, hcell]; exact hj
    · simp only [rowL, List.mem_map, List.mem_range] at hv
      obtain ⟨k, hk, rfl⟩ := hv
      exact h1 k hk
    · rw [hl]
      refine hK _ ⟨_, setRow_heap w g _ _ e _ hb, ?_, fun k hk => ?_⟩ ⟨rfl, rfl, rfl, by simp [World.setRow], fun k hk hne => setRow_other w g k _ (by intro e; exact hne (by rw [e]))⟩
      · simp [rowL_length]; omega
      · simp only [List.getElem?_toArray, Nat.zero_add, List.take_zero, List.nil_append]
        by_cases hkm : k < m
        · rw [if_pos hkm, List.getElem?_append_left (by rw [hl]; exact hkm), rowL_get m f k hkm]
        · rw [if_neg hkm, List.getElem?_append_right (by rw [hl]; omega), hl, List.getElem?_drop]
          have := hc k hk
          rw [show m + (k - m) = k by omega]
          simpa using this
/-- 'append([]T{}, l...)': a new slice with l's contents. -/
theorem wpList_append_new {P : Program} {w : World} {ops : Array Oper} {rest : List Oper} {o : Oper} {a : Act} {Q : Exit → Act → World → Prop} (hgd : o.guard = none) (s x : Operand) (t : TypeId)
    (ho : o.op = .call { callee := .builtin .append, args := #[s, x], argTypes := #[t, t] })
    (base : Nat) (e : TypeId) (i : TypeInfo) (z : Value) (bytes : Nat) (ht : P.underlying t = some (.slice e)) (hi : P.info? e = some i) (hz : i.zero = some z)
    (hsize : i.size = 1) (hby : i.bytes = bytes) (hzs : z.cells.size = 1)
    (v : Value) (hs : a.eval s = v) (hown : w.ownsRow base e 1 v 0 [])
    (A : Option Addr) (m c : Nat) (f : Nat → Value) (hx : a.eval x = .slice A m c) (hm : 0 < m) (hsrc : Src w A m f) (h1 : ∀ k, k < m → (f k).oneCell' = true)
    (h63 : m ≤ 1048577) (hbytes : bytes ≤ 64) (hbase : base ≤ w.heap.size)
    (h : ∀ g c' w', base ≤ g → Arr w' e g m f → w.grownBy w' v.ownBlock → wpList P ops Q rest (a.put o.dst (.slice (some ⟨g, 0, none⟩) m c')) w') : wpList P ops Q (o :: rest) a w := by
  obtain ⟨b, off, rfl, _, _⟩ := hsrc 0 hm
  have hl := rowL_length m f
  refine wpList_append_own_at w hgd s x t ho base e i z 1 bytes ht hi hz hsize hby hzs (by omega) v 0 [] hs hown ⟨b, off, none⟩ m c (rowL m f) hx (by rw [hl]; omega) (fun j u hj => ?_) (fun u hu => ?_) (by simp only [maxLen]; omega) (by
      have : (0 + m) * bytes ≤ 1048577 * 64 := Nat.mul_le_mul (by omega) hbytes
      omega) hbase ?_
  · have hjm : j < m := by
      rcases Nat.lt_or_ge j m with h | h
      · exact h
      · rw [List.getElem?_eq_none (by rw [hl]; exact h)] at hj; cases hj
    rw [rowL_get m f j hjm] at hj
    obtain ⟨b', off', e1, _, hcell⟩ := hsrc j hjm
    injection e1 with e1
    injection e1 with e2 e3
    subst e2 e3
    rw [Go.WideShapes.add_plain, hcell]; exact hj
  · simp only [rowL, List.mem_map, List.mem_range] at hu
    obtain ⟨k, hk, rfl⟩ := hu
    exact h1 k hk
  · intro v' w' ho' hg' _ _
    rw [Nat.zero_add, List.nil_append] at ho'
    obtain ⟨g, c', rfl, hb, ha⟩ := own_pos ho' hm
    exact h g c' w' hb ha hg'
end Go.Proofs.YtdpoceijnbbmgaaDoor
