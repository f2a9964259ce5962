import Derived.Test.YtodbhokokdckkaaSK
namespace Go.Proofs.Ytodbhokokdckkaa
open Go.RowKit
set_option maxHeartbeats 2000000
/-- Two slices share no block. -/
def Sep (u v : Value) : Prop := ∀ k, u.ownBlock = some k → v.ownBlock ≠ some k
theorem Sep.symm {u v : Value} (h : Sep u v) : Sep v u := fun k hk hu => h k hu hk
theorem Sep.none (v : Value) (n c : Nat) : Sep (.slice none n c) v := fun k hk => by simp [Value.ownBlock] at hk
theorem wpList_append_two {ops : Array Oper} {rest : List Oper} {o : Oper} {a : Act} {Q : Exit → Act → World → Prop} (w : World) (hgd : o.guard = none) (s x : Operand)
    (ho : o.op = .call { callee := .builtin .append, args := #[s, x], argTypes := #[22, 22] }) (B : Nat) (A : Option Addr) (c n : Nat) (L : List Nat) (b g : Nat)
    (hs : a.eval s = .slice A n c) (hown : OL w B (.slice A n c) L) (hn : L.length = n)
    (hx : a.eval x = .slice (some ⟨g, 0, none⟩) 1 1) (hnew : w.cell? ⟨g, 0, none⟩ = some (.int .i64 (b : Nat))) (hlen : n ≤ 1048576) (hB : B ≤ w.heap.size)
    (v2 : Value) (L2 : List Nat) (h2 : OL w B v2 L2) (hsep : Sep (.slice A n c) v2)
    (h : ∀ A' c' w', OL w' B (.slice A' (n + 1) c') (L ++ [b]) → OL w' B v2 L2 → Sep (.slice A' (n + 1) c') v2 → Below B w w' → wpList Try.prog ops Q rest (a.put o.dst (.slice A' (n + 1) c')) w') : wpList Try.prog ops Q (o :: rest) a w := by
  obtain ⟨i0, hi, hz0, hz1, hz2⟩ := info_parts int_info
  subst hn
  refine wpList_plain hgd fun K hK => ?_
  obtain ⟨v', w', hrun, h2', h3, _, h5⟩ := run_append_own_at (P := Try.prog) w B 22 o.type 3 i0 (.int .i64 0) 1 8 Try.underlying22 hi hz0 hz1 hz2 rfl (by decide) _ L.length (vl L) hown ⟨g, 0, none⟩ 1 1 [.int .i64 (b : Nat)] rfl
    (fun j u hu => by
      match j, hu with
      | 0, hu => simp at hu; subst hu; simpa [Addr.add] using hnew)
    (by intro u hu; simp at hu; subst hu; rfl) (by unfold maxLen; omega) (by omega) hB
  obtain ⟨A', c', rfl⟩ := own_form h2'
  have hlt2 := World.ownsRow.lt h2
  unfold Oper.wp execOp
  simp only [ho, resolve, invoke, builtin, Sem.run_bind, Sem.run_pure, Result.andThen_ok, List.map_toArray, List.map_cons, List.map_nil, hs, hx, hrun]
  refine hK _ _ (h A' c' w' ?_ (World.ownsRow.kept h2 h3 ?_) ?_ (Below.own_grown (Below.refl B w) hown h3 (Nat.le_refl _) hB))
  · unfold OL
    rw [vl_snoc, List.length_append]
    exact h2'
  · cases hv : v2.ownBlock with
    | none => exact .inl rfl
    | some k => right; intro e; exact hsep k e.symm hv
  · intro k hk
    rcases h5 with h5 | h5
    · rw [h5] at hk; exact hsep k hk
    · rw [h5] at hk; injection hk with hk; intro e; have := (hlt2 k e).2; omega
theorem pressBasis_any (g n c : Nat) (F : Nat → Nat) (own : Bool) (w : World) (hn : n ≤ 16) (hF : ∀ j, j < n → F j < 2 ^ n) (ha : Arr w 3 g n (iv (nv F))) :
    Calls Try.prog 93 #[.agg #[.slice (some ⟨g, 0, none⟩) n c, .bool own]] w (GrownL w.heap.size w (pS (tog F own) n n)) := by
  have hmf : ∀ (fn : Fn) (first cap : Array Value) (w : World), (Instr.makeFunc fn first cap).run Try.prog w = .ok (.func fn first cap) w := fun _ _ _ _ => rfl
  have HA := hide ha
  have HF := hide hF
  clear ha hF
  go_enter Try.func93, Try.ntmps93
  go_wp2_with fail
  have hbn := Blk.new (w.alloc (.cells #[.slice (some ⟨g, 0, none⟩) n c, .bool own] 26)) 3 #[.int .i64 n] (b := w.heap.size + 1) (by simp)
  have hba := (Arr.box w 26 (.slice (some ⟨g, 0, none⟩) n c) (.bool own)).alloc (.cells #[.int .i64 n] 3)
  have ha2 := (HA.out.alloc (.cells #[.slice (some ⟨g, 0, none⟩) n c, .bool own] 26)).alloc (.cells #[.int .i64 n] 3)
  refine (basisOf115 _ _ _ _ _ F own _ hn HF.out hba hbn ha2).mono ?_
  rintro e w2 ⟨A, d, m, rfl, hm, ho, hb⟩
  have HM := hide hm
  have HO := hide ho
  have HB := hide hb
  clear hm ho hb hbn hba ha2
  go_wp2
  go_ret
  refine ⟨A, d, m, rfl, HM.out, HO.out.mono (by simp; omega), (by go_grown : Below w.heap.size w _).trans (HB.out.mono (by simp; omega))⟩
/-- What quietAndImage hands back. -/
def TwoL (w : World) (Q I : List Nat) (e : Ending) (w' : World) : Prop :=
  ∃ (A1 A2 : Option Addr) (n1 n2 c1 c2 : Nat), e = .returned (.tuple #[.slice A1 n1 c1, .slice A2 n2 c2]) ∧ Q.length = n1 ∧ I.length = n2 ∧ OL w' w.heap.size (.slice A1 n1 c1) Q ∧ OL w' w.heap.size (.slice A2 n2 c2) I ∧ Below w.heap.size w w'
def lowP (P : List Nat) (n k : Nat) : List Nat := (P.take k).filter (fun b => decide (b >>> n = 0))
def upP (P : List Nat) (n k : Nat) : List Nat := ((P.take k).filter (fun b => decide (¬ b >>> n = 0))).map (· >>> n)
theorem lowP_succ {P : List Nat} {n k : Nat} (h : k < P.length) : lowP P n (k + 1) = lowP P n k ++ (if decide (P[k] >>> n = 0) then [P[k]] else []) := take_filter h _
theorem upP_succ {P : List Nat} {n k : Nat} (h : k < P.length) : upP P n (k + 1) = upP P n k ++ (if decide (¬ P[k] >>> n = 0) then [P[k] >>> n] else []) := by
  unfold upP
  rw [take_filter h, List.map_append]
  cases hp : decide (¬ P[k] >>> n = 0) <;> simp
theorem lowP_len (P : List Nat) (n k : Nat) : (lowP P n k).length ≤ P.length := Nat.le_trans (List.length_filter_le _ _) (List.length_take_le' _ _)
theorem upP_len (P : List Nat) (n k : Nat) : (upP P n k).length ≤ P.length := by
  unfold upP; rw [List.length_map]; exact Nat.le_trans (List.length_filter_le _ _) (List.length_take_le' _ _)
/-- The quiet basis and the image basis are the parts of the basis of presses with their effects. -/
theorem parts (T : Nat → Nat) (n : Nat) : lowP (pS T n n) n (pS T n n).length = (qS T n n).1 ∧ upP (pS T n n) n (pS T n n).length = iS T n := by
  have HI := inv_at T n n (by omega)
  obtain ⟨H, hP, hH, hI⟩ := HI.H
  have hl := HI.low
  simp only [lowP, upP, List.take_length]
  rw [hP]
  have a1 : (qS T n n).1.filter (fun b => decide (b >>> n = 0)) = (qS T n n).1 := by
    rw [List.filter_eq_self]; intro b hb; exact decide_eq_true (shr_eq_zero.2 (hl b hb))
  have a2 : H.filter (fun b => decide (b >>> n = 0)) = [] := by
    rw [List.filter_eq_nil_iff]; intro b hb; have := hH b hb; rw [decide_eq_true_eq, shr_eq_zero]; omega
  have b1 : (qS T n n).1.filter (fun b => decide (¬ b >>> n = 0)) = [] := by
    rw [List.filter_eq_nil_iff]; intro b hb; have := hl b hb; rw [decide_eq_true_eq, shr_eq_zero]; omega
  have b2 : H.filter (fun b => decide (¬ b >>> n = 0)) = H := by
    rw [List.filter_eq_self]; intro b hb; have := hH b hb; rw [decide_eq_true_eq, shr_eq_zero]; omega
  rw [List.filter_append, List.filter_append, a1, a2, b1, b2, List.append_nil, List.nil_append]
  exact ⟨rfl, hI⟩
end Go.Proofs.Ytodbhokokdckkaa
