import Derived.Test.YtmcimfblhpflnaaDoorGL
import Derived.BigQuiet
import Derived.Deep.RegionLaw
namespace Go.Proofs.YtmcimfblhpflnaaDoor
open Go.RowKit
set_option maxHeartbeats 2000000
theorem step_append_edge {ops : Array Oper} {o : Oper} {a : Act} {w : World} {K : Act → World → Prop} {Q : Exit → Act → World → Prop} {E : Prop}
    (hgd : o.guard = none) (s x : Operand) (ho : o.op = Op.call { callee := Callee.builtin Builtin.append, args := #[s, x], argTypes := #[39, 39] })
    (B lo : Nat) (A : Option Addr) (c n : Nat) (G : Nat → Nat) (P : List (Nat × Nat)) (p : Nat × Nat) (gx gp : Nat)
    (hs : a.eval s = .slice A n c) (hown : EM w B lo (.slice A n c) G P) (hn : P.length = n)
    (hx : a.eval x = .slice (some ⟨gx, 0, none⟩) 1 1) (hnew : w.cell? ⟨gx, 0, none⟩ = some (.slice (some ⟨gp, 0, none⟩) 2 2)) (hp : Arr w 3 gp 2 (pv p)) (hBp : lo ≤ gp) (hG : ∀ k, k < n → G k < gp) (hlen : n ≤ 1048576) (hB : B ≤ w.heap.size)
    (h : ∀ A' c' w', EM w' B lo (.slice A' (n + 1) c') (fun k => if k = n then gp else G k) (P ++ [p]) → Below B w w' → K (a.put o.dst (.slice A' (n + 1) c')) w') :
    if Region.wanted o (yielded ops a.tmps) = true then Oper.wp Tryd.prog o a w K Q else E := by
  have hw : Region.wanted o (yielded ops a.tmps) = true := by simp [Region.wanted, hgd]
  rw [if_pos hw]
  obtain ⟨i0, hi, hz0, hz1, hz2⟩ := info_parts slice_info
  subst hn
  obtain ⟨h1, h2⟩ := hown
  obtain ⟨v', w', hrun, h3, h4, _, _⟩ := run_append_own_at (P := Tryd.prog) w B 39 o.type 22 i0 (.slice none 0 0) 1 24 Tryd.underlying39 hi hz0 hz1 hz2 rfl (by decide) _ _ _ h1 ⟨gx, 0, none⟩ 1 1 [.slice (some ⟨gp, 0, none⟩) 2 2] rfl
    (fun j u hj => by
      match j, hj with
      | 0, hj => simp at hj; subst hj; simpa [Addr.add] using hnew)
    (by intro u hu; simp at hu; subst hu; rfl) (by unfold maxLen; omega) (by omega) hB
  obtain ⟨A', c', rfl⟩ := own_form h3
  unfold Oper.wp execOp
  simp only [ho, resolve, invoke, builtin, Sem.run_bind, Sem.run_pure, Result.andThen_ok, List.map_toArray, List.map_cons, List.map_nil, hs, hx, hrun]
  refine h A' c' w' ⟨?_, fun k hk => ?_⟩ (Below.own_grown (Below.refl B w) h1 h4 (Nat.le_refl _) hB)
  · rw [List.length_append, List.length_singleton, rowL_succ]
    simp only [if_true]
    have e : rowL P.length (fun k => Value.slice (some ⟨if k = P.length then gp else G k, 0, none⟩) 2 2) = rowL P.length fun k => .slice (some ⟨G k, 0, none⟩) 2 2 := by
      unfold rowL
      apply List.map_congr_left
      intro j hj
      rw [if_neg (by have := List.mem_range.1 hj; omega)]
    rw [e]
    exact h3
  · by_cases hkl : k = P.length
    · subst hkl
      refine ⟨by simpa using hBp, ?_, fun j hj => ?_⟩
      · have := hp.of_block (h4.block gp hp.lt (own_type h1 hp))
        simpa using this
      · simp only [if_true]
        rw [if_neg (by omega)]
        exact hG j hj
    · have hk2 : k < P.length := by simp at hk; omega
      obtain ⟨hB2, ha, hord⟩ := h2 k hk2
      simp only [hkl, if_false]
      refine ⟨hB2, ?_, fun j hj => ?_⟩
      · rw [List.getElem_append_left hk2]
        exact ha.of_block (h4.block _ ha.lt (own_type h1 ha))
      · rw [if_neg (by omega)]
        exact hord j hj
theorem paCut_any (g n c : Nat) (F : Nat → Nat) (own : Bool) (q : Nat) (w : World) (hn : n ≤ 16) (ha : Arr w 3 g n (iv (nv F))) :
    Calls Tryd.prog 69 #[.agg #[.slice (some ⟨g, 0, none⟩) n c, .bool own], .int .i64 q] w (CutL w (cutP (allP F n n) q (allP F n n).length) id) := by
  have HA := hide ha
  have hmem0 := fun p => allP_mem F n n p
  obtain ⟨P, hP⟩ : ∃ P, allP F n n = P := ⟨_, rfl⟩
  rw [hP] at hmem0 ⊢
  have HMem := hide hmem0
  have HPp := hide hP
  clear ha hP hmem0
  go_enter Tryd.func69, Tryd.ntmps69
  go_wp2_with fail
  refine (grEdges_any _ _ _ F own _ hn (HA.out.alloc _)).mono ?_
  rintro e w1 ⟨A, m, d, G, rfl, hm, hm2, hss, hb1⟩
  rw [HPp.out] at hm hss
  have hl1 : w.heap.size < w1.heap.size := by have := hb1.size; simp at this; omega
  have HSS := hide hss
  have HM := hide hm
  have HB1 := hide ((by go_grown : Below w.heap.size w _).trans (hb1.mono (by simp)))
  clear hb1 hss hm
  simp only [id]
  go_wp2
  go_loopw [5, 11] (fun cv i wr => ∃ (k m' d' : Nat) (A' : Option Addr) (G' : Nat → Nat), k ≤ m ∧ i = .int .i64 k ∧ cv = .slice A' m' d' ∧ Hid ((cutP P q k).length = m') ∧ Hid (EM wr w1.heap.size (w.heap.size + 1) (.slice A' m' d') G' (cutP P q k)) ∧ Below w1.heap.size w1 wr) (fun _ i _ => m - (intOf i).toNat)
  case atStart => exact ⟨0, 0, 0, none, fun _ => 0, by omega, rfl, rfl, hide (by rw [cutP_zero]; rfl), hide (by rw [cutP_zero]; exact EM.nil _ _ _ _), Below.refl _ _⟩
  case round =>
    obtain ⟨k, m', d', A', G', hk, rfl, rfl, HL, HE, hb⟩ := hrel
    have hm' : m' ≤ 1048576 := by have := cutP_len P q k; rw [HL.out] at this; omega
    have hsz := hb.size
    by_cases hlt : k < m
    · have hkP : k < P.length := by rw [← HM.out]; exact hlt
      obtain ⟨b, off, rfl, hbl, hct, _⟩ := HSS.out.top k hlt
      obtain ⟨_, _, hag, _⟩ := HSS.out.row k hlt
      obtain ⟨ex, ey, ep⟩ := pair_at hkP
      have hmem := HMem.out _ (List.getElem_mem hkP)
      have hsu := cutP_succ (s := q) hkP
      obtain ⟨p, hp⟩ : ∃ p, P[k] = p := ⟨_, rfl⟩
      rw [hp] at hmem hsu ep
      obtain ⟨x, y⟩ := p
      have hpv : Arr wr 3 (G k) 2 (pv (x, y)) := (hag.congr ep).all hb
      have ct : wr.cell? ⟨b, off + k, none⟩ = some (.slice (some ⟨G k, 0, none⟩) 2 2) := (hb.cell (p := ⟨b, off + k, none⟩) hbl.2.2).trans hct
      have cx : wr.cell? ⟨G k, 0, none⟩ = some (.int .i64 (x : Nat)) := hpv.cell (k := 0) (by omega)
      have cy : wr.cell? ⟨G k, 1, none⟩ = some (.int .i64 (y : Nat)) := hpv.cell (k := 1) (by omega)
      simp only at hmem hsu
      have hx64 : x < 64 := by omega
      have hy64 : y < 64 := by omega
      have hgl := hpv.lt
      have HB := hide hb
      have HGl : Hid (∀ j, j < m' → G' j < wr.heap.size) := hide fun j hj => by
        have := (HE.out.2 j (by rw [HL.out]; exact hj)).2.1.lt; exact this
      obtain ⟨γ, hγ⟩ : ∃ γ, G k = γ := ⟨_, rfl⟩
      rw [hγ] at ct cx cy hgl
      clear hb hct hag ex ey ep hmem hp hkP hpv hγ
      cases hbit : (q.testBit x == q.testBit y)
      · have HN : Hid (cutP P q (k + 1) = cutP P q k ++ [(x, y)]) := hide (by rw [hsu, bne, hbit]; rfl)
        clear hsu
        go_wp2_with fail
        go_quiet ((go_at_call 73; exact Calls.quiet_of_same (grIn_nat q _ _ (by assumption))))
        go_wp2_with fail
        go_region_law ((refine step_append_edge rfl (.tmp 26) (.tmp 34) rfl w1.heap.size (w.heap.size + 1) A' d' m' G' (cutP P q k) (x, y) (wr.heap.size + 1) wr.heap.size rfl (((HE.out.drewN nq).all (Below.drew (Below.refl _ _)) |>.alloc _).alloc _) HL.out rfl (by simp [go_sem]) ((Arr.box_at _ 3 _ _ (by simp)).alloc _) (by omega) HGl.out hm' (by simp; omega) ?_; intro A5 c5 w5 ho5 hb5; have HE5 := hide ho5; have HB5 := hide ((((below_drewN HB.out nq).drew.alloc (by simp; omega) _).alloc (by simp; omega) _).trans hb5); clear ho5 hb5))
        all_goals
          go_wp2
          go_roundw
          case rel => exact ⟨k + 1, m' + 1, c5, A5, _, by omega, by go_num, rfl, hide (by rw [HN.out, List.length_append, HL.out]; rfl), hide (by rw [HN.out]; exact HE5.out), HB5.out⟩
          case measure => simp [intOf] <;> omega
      · have HN : Hid (cutP P q (k + 1) = cutP P q k) := hide (by rw [hsu, bne, hbit]; simp)
        clear hsu
        go_wp2_with fail
        go_quiet ((go_at_call 73; exact Calls.quiet_of_same (grIn_nat q _ _ (by assumption))))
        go_wp2
        go_roundw
        case rel => exact ⟨k + 1, m', d', A', G', by omega, by go_num, rfl, hide (by rw [HN.out]; exact HL.out), hide (by rw [HN.out]; exact HE.out.drewN _), below_drewN HB.out _⟩
        case measure => simp [intOf] <;> omega
    · have hkm : k = m := by omega
      subst hkm
      have HB := hide hb
      have hm16 : m' ≤ k := by have := cutP_len P q k; rw [HL.out] at this; exact this
      have HEnd := hide (HE.out.ss HL.out (lo := w.heap.size + 1) (by omega))
      clear hb
      go_wp2
      go_ret
      refine ⟨A', m', d', G', rfl, ?_, by omega, ?_, HB1.out.trans (HB.out.mono HB1.out.size)⟩
      · rw [← HM.out]; exact HL.out.symm
      · rw [← HM.out]; exact HEnd.out
end Go.Proofs.YtmcimfblhpflnaaDoor
