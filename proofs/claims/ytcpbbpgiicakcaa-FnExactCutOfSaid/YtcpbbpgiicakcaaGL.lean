import Derived.Test.YtcpbbpgiicakcaaGK
import Derived.BigQuiet
namespace Go.Proofs.Ytcpbbpgiicakcaa
open Go.RowKit
set_option maxHeartbeats 2000000
theorem new_cell (w : World) (v : Value) (t : TypeId) : (w.alloc (.cells #[v] t)).cell? ⟨w.heap.size, 0, none⟩ = some v := by simp [go_sem]
theorem new_size (w : World) (o : Obj) : w.heap.size ≤ (w.alloc o).heap.size := by simp
theorem has_nat (q x : Nat) (w : World) (hx : x < 64) : Calls Try.prog 61 #[.int .i64 q, .int .i64 x] w fun e w' => e = .returned (.bool (q.testBit x)) ∧ w' = w :=
  (hasG_any (q : Int) (x : Int) (by omega) (by omega) w).mono fun e w' ⟨h1, h2⟩ => ⟨by rw [h1, Int.toNat_natCast, bt_nat], h2⟩
theorem grIn_nat (q x : Nat) (w : World) (hx : x < 64) : Calls Try.prog 63 #[.int .i64 q, .int .i64 x] w fun e w' => e = .returned (.bool (q.testBit x)) ∧ w' = w :=
  (grInG_any (q : Int) (x : Int) (by omega) (by omega) (by omega) w).mono fun e w' ⟨h1, h2⟩ => ⟨by rw [h1, Int.toNat_natCast, bt_nat], h2⟩
theorem cutImpl_ok (g n c : Nat) (F : Nat → Nat) (own : Bool) (q : Nat) (w : World) (hn : n ≤ 16) (hG : goodB n (nv F) = true) (hq : inB q 0 (2 ^ n - 1) = true) (ha : Arr w 3 g n (iv (nv F))) :
    Calls Try.prog 34 #[.agg #[.slice (some ⟨g, 0, none⟩) n c, .bool own], .int .i64 q] w (CutL w (cutP (allP F n n) q (allP F n n).length) fun v => .tuple #[v, .bool true]) := by
  have HA := hide ha
  have HG := hide hG
  have HQ := hide hq
  have hmem0 := fun p => allP_mem F n n p
  obtain ⟨P, hP⟩ : ∃ P, allP F n n = P := ⟨_, rfl⟩
  rw [hP] at hmem0 ⊢
  have HMem := hide hmem0
  have HPp := hide hP
  clear ha hG hq hP hmem0
  go_enter Try.func34, Try.ntmps34
  go_wp2_with fail
  refine (edgesImpl_ok _ _ _ F own _ hn HG.out (HA.out.alloc _)).mono ?_
  rintro e w1 ⟨A, m, d, G, rfl, hm, hm2, hss, hb1⟩
  rw [HPp.out] at hm hss
  have hp := (Arr.box w 28 (.slice (some ⟨g, 0, none⟩) n c) (.bool own)).all hb1
  have c0 : w1.cell? ⟨w.heap.size, 0, none⟩ = some (.slice (some ⟨g, 0, none⟩) n c) := hp.cell (by omega)
  have c1 : w1.cell? ⟨w.heap.size, 1, none⟩ = some (.bool own) := hp.cell (by omega)
  have hl1 := hp.lt
  have HSS := hide hss
  have HM := hide hm
  have HB1 := hide ((by go_grown : Below w.heap.size w _).trans (hb1.mono (by simp)))
  clear hb1 hp hss hm
  go_wp2_with fail
  refine (isSet_any _ _ _ _ _ _ hn).mono ?_
  rintro e w2 ⟨rfl, hb2⟩
  rw [HQ.out]
  have hz2 := hb2.size
  have HSS2 := hide (HSS.out.all hb2)
  have HB2 := hide (HB1.out.trans (hb2.mono HB1.out.size))
  clear hb2 c0 c1
  go_wp2
  go_loopw [8, 26] (fun cv i wr => ∃ (k m' d' : Nat) (A' : Option Addr) (G' : Nat → Nat), k ≤ m ∧ i = .int .i64 k ∧ cv = .slice A' m' d' ∧ Hid ((cutP P q k).length = m') ∧ Hid (EM wr w2.heap.size (w.heap.size + 1) (.slice A' m' d') G' (cutP P q k)) ∧ Hid (∀ j, j < m' → ∃ i, i < k ∧ G' j = G i) ∧ Below w2.heap.size w2 wr) (fun _ i _ => m - (intOf i).toNat)
  case atStart => exact ⟨0, 0, 0, none, fun _ => 0, by omega, rfl, rfl, hide (by rw [cutP_zero]; rfl), hide (by rw [cutP_zero]; exact EM.nil _ _ _ _), hide (fun j hj => absurd hj (by omega)), Below.refl _ _⟩
  case round =>
    obtain ⟨k, m', d', A', G', hk, rfl, rfl, HL, HE, HO, hb⟩ := hrel
    have hm' : m' ≤ 1048576 := by have := cutP_len P q k; rw [HL.out] at this; omega
    have hsz := hb.size
    by_cases hlt : k < m
    · have hkP : k < P.length := by rw [← HM.out]; exact hlt
      obtain ⟨b, off, rfl, hbl, hct, _⟩ := HSS2.out.top k hlt
      obtain ⟨hg1, hg2, hag, hgo⟩ := HSS2.out.row k hlt
      obtain ⟨ex, ey, ep⟩ := pair_at hkP
      have hmem := HMem.out _ (List.getElem_mem hkP)
      have hsu := cutP_succ (s := q) hkP
      obtain ⟨x, hx⟩ : ∃ x, P[k].1 = x := ⟨_, rfl⟩
      obtain ⟨y, hy⟩ : ∃ y, P[k].2 = y := ⟨_, rfl⟩
      have hpv : Arr wr 3 (G k) 2 (pv P[k]) := (hag.congr ep).all hb
      have ct : wr.cell? ⟨b, off + k, none⟩ = some (.slice (some ⟨G k, 0, none⟩) 2 2) := (hb.cell (p := ⟨b, off + k, none⟩) hbl.2.2).trans hct
      have cx : wr.cell? ⟨G k, 0, none⟩ = some (.int .i64 (x : Nat)) := by rw [← hx]; exact hpv.cell (k := 0) (by omega)
      have cy : wr.cell? ⟨G k, 1, none⟩ = some (.int .i64 (y : Nat)) := by rw [← hy]; exact hpv.cell (k := 1) (by omega)
      rw [hx, hy] at hmem hsu
      have hx64 : x < 64 := by omega
      have hy64 : y < 64 := by omega
      have hgl := hpv.lt
      obtain ⟨p, hp⟩ : ∃ p, P[k] = p := ⟨_, rfl⟩
      rw [hp] at hsu hpv
      have HPv := hide hpv
      have HB := hide hb
      have HOr := hide hgo
      obtain ⟨γ, hγ⟩ : ∃ γ, G k = γ := ⟨_, rfl⟩
      rw [hγ] at ct cx cy hgl HPv hg1
      simp only [World.size_alloc] at hg1
      have hg3 : w.heap.size + 1 ≤ γ := by omega
      have HOr2 : Hid (∀ j, j < m' → G' j < γ) := hide fun j hj => by
        obtain ⟨i, hi, e⟩ := HO.out j hj
        rw [e, ← hγ]; exact hgo i hi
      have HGk := hide hγ
      clear hb hct hag hgo ex ey ep hx hy hmem hp hkP hpv hγ hg2
      cases hbit : (q.testBit x == q.testBit y)
      · have HN : Hid (cutP P q (k + 1) = cutP P q k ++ [p]) := hide (by rw [hsu, bne, hbit]; rfl)
        clear hsu
        go_wp2_with fail
        go_quiet ((go_at_call 61; exact Calls.quiet_of_same (has_nat q _ _ (by assumption))))
        go_wp2_with (at_builtin; refine wpList_append_edge _ rfl _ _ rfl w2.heap.size (w.heap.size + 1) A' d' m' G' (cutP P q k) p wr.heap.size γ rfl ((HE.out.drewN nq).alloc _) HL.out rfl (new_cell (wr.drewN nq) _ _) ((HPv.out.drewN nq).alloc _) hg3 HOr2.out hm' (Nat.le_trans hsz (new_size (wr.drewN nq) _)) ?_; intro A5 c5 w5 ho5 hb5; have HE5 := hide ho5; have HB5 := hide (((below_drewN HB.out nq).alloc hsz _).trans hb5); clear ho5 hb5)
        go_roundw
        case rel => exact ⟨k + 1, m' + 1, c5, A5, _, by omega, by go_num, rfl, hide (by rw [HN.out, List.length_append, HL.out]; rfl), hide (by rw [HN.out]; exact HE5.out), hide (fun j hj => by
            by_cases e : j = m'
            · exact ⟨k, by omega, by simp [e, HGk.out]⟩
            · obtain ⟨i, hi, e2⟩ := HO.out j (by omega)
              exact ⟨i, by omega, by simp [e, e2]⟩), HB5.out⟩
        case measure => simp [intOf] <;> omega
      · have HN : Hid (cutP P q (k + 1) = cutP P q k) := hide (by rw [hsu, bne, hbit]; simp)
        clear hsu
        go_wp2_with fail
        go_quiet ((go_at_call 61; exact Calls.quiet_of_same (has_nat q _ _ (by assumption))))
        go_wp2
        go_roundw
        case rel => exact ⟨k + 1, m', d', A', G', by omega, by go_num, rfl, hide (by rw [HN.out]; exact HL.out), hide (by rw [HN.out]; exact HE.out.drewN _), hide (fun j hj => by obtain ⟨i, hi, e2⟩ := HO.out j hj; exact ⟨i, by omega, e2⟩), below_drewN HB.out _⟩
        case measure => simp [intOf] <;> omega
    · have hkm : k = m := by omega
      subst hkm
      have HB := hide hb
      have hm16 : m' ≤ k := by have := cutP_len P q k; rw [HL.out] at this; exact this
      have HEnd := hide (HE.out.ss HL.out (lo := w.heap.size + 1) (by omega))
      clear hb
      go_wp2
      go_ret2
      refine ⟨A', m', d', G', rfl, ?_, by omega, ?_, HB2.out.trans (HB.out.mono HB2.out.size)⟩
      · rw [← HM.out]; exact HL.out.symm
      · rw [← HM.out]; exact HEnd.out
theorem cutImpl_no1 (g n c : Nat) (f : Nat → Int) (own : Bool) (s : Int) (w : World) (hn : n ≤ 1048576) (hG : goodB n f = false) (ha : Arr w 3 g n (iv f)) :
    Calls Try.prog 34 #[.agg #[.slice (some ⟨g, 0, none⟩) n c, .bool own], .int .i64 s] w fun e w' => e = .returned (.tuple #[.slice none 0 0, .bool false]) ∧ Below w.heap.size w w' := by
  have HA := hide ha
  have HG := hide hG
  clear ha hG
  go_enter Try.func34, Try.ntmps34
  go_wp2_with (go_at_call 59; refine (edgesImpl_no _ _ _ f _ _ hn HG.out (HA.out.alloc _)).mono ?_; rintro e w1 ⟨rfl, hb1⟩)
  go_ret2
  exact ⟨rfl, (by go_grown : Below w.heap.size w _).trans (hb1.mono (by simp))⟩
theorem cutImpl_no2 (g n c : Nat) (F : Nat → Nat) (own : Bool) (s : Int) (w : World) (hn : n ≤ 16) (hG : goodB n (nv F) = true) (hq : inB s 0 (2 ^ n - 1) = false) (ha : Arr w 3 g n (iv (nv F))) :
    Calls Try.prog 34 #[.agg #[.slice (some ⟨g, 0, none⟩) n c, .bool own], .int .i64 s] w fun e w' => e = .returned (.tuple #[.slice none 0 0, .bool false]) ∧ Below w.heap.size w w' := by
  have HA := hide ha
  have HG := hide hG
  have HQ := hide hq
  clear ha hG hq
  go_enter Try.func34, Try.ntmps34
  go_wp2_with fail
  refine (edgesImpl_ok _ _ _ F own _ hn HG.out (HA.out.alloc _)).mono ?_
  rintro e w1 ⟨A, m, d, G, rfl, _, _, _, hb1⟩
  have hp := (Arr.box w 28 (.slice (some ⟨g, 0, none⟩) n c) (.bool own)).all hb1
  have c0 : w1.cell? ⟨w.heap.size, 0, none⟩ = some (.slice (some ⟨g, 0, none⟩) n c) := hp.cell (by omega)
  have c1 : w1.cell? ⟨w.heap.size, 1, none⟩ = some (.bool own) := hp.cell (by omega)
  have HB1 := hide ((by go_grown : Below w.heap.size w _).trans (hb1.mono (by simp)))
  clear hb1 hp
  go_wp2_with fail
  refine (isSet_any _ _ _ _ _ _ hn).mono ?_
  rintro e w2 ⟨rfl, hb2⟩
  rw [HQ.out]
  have HB2 := hide (HB1.out.trans (hb2.mono HB1.out.size))
  clear hb2
  go_wp2
  go_ret2
  exact ⟨rfl, HB2.out⟩
end Go.Proofs.Ytcpbbpgiicakcaa
