import Derived.Test.YtodbhokokdckkaaSV
namespace Go.Proofs.Ytodbhokokdckkaa
open Go.RowKit
set_option maxHeartbeats 2000000
theorem witSpec_no (g n c : Nat) (f : Nat → Int) (own : Bool) (s : Int) (w : World) (hn : n ≤ 1048576) (hno : setB n f s = false) (ha : Arr w 3 g n (iv f)) :
    Calls Try.prog 54 #[.agg #[.slice (some ⟨g, 0, none⟩) n c, .bool own], .int .i64 s] w (Two w (.int .i64 0) false) := by
  have HA := hide ha
  clear ha
  go_enter Try.func54, Try.ntmps54
  go_wp2_with fail
  refine (grSet_any _ _ _ f _ _ _ hn (HA.out.alloc _)).mono ?_
  rintro e w1 ⟨rfl, hb1⟩
  go_wp2
  go_ret2
  exact ⟨rfl, (by go_grown : Below w.heap.size w _).trans (hb1.mono (by simp))⟩
theorem witSpec_ok (g n c : Nat) (F : Nat → Nat) (own : Bool) (q : Nat) (w : World) (hn : n ≤ 16) (hF : ∀ j, j < n → F j < 2 ^ n) (hq : q < 2 ^ n) (hset : setB n (nv F) q = true) (ha : Arr w 3 g n (iv (nv F))) :
    Calls Try.prog 54 #[.agg #[.slice (some ⟨g, 0, none⟩) n c, .bool own], .int .i64 q] w (Two w (.int .i64 (witV (qS (tog F own) n n).1 q : Nat)) (witB (qS (tog F own) n n).1 q)) := by
  have h16 := pow16n hn
  have hq16 : q < 65536 := by omega
  have HA := hide ha
  have HF := hide hF
  have HT := hide (tog_all (own := own) hF)
  have HQ16 := hide (qS_lt16 (T := tog F own) hn)
  have hQl := qS_fit hn HT.out
  obtain ⟨Q, hQ⟩ : ∃ Q, (qS (tog F own) n n).1 = Q := ⟨_, rfl⟩
  rw [hQ] at HQ16 hQl
  have HQ := hide hQ
  clear ha hF hQ
  go_enter Try.func54, Try.ntmps54
  go_wp2_with fail
  refine (grSet_any _ _ _ (nv F) _ _ _ (by omega) (HA.out.alloc _)).mono ?_
  rintro e w1 ⟨rfl, hb1⟩
  have hp := (Arr.box w 26 (.slice (some ⟨g, 0, none⟩) n c) (.bool own)).all hb1
  have HA1 := hide ((HA.out.alloc _).all hb1)
  have HB1 := hide ((by go_grown : Below w.heap.size w _).trans (hb1.mono (by simp)))
  have c0_1 : w1.cell? ⟨w.heap.size, 0, none⟩ = some (.slice (some ⟨g, 0, none⟩) n c) := hp.cell (by omega)
  have c1_1 : w1.cell? ⟨w.heap.size, 1, none⟩ = some (.bool own) := hp.cell (by omega)
  have HX1 := hide hp
  clear hp hb1
  go_wp2_with fail
  refine (soQuiet_any _ _ _ F _ _ hn HF.out HA1.out).mono ?_
  rintro e w2 ⟨A, d, m, rfl, hm, hs, hb2⟩
  rw [HQ.out] at hm hs
  have HM := hide hm
  have HS := hide hs
  have hm16 : m ≤ 16 := by omega
  have HB2 := hide (HB1.out.trans (hb2.mono HB1.out.size))
  clear hm hs hb2 hQl c0_1 c1_1
  go_wp2
  go_loop [15] (fun i => ∃ k : Nat, k ≤ m ∧ i = .int .i64 k ∧ Hid (∀ j, (hj : j < Q.length) → j < k → oddB Q[j] q = false)) (fun i => m - (intOf i).toNat)
  case atStart => exact ⟨0, by omega, rfl, hide (fun j _ hj => absurd hj (by omega))⟩
  case round =>
    obtain ⟨k, hk, rfl, HK⟩ := hrel
    by_cases hlt : k < m
    · have hkn : k < Q.length := by rw [HM.out]; exact hlt
      obtain ⟨b, off, hA, hbl, hc0⟩ := HS.out k hlt
      subst hA
      obtain ⟨y, hy⟩ : ∃ y, Q[k] = y := ⟨_, rfl⟩
      have hy16 := HQ16.out y (by rw [← hy]; exact List.getElem_mem hkn)
      have hc : w2.cell? ⟨b, off + k, none⟩ = some (.int .i64 (y : Nat)) := by rw [hc0, lv_get hkn, hy]
      have HY := hide hy
      have HKN := hide hkn
      clear hy hc0
      have e1 := i64_and_nat y q (by omega) (by omega)
      have hx := and16 (t := q) hy16
      obtain ⟨p, hp⟩ : ∃ p, popN 16 (y &&& q) = p := ⟨_, rfl⟩
      have hp16 : p ≤ 16 := by rw [← hp]; exact pop_le _ _
      have HP := hide hp
      have HO0 : Hid (oddB y q = decide (p % 2 = 1)) := hide (by rw [oddB, hp])
      clear hp
      by_cases hod : p % 2 = 1
      · have e2 := mod_yes hod
        have HO : Hid (oddB y q = true) := hide (by rw [HO0.out, decide_eq_true hod])
        clear hod
        go_wp2_with (go_at_call 94; refine (grCount_any _ _ hx).mono ?_; rintro e w3 ⟨rfl, rfl⟩; simp only [HP.out])
        have HZ : Hid (Q.find? (fun b => oddB b q) = some y) := hide (by
          rw [← HY.out]
          exact wit_hit HKN.out (fun j hj => HK.out j (by have := HKN.out; omega) hj) (by rw [HY.out]; exact HO.out))
        go_ret2
        exact ⟨by rw [HQ.out, witV, witB, HZ.out]; rfl, HB2.out⟩
      · have e2 := mod_no hod
        have HO : Hid (oddB y q = false) := hide (by rw [HO0.out, decide_eq_false hod])
        clear hod
        go_wp2_with (go_at_call 94; refine (grCount_any _ _ hx).mono ?_; rintro e w3 ⟨rfl, rfl⟩; simp only [HP.out])
        go_round
        case rel => exact ⟨k + 1, by omega, by go_num, hide (fun j hj hjk => by
          by_cases hj2 : j = k
          · subst hj2; rw [HY.out]; exact HO.out
          · exact HK.out j hj (by omega))⟩
        case measure => simp [intOf] <;> omega
    · have HZ : Hid (Q.find? (fun b => oddB b q) = none) := hide (wit_miss fun j hj => HK.out j hj (by rw [HM.out] at hj; omega))
      go_wp2
      go_ret2
      exact ⟨by rw [HQ.out, witV, witB, HZ.out]; rfl, HB2.out⟩
theorem witImpl_no (g n c : Nat) (f : Nat → Int) (own : Bool) (s : Int) (w : World) (hn : n ≤ 1048576) (hno : setB n f s = false) (ha : Arr w 3 g n (iv f)) :
    Calls Try.prog 55 #[.agg #[.slice (some ⟨g, 0, none⟩) n c, .bool own], .int .i64 s] w (Two w (.int .i64 0) false) := by
  have HA := hide ha
  clear ha
  go_enter Try.func55, Try.ntmps55
  go_wp2_with fail
  refine (isBoard_any _ _ _ f _ _ _ hn (HA.out.alloc _)).mono ?_
  rintro e w1 ⟨rfl, hb1⟩
  go_wp2
  go_ret2
  exact ⟨rfl, (by go_grown : Below w.heap.size w _).trans (hb1.mono (by simp))⟩
theorem witImpl_ok (g n c : Nat) (F : Nat → Nat) (own : Bool) (q : Nat) (w : World) (hn : n ≤ 16) (hF : ∀ j, j < n → F j < 2 ^ n) (hq : q < 2 ^ n) (hset : setB n (nv F) q = true) (ha : Arr w 3 g n (iv (nv F))) :
    Calls Try.prog 55 #[.agg #[.slice (some ⟨g, 0, none⟩) n c, .bool own], .int .i64 q] w (Two w (.int .i64 (witV (qS (tog F own) n n).1 q : Nat)) (witB (qS (tog F own) n n).1 q)) := by
  have h16 := pow16n hn
  have hq16 : q < 65536 := by omega
  have HA := hide ha
  have HF := hide hF
  have HT := hide (tog_all (own := own) hF)
  have HQ16 := hide (qS_lt16 (T := tog F own) hn)
  have hQl := qS_fit hn HT.out
  obtain ⟨Q, hQ⟩ : ∃ Q, (qS (tog F own) n n).1 = Q := ⟨_, rfl⟩
  rw [hQ] at HQ16 hQl
  have HQ := hide hQ
  clear ha hF hQ
  go_enter Try.func55, Try.ntmps55
  go_wp2_with fail
  refine (isBoard_any _ _ _ (nv F) _ _ _ (by omega) (HA.out.alloc _)).mono ?_
  rintro e w1 ⟨rfl, hb1⟩
  have hp := (Arr.box w 26 (.slice (some ⟨g, 0, none⟩) n c) (.bool own)).all hb1
  have HA1 := hide ((HA.out.alloc _).all hb1)
  have HB1 := hide ((by go_grown : Below w.heap.size w _).trans (hb1.mono (by simp)))
  have c0_1 : w1.cell? ⟨w.heap.size, 0, none⟩ = some (.slice (some ⟨g, 0, none⟩) n c) := hp.cell (by omega)
  have c1_1 : w1.cell? ⟨w.heap.size, 1, none⟩ = some (.bool own) := hp.cell (by omega)
  have HX1 := hide hp
  clear hp hb1
  go_wp2_with fail
  refine (quietAndImage_any _ _ _ F _ _ hn HF.out HA1.out).mono ?_
  rintro e w2 ⟨A, A2, m, n2, d, c2, rfl, hm, _, ho, _, hb2⟩
  rw [HQ.out] at hm ho
  have HM := hide hm
  have HS := hide ho
  have hm16 : m ≤ 16 := by omega
  have HB2 := hide (HB1.out.trans (hb2.mono HB1.out.size))
  clear hm ho hb2 hQl c0_1 c1_1
  go_wp2
  go_loop [21] (fun i => ∃ k : Nat, k ≤ m ∧ i = .int .i64 k ∧ Hid (∀ j, (hj : j < Q.length) → j < k → oddB Q[j] q = false)) (fun i => m - (intOf i).toNat)
  case atStart => exact ⟨0, by omega, rfl, hide (fun j _ hj => absurd hj (by omega))⟩
  case round =>
    obtain ⟨k, hk, rfl, HK⟩ := hrel
    by_cases hlt : k < m
    · have hkn : k < Q.length := by rw [HM.out]; exact hlt
      obtain ⟨b, off, hA, hbl, hc0⟩ := HS.out.src HM.out k hlt
      subst hA
      obtain ⟨y, hy⟩ : ∃ y, Q[k] = y := ⟨_, rfl⟩
      have hy16 := HQ16.out y (by rw [← hy]; exact List.getElem_mem hkn)
      have hc : w2.cell? ⟨b, off + k, none⟩ = some (.int .i64 (y : Nat)) := by rw [hc0, lv_get hkn, hy]
      have HY := hide hy
      have HKN := hide hkn
      clear hy hc0
      cases ho : oddB y q
      · have HO := hide ho
        clear ho
        go_wp2_with (go_at_call 95; refine (meetOddly_any _ _ _ hy16 hq16).mono ?_; rintro e w3 ⟨rfl, rfl⟩; simp only [HO.out])
        go_round
        case rel => exact ⟨k + 1, by omega, by go_num, hide (fun j hj hjk => by
          by_cases hj2 : j = k
          · subst hj2; rw [HY.out]; exact HO.out
          · exact HK.out j hj (by omega))⟩
        case measure => simp [intOf] <;> omega
      · have HO := hide ho
        clear ho
        go_wp2_with (go_at_call 95; refine (meetOddly_any _ _ _ hy16 hq16).mono ?_; rintro e w3 ⟨rfl, rfl⟩; simp only [HO.out])
        have HZ : Hid (Q.find? (fun b => oddB b q) = some y) := hide (by
          rw [← HY.out]
          exact wit_hit HKN.out (fun j hj => HK.out j (by have := HKN.out; omega) hj) (by rw [HY.out]; exact HO.out))
        go_ret2
        exact ⟨by rw [HQ.out, witV, witB, HZ.out]; rfl, HB2.out⟩
    · have HZ : Hid (Q.find? (fun b => oddB b q) = none) := hide (wit_miss fun j hj => HK.out j hj (by rw [HM.out] at hj; omega))
      go_wp2
      go_ret2
      exact ⟨by rw [HQ.out, witV, witB, HZ.out]; rfl, HB2.out⟩
end Go.Proofs.Ytodbhokokdckkaa
