import Derived.Test.YtcpbbpgiicakcaaDoorXF
namespace Go.Proofs.YtcpbbpgiicakcaaDoor
open Go.RowKit
set_option maxHeartbeats 2000000
theorem paDeg_any (g n c : Nat) (F : Nat → Nat) (own : Bool) (s i : Nat) (w : World) (hi : i < n) (hF : F i < 65536) (hs : s < 65536) (ha : Arr w 3 g n (iv (nv F))) :
    Calls Tryd.prog 34 #[.agg #[.slice (some ⟨g, 0, none⟩) n c, .bool own], .int .i64 s, .int .i64 i] w fun e w' => e = .returned (.int .i64 (popN 16 (F i &&& s) : Nat)) ∧ Below w.heap.size w w' := by
  have hc := (ha.alloc (.cells #[.slice (some ⟨g, 0, none⟩) n c, .bool own] 28)).cell hi
  simp only [iv, nv] at hc
  have hgl := ha.lt
  have h16 := and_lt16 (t := s) hF
  have e1 := i64_and_nat (F i) s (Nat.lt_trans hF (by decide)) (Nat.lt_trans hs (by decide))
  obtain ⟨x, hx⟩ : ∃ x, F i = x := ⟨_, rfl⟩
  rw [hx] at hc h16 e1 ⊢
  obtain ⟨y, hy⟩ : ∃ y, x &&& s = y := ⟨_, rfl⟩
  rw [hy] at h16 e1 ⊢
  clear hx hy ha hF
  go_enter Tryd.func34, Tryd.ntmps34
  go_wp2_with (go_at_call 49; refine (grCount_any _ _ h16).mono ?_; rintro e w3 ⟨rfl, hw3⟩; subst w3)
  go_ret
  exact ⟨rfl, by go_grown⟩
/-- Do they all leave the rest? -/
def leaveB (L : List Nat) (r : Nat) : Bool := L.all (fun d => decide (d % 2 = r))
theorem leaveB_snoc (L : List Nat) (d r : Nat) : leaveB (L ++ [d]) r = (leaveB L r && decide (d % 2 = r)) := by simp [leaveB, List.all_append]
theorem leave_mono (F : Nat → Nat) (q r a : Nat) : ∀ b, a ≤ b → leaveB (degL F q a) r = false → leaveB (degL F q b) r = false
  | 0, h, hb => by have : a = 0 := by omega
                   subst this; exact hb
  | b + 1, h, hb => by
    by_cases e : a = b + 1
    · subst e; exact hb
    · have ih := leave_mono F q r a b (by omega) hb
      rw [degL_succ]
      split
      · rw [leaveB_snoc, ih]; rfl
      · exact ih
theorem set_in {q n : Nat} (h : q < 2 ^ n) : inB q 0 (2 ^ n - 1) = true := by
  have := Nat.two_pow_pos n
  simp only [inB, decide_eq_true_eq]
  rw [← pow_nat]; omega
theorem setB_yes {n : Nat} {F : Nat → Nat} {q : Nat} (hG : goodB n (nv F) = true) (hq : q < 2 ^ n) : setB n (nv F) q = true := by simp [setB, hG, set_in hq]
theorem grIn_nat (q x : Nat) (w : World) (hx : x < 64) : Calls Tryd.prog 33 #[.int .i64 q, .int .i64 x] w fun e w' => e = .returned (.bool (q.testBit x)) ∧ w' = w :=
  (grInG_any (q : Int) (x : Int) (by omega) (by omega) (by omega) w).mono fun e w' ⟨h1, h2⟩ => ⟨by rw [h1, Int.toNat_natCast, bt_nat], h2⟩
/-! ### spec.DegreesWithin -/
theorem degSpec_no (g n c : Nat) (f : Nat → Int) (own : Bool) (s : Int) (w : World) (hn : n ≤ 1048576) (hno : setB n f s = false) (ha : Arr w 3 g n (iv f)) :
    Calls Tryd.prog 16 #[.agg #[.slice (some ⟨g, 0, none⟩) n c, .bool own], .int .i64 s] w fun e w' => e = .returned (.tuple #[.slice none 0 0, .bool false]) ∧ Below w.heap.size w w' := by
  have HA := hide ha
  have HN := hide hno
  clear ha hno
  go_enter Tryd.func16, Tryd.ntmps16
  go_wp2_with (go_at_call 29; refine (grSet_any _ _ _ f _ _ _ hn (HA.out.alloc _)).mono ?_; rintro e w1 ⟨rfl, hb1⟩; rw [HN.out])
  go_ret2
  exact ⟨rfl, (by go_grown : Below w.heap.size w _).trans (hb1.mono (by simp))⟩
theorem degSpec_ok (g n c : Nat) (F : Nat → Nat) (own : Bool) (q : Nat) (w : World) (hn : n ≤ 16) (hF : ∀ j, j < n → F j < 65536) (hG : goodB n (nv F) = true) (hq : q < 2 ^ n) (ha : Arr w 3 g n (iv (nv F))) :
    Calls Tryd.prog 16 #[.agg #[.slice (some ⟨g, 0, none⟩) n c, .bool own], .int .i64 q] w (ListRead w (degL F q n)) := by
  have HA := hide ha
  have HS := hide (setB_yes hG hq)
  have HF := hide hF
  have hq16 : q < 65536 := by have := pow_nat n; have := pow16 hn; omega
  have HZero : Hid (degL F q 0 = []) := hide rfl
  clear ha hG hF hq
  go_enter Tryd.func16, Tryd.ntmps16
  go_wp2_with fail
  refine (grSet_any _ _ _ (nv F) _ _ _ (by omega) (HA.out.alloc _)).mono ?_
  rintro e w1 ⟨rfl, hb1⟩
  rw [HS.out]
  have hp := (Arr.box w 28 (.slice (some ⟨g, 0, none⟩) n c) (.bool own)).all hb1
  have c0 : w1.cell? ⟨w.heap.size, 0, none⟩ = some (.slice (some ⟨g, 0, none⟩) n c) := hp.cell (by omega)
  have c1 : w1.cell? ⟨w.heap.size, 1, none⟩ = some (.bool own) := hp.cell (by omega)
  have HX1 := hide hp
  have HA1 := hide ((HA.out.alloc _).all hb1)
  have HB1 := hide ((by go_grown : Below w.heap.size w _).trans (hb1.mono (by simp)))
  clear hb1 hp
  go_wp2
  go_loopw [6, 15] (fun ov i wr => ∃ (k m : Nat) (A : Option Addr) (d : Nat), k ≤ n ∧ i = .int .i64 k ∧ ov = .slice A m d ∧ Hid ((degL F q k).length = m) ∧ OL wr w1.heap.size (.slice A m d) (degL F q k) ∧ Below w1.heap.size w1 wr) (fun _ i _ => n - (intOf i).toNat)
  case atStart => exact ⟨0, 0, none, 0, by omega, rfl, rfl, hide (by rw [HZero.out]; rfl), by rw [HZero.out]; exact OL.nil _ _, Below.refl _ _⟩
  case round =>
    obtain ⟨k, m, A, d, hk, rfl, rfl, HM, ho, hb⟩ := hrel
    have hm := degL_len F q k
    rw [HM.out] at hm
    have hsz := hb.size
    by_cases hlt : k < n
    · have hk64 : k < 64 := by omega
      have hsu := degL_succ F q k
      have hp3 := HX1.out.all hb
      have f0 : wr.cell? ⟨w.heap.size, 0, none⟩ = some (.slice (some ⟨g, 0, none⟩) n c) := hp3.cell (by omega)
      have f1 : wr.cell? ⟨w.heap.size, 1, none⟩ = some (.bool own) := hp3.cell (by omega)
      have HAr := hide (HA1.out.all hb)
      have HB := hide hb
      have HO := hide ho
      have hFk := HF.out k hlt
      clear ho hb hp3
      cases hbit : q.testBit k
      · have HN1 : Hid (degL F q (k + 1) = degL F q k) := hide (by rw [hsu, hbit]; rfl)
        clear hsu
        go_wp2_with (go_at_call 33; refine (grIn_nat q k _ hk64).mono ?_; rintro e w3 ⟨rfl, hw3⟩; subst w3; simp only [hbit])
        go_roundw
        case rel => exact ⟨k + 1, m, A, d, by omega, by go_num, rfl, hide (by rw [HN1.out]; exact HM.out), by rw [HN1.out]; exact HO.out, HB.out⟩
        case measure => simp [intOf] <;> omega
      · obtain ⟨p, hp⟩ : ∃ p, popN 16 (F k &&& q) = p := ⟨_, rfl⟩
        have HP := hide hp
        have HN1 : Hid (degL F q (k + 1) = degL F q k ++ [p]) := hide (by rw [hsu, hbit, hp]; rfl)
        clear hsu hp
        go_wp2_with (first | (go_at_call 33; refine (grIn_nat q k _ hk64).mono ?_; rintro e w3 ⟨rfl, hw3⟩; subst w3; simp only [hbit]) | (go_at_call 34; refine (paDeg_any _ _ _ F own q k _ hlt hFk hq16 HAr.out).mono ?_; rintro e w4 ⟨rfl, hb4⟩; simp only [HP.out]; have HB4 := hide (HB.out.trans (hb4.mono HB.out.size)); have HO4 := hide (HO.out.all hb4); have hz4 := hb4.size; clear hb4) | (at_builtin; refine wpList_append_nat _ rfl _ _ rfl w1.heap.size A d m (degL F q k) p w4.heap.size rfl (HO4.out.alloc _) HM.out rfl (by simp [go_sem]) (by omega) (by simp; omega) ?_; intro A6 c6 w6 ho6 hb6; have HO6 := hide ho6; have HB6 := hide ((HB4.out.alloc (by omega) _).trans hb6); clear ho6 hb6))
        go_roundw
        case rel => exact ⟨k + 1, m + 1, A6, c6, by omega, by go_num, rfl, hide (by rw [HN1.out, List.length_append, HM.out]; rfl), by rw [HN1.out]; exact HO6.out, HB6.out⟩
        case measure => simp [intOf] <;> omega
    · have hkn : k = n := by omega
      subst hkn
      have HO := hide ho
      have HB := hide hb
      clear ho hb
      go_wp2
      go_ret2
      exact ⟨A, m, d, rfl, HM.out, HO.out.src HM.out, HB1.out.trans (HB.out.mono HB1.out.size)⟩
/-! ### all leave 0 -/
theorem evAll_any (g n c : Nat) (F : Nat → Nat) (own : Bool) (q : Nat) (w : World) (hn : n ≤ 16) (hF : ∀ k, k < n → F k < 65536) (hq16 : q < 65536) (ha : Arr w 3 g n (iv (nv F))) :
    Calls Tryd.prog 30 #[.agg #[.slice (some ⟨g, 0, none⟩) n c, .bool own], .int .i64 q, .int .i64 0] w fun e w' => e = .returned (.bool (leaveB (degL F q n) 0)) ∧ Below w.heap.size w w' := by
  have HF := hide hF
  have HA := hide (ha.alloc (.cells #[.slice (some ⟨g, 0, none⟩) n c, .bool own] 28))
  have hgl := ha.lt
  clear hF ha
  go_enter Tryd.func30, Tryd.ntmps30
  go_wp2
  go_loopw [11] (fun i wr => ∃ k : Nat, k ≤ n ∧ i = .int .i64 k ∧ Hid (leaveB (degL F q k) 0 = true) ∧ Below (w.heap.size + 1) (w.alloc (.cells #[.slice (some ⟨g, 0, none⟩) n c, .bool own] 28)) wr) (fun i _ => n - (intOf i).toNat)
  case atStart => exact ⟨0, by omega, rfl, hide rfl, Below.refl _ _⟩
  case round =>
    obtain ⟨k, hk, rfl, HE, hb⟩ := hrel
    by_cases hlt : k < n
    · have hp := (Arr.box w 28 (.slice (some ⟨g, 0, none⟩) n c) (.bool own)).below hb (by omega)
      have c0 : wr.cell? ⟨w.heap.size, 0, none⟩ = some (.slice (some ⟨g, 0, none⟩) n c) := hp.cell (by omega)
      have c1 : wr.cell? ⟨w.heap.size, 1, none⟩ = some (.bool own) := hp.cell (by omega)
      have hlr : w.heap.size < wr.heap.size := hp.lt
      have HAg := hide (HA.out.all (hb.mono (by simp)))
      have HB := hide hb
      have hk64 : k < 64 := by omega
      have hsu := degL_succ F q k
      clear hb hp
      cases hbit : q.testBit k
      · have HE2 : Hid (leaveB (degL F q (k + 1)) 0 = true) := hide (by rw [hsu, hbit]; exact HE.out)
        clear hsu
        go_wp2_with (go_at_call 33; refine (grIn_nat q k _ hk64).mono ?_; rintro e w3 ⟨rfl, hw3⟩; subst w3; simp only [hbit])
        go_roundw
        case rel => exact ⟨k + 1, by omega, by go_num, HE2, HB.out⟩
        case measure => simp [intOf]; omega
      · obtain ⟨p, hp⟩ : ∃ p, popN 16 (F k &&& q) = p := ⟨_, rfl⟩
        have HPp := hide hp
        have hFk := HF.out k hlt
        rw [hbit, hp] at hsu
        by_cases hpar : p % 2 = 0
        · have HE2 : Hid (leaveB (degL F q (k + 1)) 0 = true) := hide (by rw [hsu]; simp only [if_true]; rw [leaveB_snoc, HE.out, decide_eq_true hpar]; rfl)
          have em : (p : Int) % 2 = 0 := by omega
          clear hp hsu
          go_wp2_with (first | (go_at_call 33; refine (grIn_nat q k _ hk64).mono ?_; rintro e w3 ⟨rfl, hw3⟩; subst w3; simp only [hbit]) | (go_at_call 34; refine (paDeg_any _ _ _ F own q k _ hlt hFk hq16 HAg.out).mono ?_; rintro e w4 ⟨rfl, hb4⟩; simp only [HPp.out]; have HB4 := hide (HB.out.trans (hb4.mono (by omega))); clear hb4))
          go_roundw
          case rel => exact ⟨k + 1, by omega, by go_num, HE2, HB4.out⟩
          case measure => simp [intOf]; omega
        · have HNo : Hid (leaveB (degL F q n) 0 = false) := hide (leave_mono F q 0 (k + 1) n (by omega) (by rw [hsu]; simp only [if_true]; rw [leaveB_snoc, decide_eq_false hpar]; simp))
          have em : (p : Int) % 2 = 1 := by omega
          clear hp hsu
          go_wp2_with (first | (go_at_call 33; refine (grIn_nat q k _ hk64).mono ?_; rintro e w3 ⟨rfl, hw3⟩; subst w3; simp only [hbit]) | (go_at_call 34; refine (paDeg_any _ _ _ F own q k _ hlt hFk hq16 HAg.out).mono ?_; rintro e w4 ⟨rfl, hb4⟩; simp only [HPp.out]; have HB4 := hide (HB.out.trans (hb4.mono (by omega))); clear hb4))
          go_ret
          exact ⟨by rw [HNo.out]; rfl, (by go_grown : Below w.heap.size w _).trans (HB4.out.mono (by simp))⟩
    · have hkn : k = n := by omega
      subst hkn
      have HB := hide hb
      clear hb
      go_wp2
      go_ret
      exact ⟨by rw [HE.out]; rfl, (by go_grown : Below w.heap.size w _).trans (HB.out.mono (by simp))⟩
theorem evSpec_no (g n c : Nat) (f : Nat → Int) (own : Bool) (s : Int) (w : World) (hn : n ≤ 1048576) (hno : setB n f s = false) (ha : Arr w 3 g n (iv f)) :
    Calls Tryd.prog 10 #[.agg #[.slice (some ⟨g, 0, none⟩) n c, .bool own], .int .i64 s] w fun e w' => e = .returned (.tuple #[.bool false, .bool false]) ∧ Below w.heap.size w w' := by
  have HA := hide ha
  have HN := hide hno
  clear ha hno
  go_enter Tryd.func10, Tryd.ntmps10
  go_wp2_with (go_at_call 29; refine (grSet_any _ _ _ f _ _ _ hn (HA.out.alloc _)).mono ?_; rintro e w1 ⟨rfl, hb1⟩; rw [HN.out])
  go_ret2
  exact ⟨rfl, (by go_grown : Below w.heap.size w _).trans (hb1.mono (by simp))⟩
theorem evSpec_ok (g n c : Nat) (F : Nat → Nat) (own : Bool) (q : Nat) (w : World) (hn : n ≤ 16) (hF : ∀ j, j < n → F j < 65536) (hG : goodB n (nv F) = true) (hq : q < 2 ^ n) (ha : Arr w 3 g n (iv (nv F))) :
    Calls Tryd.prog 10 #[.agg #[.slice (some ⟨g, 0, none⟩) n c, .bool own], .int .i64 q] w fun e w' => e = .returned (.tuple #[.bool (leaveB (degL F q n) 0), .bool true]) ∧ Below w.heap.size w w' := by
  have HA := hide ha
  have HS := hide (setB_yes hG hq)
  have HF := hide hF
  have hq16 : q < 65536 := by have := pow_nat n; have := pow16 hn; omega
  clear ha hG hF hq
  go_enter Tryd.func10, Tryd.ntmps10
  go_wp2_with fail
  refine (grSet_any _ _ _ (nv F) _ _ _ (by omega) (HA.out.alloc _)).mono ?_
  rintro e w1 ⟨rfl, hb1⟩
  rw [HS.out]
  have hp := (Arr.box w 28 (.slice (some ⟨g, 0, none⟩) n c) (.bool own)).all hb1
  have c0 : w1.cell? ⟨w.heap.size, 0, none⟩ = some (.slice (some ⟨g, 0, none⟩) n c) := hp.cell (by omega)
  have c1 : w1.cell? ⟨w.heap.size, 1, none⟩ = some (.bool own) := hp.cell (by omega)
  have HX1 := hide hp
  have HA1 := hide ((HA.out.alloc _).all hb1)
  have HB1 := hide ((by go_grown : Below w.heap.size w _).trans (hb1.mono (by simp)))
  clear hb1 hp
  go_wp2_with fail
  refine (evAll_any _ _ _ F own q _ hn HF.out hq16 HA1.out).mono ?_
  rintro e w2 ⟨rfl, hb2⟩
  have HB2 := hide (HB1.out.trans (hb2.mono HB1.out.size))
  clear hb2
  go_wp2
  go_ret2
  exact ⟨rfl, HB2.out⟩
theorem evLeave_no (g n c : Nat) (f : Nat → Int) (own : Bool) (s : Int) (w : World) (hn : n ≤ 1048576) (hno : setB n f s = false) (ha : Arr w 3 g n (iv f)) :
    Calls Tryd.prog 32 #[.agg #[.slice (some ⟨g, 0, none⟩) n c, .bool own], .int .i64 s, .int .i64 0] w fun e w' => e = .returned (.tuple #[.bool false, .bool false]) ∧ Below w.heap.size w w' := by
  have HA := hide ha
  have HN := hide hno
  clear ha hno
  go_enter Tryd.func32, Tryd.ntmps32
  go_wp2_with fail
  refine (degImpl_no _ _ _ f own s _ hn HN.out (HA.out.alloc _)).mono ?_
  rintro e w1 ⟨rfl, hb1⟩
  have HB1 := hide ((by go_grown : Below w.heap.size w _).trans (hb1.mono (by simp)))
  clear hb1
  go_wp2
  go_loopw [20] (fun i wr => i = .int .i64 0 ∧ wr = w1) (fun _ _ => 0)
  case atStart => exact ⟨rfl, rfl⟩
  case round =>
    obtain ⟨rfl, hw⟩ := hrel
    subst wr
    go_wp2
    go_ret2
    exact ⟨rfl, HB1.out⟩
theorem evLeave_ok (g n c : Nat) (F : Nat → Nat) (own : Bool) (q : Nat) (w : World) (hn : n ≤ 16) (hF : ∀ j, j < n → F j < 65536) (hG : goodB n (nv F) = true) (hq : q < 2 ^ n) (ha : Arr w 3 g n (iv (nv F))) (hT : Tab w) :
    Calls Tryd.prog 32 #[.agg #[.slice (some ⟨g, 0, none⟩) n c, .bool own], .int .i64 q, .int .i64 0] w fun e w' => e = .returned (.tuple #[.bool (leaveB (degL F q n) 0), .bool true]) ∧ Below w.heap.size w w' := by
  have HA := hide ha
  have HG := hide hG
  have HF := hide hF
  have HT := hide (hT.below ((Below.refl _ _).alloc (Nat.le_refl _) (.cells #[.slice (some ⟨g, 0, none⟩) n c, .bool own] 28)))
  have hlen := degL_len F q n
  obtain ⟨L, hL⟩ : ∃ L, degL F q n = L := ⟨_, rfl⟩
  rw [hL] at hlen
  have HL := hide hL
  rw [hL]
  clear ha hG hF hT hL
  go_enter Tryd.func32, Tryd.ntmps32
  go_wp2_with fail
  refine (degImpl_ok _ _ _ F own q _ hn HF.out HG.out hq (HA.out.alloc _) HT.out).mono ?_
  rintro e w1 ⟨A, m, d, rfl, hm, ho, hb1⟩
  rw [HL.out] at hm ho
  have HB1 := hide ((by go_grown : Below w.heap.size w _).trans (hb1.mono (by simp)))
  have HM := hide hm
  have HS := hide (ho.src hm)
  have hm16 : m ≤ 16 := by omega
  clear hb1 ho hm
  go_wp2
  go_loopw [20] (fun i wr => ∃ k : Nat, k ≤ m ∧ i = .int .i64 k ∧ Hid (leaveB (L.take k) 0 = true) ∧ wr = w1) (fun i _ => m - (intOf i).toNat)
  case atStart => exact ⟨0, by omega, rfl, hide rfl, rfl⟩
  case round =>
    obtain ⟨k, hk, rfl, HE, hw⟩ := hrel
    subst wr
    by_cases hlt : k < m
    · have hkL : k < L.length := by rw [HM.out]; exact hlt
      obtain ⟨b, off, rfl, hbl, hc⟩ := HS.out k hlt
      rw [lv_get hkL] at hc
      obtain ⟨p, hp⟩ : ∃ p, L[k] = p := ⟨_, rfl⟩
      rw [hp] at hc
      have htk : leaveB (L.take (k + 1)) 0 = decide (p % 2 = 0) := by rw [List.take_succ_eq_append_getElem hkL, leaveB_snoc, HE.out, hp]; rfl
      by_cases hpar : p % 2 = 0
      · have em : (p : Int) % 2 = 0 := by omega
        have HE2 : Hid (leaveB (L.take (k + 1)) 0 = true) := hide (by rw [htk, decide_eq_true hpar])
        clear htk hp hkL
        go_wp2
        go_roundw
        case rel => exact ⟨k + 1, by omega, by go_num, HE2, trivial⟩
        case measure => simp [intOf]; omega
      · have em : (p : Int) % 2 = 1 := by omega
        have HNo : Hid (leaveB L 0 = false) := hide (by
          unfold leaveB
          rw [List.all_eq_false]
          exact ⟨p, by rw [← hp]; exact List.getElem_mem hkL, by simp [hpar]⟩)
        clear htk hp hkL
        go_wp2
        go_ret2
        exact ⟨by rw [HNo.out]; rfl, HB1.out⟩
    · have hkm : k = m := by omega
      subst hkm
      have HYes : Hid (leaveB L 0 = true) := hide (by have := HE.out; rwa [List.take_of_length_le (by rw [HM.out]; omega)] at this)
      go_wp2
      go_ret2
      exact ⟨by rw [HYes.out]; rfl, HB1.out⟩
theorem evImpl_no (g n c : Nat) (f : Nat → Int) (own : Bool) (s : Int) (w : World) (hn : n ≤ 1048576) (hno : setB n f s = false) (ha : Arr w 3 g n (iv f)) :
    Calls Tryd.prog 12 #[.agg #[.slice (some ⟨g, 0, none⟩) n c, .bool own], .int .i64 s] w fun e w' => e = .returned (.tuple #[.bool false, .bool false]) ∧ Below w.heap.size w w' := by
  have HA := hide ha
  have HN := hide hno
  clear ha hno
  go_enter Tryd.func12, Tryd.ntmps12
  go_wp2_with fail
  refine (evLeave_no _ _ _ f own s _ hn HN.out (HA.out.alloc _)).mono ?_
  rintro e w1 ⟨rfl, hb1⟩
  have HB1 := hide ((by go_grown : Below w.heap.size w _).trans (hb1.mono (by simp)))
  clear hb1
  go_wp2
  go_ret2
  exact ⟨rfl, HB1.out⟩
theorem evImpl_ok (g n c : Nat) (F : Nat → Nat) (own : Bool) (q : Nat) (w : World) (hn : n ≤ 16) (hF : ∀ j, j < n → F j < 65536) (hG : goodB n (nv F) = true) (hq : q < 2 ^ n) (ha : Arr w 3 g n (iv (nv F))) (hT : Tab w) :
    Calls Tryd.prog 12 #[.agg #[.slice (some ⟨g, 0, none⟩) n c, .bool own], .int .i64 q] w fun e w' => e = .returned (.tuple #[.bool (leaveB (degL F q n) 0), .bool true]) ∧ Below w.heap.size w w' := by
  have HA := hide ha
  have HG := hide hG
  have HF := hide hF
  have HT := hide (hT.below ((Below.refl _ _).alloc (Nat.le_refl _) (.cells #[.slice (some ⟨g, 0, none⟩) n c, .bool own] 28)))
  clear ha hG hF hT
  go_enter Tryd.func12, Tryd.ntmps12
  go_wp2_with fail
  refine (evLeave_ok _ _ _ F own q _ hn HF.out HG.out hq (HA.out.alloc _) HT.out).mono ?_
  rintro e w1 ⟨rfl, hb1⟩
  have HB1 := hide ((by go_grown : Below w.heap.size w _).trans (hb1.mono (by simp)))
  clear hb1
  go_wp2
  go_ret2
  exact ⟨rfl, HB1.out⟩
/-! ### all leave 1 -/
theorem odAll_any (g n c : Nat) (F : Nat → Nat) (own : Bool) (q : Nat) (w : World) (hn : n ≤ 16) (hF : ∀ k, k < n → F k < 65536) (hq16 : q < 65536) (ha : Arr w 3 g n (iv (nv F))) :
    Calls Tryd.prog 30 #[.agg #[.slice (some ⟨g, 0, none⟩) n c, .bool own], .int .i64 q, .int .i64 1] w fun e w' => e = .returned (.bool (leaveB (degL F q n) 1)) ∧ Below w.heap.size w w' := by
  have HF := hide hF
  have HA := hide (ha.alloc (.cells #[.slice (some ⟨g, 0, none⟩) n c, .bool own] 28))
  have hgl := ha.lt
  clear hF ha
  go_enter Tryd.func30, Tryd.ntmps30
  go_wp2
  go_loopw [11] (fun i wr => ∃ k : Nat, k ≤ n ∧ i = .int .i64 k ∧ Hid (leaveB (degL F q k) 1 = true) ∧ Below (w.heap.size + 1) (w.alloc (.cells #[.slice (some ⟨g, 0, none⟩) n c, .bool own] 28)) wr) (fun i _ => n - (intOf i).toNat)
  case atStart => exact ⟨0, by omega, rfl, hide rfl, Below.refl _ _⟩
  case round =>
    obtain ⟨k, hk, rfl, HE, hb⟩ := hrel
    by_cases hlt : k < n
    · have hp := (Arr.box w 28 (.slice (some ⟨g, 0, none⟩) n c) (.bool own)).below hb (by omega)
      have c0 : wr.cell? ⟨w.heap.size, 0, none⟩ = some (.slice (some ⟨g, 0, none⟩) n c) := hp.cell (by omega)
      have c1 : wr.cell? ⟨w.heap.size, 1, none⟩ = some (.bool own) := hp.cell (by omega)
      have hlr : w.heap.size < wr.heap.size := hp.lt
      have HAg := hide (HA.out.all (hb.mono (by simp)))
      have HB := hide hb
      have hk64 : k < 64 := by omega
      have hsu := degL_succ F q k
      clear hb hp
      cases hbit : q.testBit k
      · have HE2 : Hid (leaveB (degL F q (k + 1)) 1 = true) := hide (by rw [hsu, hbit]; exact HE.out)
        clear hsu
        go_wp2_with (go_at_call 33; refine (grIn_nat q k _ hk64).mono ?_; rintro e w3 ⟨rfl, hw3⟩; subst w3; simp only [hbit])
        go_roundw
        case rel => exact ⟨k + 1, by omega, by go_num, HE2, HB.out⟩
        case measure => simp [intOf]; omega
      · obtain ⟨p, hp⟩ : ∃ p, popN 16 (F k &&& q) = p := ⟨_, rfl⟩
        have HPp := hide hp
        have hFk := HF.out k hlt
        rw [hbit, hp] at hsu
        by_cases hpar : p % 2 = 1
        · have HE2 : Hid (leaveB (degL F q (k + 1)) 1 = true) := hide (by rw [hsu]; simp only [if_true]; rw [leaveB_snoc, HE.out, decide_eq_true hpar]; rfl)
          have em : (p : Int) % 2 = 1 := by omega
          clear hp hsu
          go_wp2_with (first | (go_at_call 33; refine (grIn_nat q k _ hk64).mono ?_; rintro e w3 ⟨rfl, hw3⟩; subst w3; simp only [hbit]) | (go_at_call 34; refine (paDeg_any _ _ _ F own q k _ hlt hFk hq16 HAg.out).mono ?_; rintro e w4 ⟨rfl, hb4⟩; simp only [HPp.out]; have HB4 := hide (HB.out.trans (hb4.mono (by omega))); clear hb4))
          go_roundw
          case rel => exact ⟨k + 1, by omega, by go_num, HE2, HB4.out⟩
          case measure => simp [intOf]; omega
        · have HNo : Hid (leaveB (degL F q n) 1 = false) := hide (leave_mono F q 1 (k + 1) n (by omega) (by rw [hsu]; simp only [if_true]; rw [leaveB_snoc, decide_eq_false hpar]; simp))
          have em : (p : Int) % 2 = 0 := by omega
          clear hp hsu
          go_wp2_with (first | (go_at_call 33; refine (grIn_nat q k _ hk64).mono ?_; rintro e w3 ⟨rfl, hw3⟩; subst w3; simp only [hbit]) | (go_at_call 34; refine (paDeg_any _ _ _ F own q k _ hlt hFk hq16 HAg.out).mono ?_; rintro e w4 ⟨rfl, hb4⟩; simp only [HPp.out]; have HB4 := hide (HB.out.trans (hb4.mono (by omega))); clear hb4))
          go_ret
          exact ⟨by rw [HNo.out]; rfl, (by go_grown : Below w.heap.size w _).trans (HB4.out.mono (by simp))⟩
    · have hkn : k = n := by omega
      subst hkn
      have HB := hide hb
      clear hb
      go_wp2
      go_ret
      exact ⟨by rw [HE.out]; rfl, (by go_grown : Below w.heap.size w _).trans (HB.out.mono (by simp))⟩
theorem odSpec_no (g n c : Nat) (f : Nat → Int) (own : Bool) (s : Int) (w : World) (hn : n ≤ 1048576) (hno : setB n f s = false) (ha : Arr w 3 g n (iv f)) :
    Calls Tryd.prog 14 #[.agg #[.slice (some ⟨g, 0, none⟩) n c, .bool own], .int .i64 s] w fun e w' => e = .returned (.tuple #[.bool false, .bool false]) ∧ Below w.heap.size w w' := by
  have HA := hide ha
  have HN := hide hno
  clear ha hno
  go_enter Tryd.func14, Tryd.ntmps14
  go_wp2_with (go_at_call 29; refine (grSet_any _ _ _ f _ _ _ hn (HA.out.alloc _)).mono ?_; rintro e w1 ⟨rfl, hb1⟩; rw [HN.out])
  go_ret2
  exact ⟨rfl, (by go_grown : Below w.heap.size w _).trans (hb1.mono (by simp))⟩
theorem odSpec_ok (g n c : Nat) (F : Nat → Nat) (own : Bool) (q : Nat) (w : World) (hn : n ≤ 16) (hF : ∀ j, j < n → F j < 65536) (hG : goodB n (nv F) = true) (hq : q < 2 ^ n) (ha : Arr w 3 g n (iv (nv F))) :
    Calls Tryd.prog 14 #[.agg #[.slice (some ⟨g, 0, none⟩) n c, .bool own], .int .i64 q] w fun e w' => e = .returned (.tuple #[.bool (leaveB (degL F q n) 1), .bool true]) ∧ Below w.heap.size w w' := by
  have HA := hide ha
  have HS := hide (setB_yes hG hq)
  have HF := hide hF
  have hq16 : q < 65536 := by have := pow_nat n; have := pow16 hn; omega
  clear ha hG hF hq
  go_enter Tryd.func14, Tryd.ntmps14
  go_wp2_with fail
  refine (grSet_any _ _ _ (nv F) _ _ _ (by omega) (HA.out.alloc _)).mono ?_
  rintro e w1 ⟨rfl, hb1⟩
  rw [HS.out]
  have hp := (Arr.box w 28 (.slice (some ⟨g, 0, none⟩) n c) (.bool own)).all hb1
  have c0 : w1.cell? ⟨w.heap.size, 0, none⟩ = some (.slice (some ⟨g, 0, none⟩) n c) := hp.cell (by omega)
  have c1 : w1.cell? ⟨w.heap.size, 1, none⟩ = some (.bool own) := hp.cell (by omega)
  have HX1 := hide hp
  have HA1 := hide ((HA.out.alloc _).all hb1)
  have HB1 := hide ((by go_grown : Below w.heap.size w _).trans (hb1.mono (by simp)))
  clear hb1 hp
  go_wp2_with fail
  refine (odAll_any _ _ _ F own q _ hn HF.out hq16 HA1.out).mono ?_
  rintro e w2 ⟨rfl, hb2⟩
  have HB2 := hide (HB1.out.trans (hb2.mono HB1.out.size))
  clear hb2
  go_wp2
  go_ret2
  exact ⟨rfl, HB2.out⟩
theorem odLeave_no (g n c : Nat) (f : Nat → Int) (own : Bool) (s : Int) (w : World) (hn : n ≤ 1048576) (hno : setB n f s = false) (ha : Arr w 3 g n (iv f)) :
    Calls Tryd.prog 32 #[.agg #[.slice (some ⟨g, 0, none⟩) n c, .bool own], .int .i64 s, .int .i64 1] w fun e w' => e = .returned (.tuple #[.bool false, .bool false]) ∧ Below w.heap.size w w' := by
  have HA := hide ha
  have HN := hide hno
  clear ha hno
  go_enter Tryd.func32, Tryd.ntmps32
  go_wp2_with fail
  refine (degImpl_no _ _ _ f own s _ hn HN.out (HA.out.alloc _)).mono ?_
  rintro e w1 ⟨rfl, hb1⟩
  have HB1 := hide ((by go_grown : Below w.heap.size w _).trans (hb1.mono (by simp)))
  clear hb1
  go_wp2
  go_loopw [20] (fun i wr => i = .int .i64 0 ∧ wr = w1) (fun _ _ => 0)
  case atStart => exact ⟨rfl, rfl⟩
  case round =>
    obtain ⟨rfl, hw⟩ := hrel
    subst wr
    go_wp2
    go_ret2
    exact ⟨rfl, HB1.out⟩
theorem odLeave_ok (g n c : Nat) (F : Nat → Nat) (own : Bool) (q : Nat) (w : World) (hn : n ≤ 16) (hF : ∀ j, j < n → F j < 65536) (hG : goodB n (nv F) = true) (hq : q < 2 ^ n) (ha : Arr w 3 g n (iv (nv F))) (hT : Tab w) :
    Calls Tryd.prog 32 #[.agg #[.slice (some ⟨g, 0, none⟩) n c, .bool own], .int .i64 q, .int .i64 1] w fun e w' => e = .returned (.tuple #[.bool (leaveB (degL F q n) 1), .bool true]) ∧ Below w.heap.size w w' := by
  have HA := hide ha
  have HG := hide hG
  have HF := hide hF
  have HT := hide (hT.below ((Below.refl _ _).alloc (Nat.le_refl _) (.cells #[.slice (some ⟨g, 0, none⟩) n c, .bool own] 28)))
  have hlen := degL_len F q n
  obtain ⟨L, hL⟩ : ∃ L, degL F q n = L := ⟨_, rfl⟩
  rw [hL] at hlen
  have HL := hide hL
  rw [hL]
  clear ha hG hF hT hL
  go_enter Tryd.func32, Tryd.ntmps32
  go_wp2_with fail
  refine (degImpl_ok _ _ _ F own q _ hn HF.out HG.out hq (HA.out.alloc _) HT.out).mono ?_
  rintro e w1 ⟨A, m, d, rfl, hm, ho, hb1⟩
  rw [HL.out] at hm ho
  have HB1 := hide ((by go_grown : Below w.heap.size w _).trans (hb1.mono (by simp)))
  have HM := hide hm
  have HS := hide (ho.src hm)
  have hm16 : m ≤ 16 := by omega
  clear hb1 ho hm
  go_wp2
  go_loopw [20] (fun i wr => ∃ k : Nat, k ≤ m ∧ i = .int .i64 k ∧ Hid (leaveB (L.take k) 1 = true) ∧ wr = w1) (fun i _ => m - (intOf i).toNat)
  case atStart => exact ⟨0, by omega, rfl, hide rfl, rfl⟩
  case round =>
    obtain ⟨k, hk, rfl, HE, hw⟩ := hrel
    subst wr
    by_cases hlt : k < m
    · have hkL : k < L.length := by rw [HM.out]; exact hlt
      obtain ⟨b, off, rfl, hbl, hc⟩ := HS.out k hlt
      rw [lv_get hkL] at hc
      obtain ⟨p, hp⟩ : ∃ p, L[k] = p := ⟨_, rfl⟩
      rw [hp] at hc
      have htk : leaveB (L.take (k + 1)) 1 = decide (p % 2 = 1) := by rw [List.take_succ_eq_append_getElem hkL, leaveB_snoc, HE.out, hp]; rfl
      by_cases hpar : p % 2 = 1
      · have em : (p : Int) % 2 = 1 := by omega
        have HE2 : Hid (leaveB (L.take (k + 1)) 1 = true) := hide (by rw [htk, decide_eq_true hpar])
        clear htk hp hkL
        go_wp2
        go_roundw
        case rel => exact ⟨k + 1, by omega, by go_num, HE2, trivial⟩
        case measure => simp [intOf]; omega
      · have em : (p : Int) % 2 = 0 := by omega
        have HNo : Hid (leaveB L 1 = false) := hide (by
          unfold leaveB
          rw [List.all_eq_false]
          exact ⟨p, by rw [← hp]; exact List.getElem_mem hkL, by simp [hpar]⟩)
        clear htk hp hkL
        go_wp2
        go_ret2
        exact ⟨by rw [HNo.out]; rfl, HB1.out⟩
    · have hkm : k = m := by omega
      subst hkm
      have HYes : Hid (leaveB L 1 = true) := hide (by have := HE.out; rwa [List.take_of_length_le (by rw [HM.out]; omega)] at this)
      go_wp2
      go_ret2
      exact ⟨by rw [HYes.out]; rfl, HB1.out⟩
theorem odImpl_no (g n c : Nat) (f : Nat → Int) (own : Bool) (s : Int) (w : World) (hn : n ≤ 1048576) (hno : setB n f s = false) (ha : Arr w 3 g n (iv f)) :
    Calls Tryd.prog 15 #[.agg #[.slice (some ⟨g, 0, none⟩) n c, .bool own], .int .i64 s] w fun e w' => e = .returned (.tuple #[.bool false, .bool false]) ∧ Below w.heap.size w w' := by
  have HA := hide ha
  have HN := hide hno
  clear ha hno
  go_enter Tryd.func15, Tryd.ntmps15
  go_wp2_with fail
  refine (odLeave_no _ _ _ f own s _ hn HN.out (HA.out.alloc _)).mono ?_
  rintro e w1 ⟨rfl, hb1⟩
  have HB1 := hide ((by go_grown : Below w.heap.size w _).trans (hb1.mono (by simp)))
  clear hb1
  go_wp2
  go_ret2
  exact ⟨rfl, HB1.out⟩
theorem odImpl_ok (g n c : Nat) (F : Nat → Nat) (own : Bool) (q : Nat) (w : World) (hn : n ≤ 16) (hF : ∀ j, j < n → F j < 65536) (hG : goodB n (nv F) = true) (hq : q < 2 ^ n) (ha : Arr w 3 g n (iv (nv F))) (hT : Tab w) :
    Calls Tryd.prog 15 #[.agg #[.slice (some ⟨g, 0, none⟩) n c, .bool own], .int .i64 q] w fun e w' => e = .returned (.tuple #[.bool (leaveB (degL F q n) 1), .bool true]) ∧ Below w.heap.size w w' := by
  have HA := hide ha
  have HG := hide hG
  have HF := hide hF
  have HT := hide (hT.below ((Below.refl _ _).alloc (Nat.le_refl _) (.cells #[.slice (some ⟨g, 0, none⟩) n c, .bool own] 28)))
  clear ha hG hF hT
  go_enter Tryd.func15, Tryd.ntmps15
  go_wp2_with fail
  refine (odLeave_ok _ _ _ F own q _ hn HF.out HG.out hq (HA.out.alloc _) HT.out).mono ?_
  rintro e w1 ⟨rfl, hb1⟩
  have HB1 := hide ((by go_grown : Below w.heap.size w _).trans (hb1.mono (by simp)))
  clear hb1
  go_wp2
  go_ret2
  exact ⟨rfl, HB1.out⟩
end Go.Proofs.YtcpbbpgiicakcaaDoor
