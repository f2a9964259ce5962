import Derived.Test.YtggcjmdadomlaaaRR
namespace Go.Proofs.Ytggcjmdadomlaaa
open Go.RowKit
set_option maxHeartbeats 2000000
theorem cell_apart {w : World} {p : Addr} {u v : Value} {g o : Nat} (h : g ≠ p.block) (hc : w.cell? ⟨g, o, none⟩ = some v) : (w.setCell p u).cell? ⟨g, o, none⟩ = some v := by
  have e := Below.heap_setCell w p u g h
  simp only [World.cell?] at hc ⊢
  rw [e]; exact hc
theorem swp {P : Program} {f : FuncId} {args : Array Value} {w : World} {v : Ending} (h : Calls P f args w fun e w' => e = v ∧ w' = w) : Calls P f args w fun e w' => e = v ∧ w = w' :=
  h.mono fun _ _ h => ⟨h.1, h.2.symm⟩
theorem ltSpec_a (r c : Int) (own : Bool) (w : World) (H : Hid (sidesB r c 1 = false)) :
    Calls Try.prog 30 #[.int .i64 r, .int .i64 c, .bool own] w (NoRes w) := by
  go_enter Try.func30, Try.ntmps30
  go_wp2_with (first | (go_at_call 63; refine (swp (csGrid_any _ _ _)).mono ?_; rintro e w' ⟨rfl, rfl⟩; rw [H.out]))
  go_ret2
  exact ⟨rfl, Below.refl _ _⟩
theorem ltSpec_b (R C : Nat) (own : Bool) (w : World) (H : Hid (sidesB R C 1 = true)) (h5 : 5 < C) :
    Calls Try.prog 30 #[.int .i64 R, .int .i64 C, .bool own] w (NoRes w) := by
  go_enter Try.func30, Try.ntmps30
  go_wp2_with (first | (go_at_call 63; refine (swp (csGrid_any _ _ _)).mono ?_; rintro e w' ⟨rfl, rfl⟩; rw [H.out]))
  go_ret2
  exact ⟨rfl, Below.refl _ _⟩
theorem ltImpl_a (r c : Int) (own : Bool) (w : World) (H : Hid (sidesB r c 1 = false)) :
    Calls Try.prog 31 #[.int .i64 r, .int .i64 c, .bool own] w (NoRes w) := by
  go_enter Try.func31, Try.ntmps31
  go_wp2_with (first | (go_at_call 64; refine (swp (isGrid_any _ _ _)).mono ?_; rintro e w' ⟨rfl, rfl⟩; rw [H.out]))
  go_ret2
  exact ⟨rfl, Below.refl _ _⟩
theorem ltImpl_b (R C : Nat) (own : Bool) (w : World) (H : Hid (sidesB R C 1 = true)) (h5 : 5 < C) :
    Calls Try.prog 31 #[.int .i64 R, .int .i64 C, .bool own] w (NoRes w) := by
  go_enter Try.func31, Try.ntmps31
  go_wp2_with (first | (go_at_call 64; refine (swp (isGrid_any _ _ _)).mono ?_; rintro e w' ⟨rfl, rfl⟩; rw [H.out]))
  go_ret2
  exact ⟨rfl, Below.refl _ _⟩
theorem ltSpec_c (R C : Nat) (own : Bool) (w : World) (hs : Sides R C) (H : Hid (sidesB R C 1 = true)) (h5 : C ≤ 5) :
    Calls Try.prog 30 #[.int .i64 R, .int .i64 C, .bool own] w (ArrRes w (2 ^ C) (fun v => tb C own R (2 ^ C) v)) := by
  obtain ⟨P, hP⟩ : ∃ P : Nat, 2 ^ C = P := ⟨_, rfl⟩
  have hW : RowKit.wrap64 (2 ^ C) = (P : Int) := by rw [wrap_one hs.2.2.2.1, hP]
  have hP2 : P ≤ 65536 := by rw [← hP]; exact pow16n hs.2.2.2.1
  have hP1 : 1 ≤ P := by rw [← hP]; exact Nat.two_pow_pos C
  have h16 := hs.2.1
  have hR1 := hs.1
  have HPP := Lib.hid hP
  rw [hP]
  clear hP
  have hRC := hs.2.2.2.2
  obtain ⟨q, hq⟩ : ∃ q : Nat, C * (R - 1) = q := ⟨_, rfl⟩
  have hq16 : q ≤ 16 := by rw [← hq]; have : C * (R - 1) ≤ C * R := Nat.mul_le_mul_left C (by omega); rw [Nat.mul_comm R C] at hRC; omega
  have hmul : (C : Int) * ((R : Int) - 1) = (q : Int) := by rw [← hq, show (R : Int) - 1 = ((R - 1 : Nat) : Int) by omega]; exact (Int.natCast_mul C (R - 1)).symm
  have HQ := Lib.hid hq
  clear hq hRC
  go_enter Try.func30, Try.ntmps30
  go_wp2_with (first | (go_at_call 63; refine (swp (csGrid_any _ _ _)).mono ?_; rintro e w' ⟨rfl, rfl⟩; rw [H.out]))
  go_loopw [8, 9] (fun v i wr => ∃ (k : Nat) (A : Option Addr) (d : Nat), k ≤ P ∧ i = .int .i64 k ∧ v = .slice A k d ∧ OZ wr w.heap.size (.slice A k d) ((List.range k).map (fun x : Nat => tb C own R P x)) ∧ Below w.heap.size w wr) (fun _ i _ => P - (intOf i).toNat)
  case atStart => exact ⟨0, none, 0, by omega, rfl, rfl, OZ.nil _ _, Below.refl _ _⟩
  case round =>
    obtain ⟨k, A, d, hk, rfl, rfl, ho, hb⟩ := hrel
    have hsz := hb.size
    have HO := Lib.hid ho
    have HB := Lib.hid hb
    clear ho hb
    by_cases hlt : k < P
    · have hF : k < 2 ^ C := by rw [HPP.out]; exact hlt
      have hq2 : k * 2 ^ q < 9223372036854775808 := by
        have h1 := pow16n hq16
        have h2 : k * 2 ^ q ≤ 65536 * 65536 := Nat.mul_le_mul (by omega) h1
        omega
      have hsh : RowKit.wrap64 ((k : Int) * 2 ^ q) = ((k * 2 ^ q : Nat) : Int) := by
        have e : ((k : Nat) : Int) * 2 ^ q = ((k * 2 ^ q : Nat) : Int) := by rw [Int.natCast_mul, pow_nat]
        rw [e, IntWalk.wrap64_in _ (by omega)]
      have HT := Lib.hid (tb_fls (own := own) (n := P) hR1 hF)
      have HS := Lib.hid (show (List.range (k + 1)).map (fun x : Nat => tb C own R P x) = (List.range k).map (fun x : Nat => tb C own R P x) ++ [tb C own R P k] by rw [List.range_succ, List.map_append]; rfl)
      have HL := Lib.hid (show ((List.range k).map (fun x : Nat => tb C own R P x)).length = k by simp)
      rw [HQ.out] at HT
      clear hF
      generalize hLv : k * 2 ^ q = Lv at hq2 hsh HT
      clear hLv
      by_cases h0 : (fls C own Lv R P).length = 0
      · have hv : tb C own R P k = -1 := by rw [HT.out, if_pos h0]
        have HV := Lib.hid hv
        have H0 := Lib.hid h0
        clear h0 hv
        go_wp2_with (first | (go_at_call 67; refine (csFirst_any R C Lv own _ hs hq2).mono ?_; rintro e w3 ⟨A3, d3, m3, rfl, hm3, ho3, hb3⟩; rw [HPP.out, H0.out] at hm3; subst hm3; have HO3 := Lib.hid (HO.out.all hb3); have hsz3 := hb3.size; have HB3 := Lib.hid (HB.out.trans (hb3.mono hsz)); clear hb3 ho3) | (at_builtin; refine wpList_append_int _ rfl _ _ rfl w.heap.size A d k ((List.range k).map (fun x : Nat => tb C own R P x)) (-1) w3.heap.size rfl (HO3.out.alloc _) HL.out rfl (by simp [go_sem]) (by omega) (by simp; omega) ?_; intro A2 c2 w5 ho2 hb2; have HO2 := Lib.hid ho2; have HB2 := Lib.hid hb2; clear ho2 hb2))
        go_roundw
        case rel => exact ⟨k + 1, A2, c2, by omega, by go_num, rfl, by rw [HS.out, HV.out]; exact HO2.out, (HB3.out.alloc (by omega) _).trans HB2.out⟩
        case measure => simp [intOf]; omega
      · obtain ⟨f0, hf0⟩ : ∃ f0, (fls C own Lv R P).getD 0 0 = f0 := ⟨_, rfl⟩
        have hv : tb C own R P k = (f0 : Int) := by rw [HT.out, if_neg h0, hf0]
        have HV := Lib.hid hv
        have H0 := Lib.hid (show 0 < (fls C own Lv R P).length ∧ (fls C own Lv R P).getD 0 0 = f0 from ⟨by omega, hf0⟩)
        clear h0 hv hf0
        go_wp2_with (first | (go_at_call 67; refine (csFirst_any R C Lv own _ hs hq2).mono ?_; rintro e w3 ⟨A3, d3, m3, rfl, hm3, ho3, hb3⟩; rw [HPP.out] at hm3 ho3; have hm0 : 0 < m3 := (by rw [← hm3]; exact H0.out.1); obtain ⟨b, hA, hBb, hbl, hmd, hdm, hcell⟩ := ho3.read hm3 (k := 0) hm0; subst hA; rw [lv, H0.out.2] at hcell; have hmi : (0 : Int) < (m3 : Int) := (by omega); have HO3 := Lib.hid (HO.out.all hb3); have hsz3 := hb3.size; have HB3 := Lib.hid (HB.out.trans (hb3.mono hsz)); clear hb3 ho3 hm3 hdm) | (at_builtin; refine wpList_append_int _ rfl _ _ rfl w.heap.size A d k ((List.range k).map (fun x : Nat => tb C own R P x)) (f0 : Int) w3.heap.size rfl (HO3.out.alloc _) HL.out rfl (by simp [go_sem]) (by omega) (by simp; omega) ?_; intro A2 c2 w5 ho2 hb2; have HO2 := Lib.hid ho2; have HB2 := Lib.hid hb2; clear ho2 hb2))
        go_roundw
        case rel => exact ⟨k + 1, A2, c2, by omega, by go_num, rfl, by rw [HS.out, HV.out]; exact HO2.out, (HB3.out.alloc (by omega) _).trans HB2.out⟩
        case measure => simp [intOf]; omega
    · have hkn : k = P := by omega
      subst hkn
      obtain ⟨g, rfl, hg, ha⟩ := HO.out.arr hP1
      have HA := Lib.hid ha
      clear ha
      go_wp2
      go_ret2
      exact ⟨g, d, rfl, hg, HA.out, HB.out⟩
theorem ltImpl_c (R C : Nat) (own : Bool) (w : World) (hs : Sides R C) (H : Hid (sidesB R C 1 = true)) (h5 : C ≤ 5) :
    Calls Try.prog 31 #[.int .i64 R, .int .i64 C, .bool own] w (ArrRes w (2 ^ C) (fun v => tb C own R (2 ^ C) v)) := by
  obtain ⟨P, hP⟩ : ∃ P : Nat, 2 ^ C = P := ⟨_, rfl⟩
  have hW : RowKit.wrap64 (2 ^ C) = (P : Int) := by rw [wrap_one hs.2.2.2.1, hP]
  have hP2 : P ≤ 65536 := by rw [← hP]; exact pow16n hs.2.2.2.1
  have hP1 : 1 ≤ P := by rw [← hP]; exact Nat.two_pow_pos C
  have h16 := hs.2.1
  have hR1 := hs.1
  have HPP := Lib.hid hP
  rw [hP]
  clear hP
  go_enter Try.func31, Try.ntmps31
  go_wp2_with (first | (go_at_call 64; refine (swp (isGrid_any _ _ _)).mono ?_; rintro e w' ⟨rfl, rfl⟩; rw [H.out]) | fail)
  refine (repeat_any _ P _ _ hP1 (by omega) (by simp) (by simp [go_sem])).mono ?_
  rintro e w2 ⟨g, rfl, lo, ha, hb⟩
  have hg := ha.lt
  have c1 : w2.cell? ⟨w.heap.size, 0, none⟩ = some (.int .i64 R) := (hb.cell (p := ⟨w.heap.size, 0, none⟩) (by simp; omega)).trans (by simp [go_sem])
  have c2 : w2.cell? ⟨w.heap.size, 1, none⟩ = some (.int .i64 C) := (hb.cell (p := ⟨w.heap.size, 1, none⟩) (by simp; omega)).trans (by simp [go_sem])
  have c3 : w2.cell? ⟨w.heap.size, 2, none⟩ = some (.bool own) := (hb.cell (p := ⟨w.heap.size, 2, none⟩) (by simp; omega)).trans (by simp [go_sem])
  have c4 : w2.cell? ⟨w.heap.size, 3, none⟩ = some (.int .i64 0) := (hb.cell (p := ⟨w.heap.size, 3, none⟩) (by simp; omega)).trans (by simp [go_sem])
  have hlo : w.heap.size + 2 ≤ g := by simp at lo; omega
  have hsz2 := hb.size
  have HB := Lib.hid ((by go_grown : Below w.heap.size w _).trans (hb.mono (by simp; omega)))
  have KK : Hid (Box4 w2 w.heap.size (.int .i64 R) (.int .i64 C) (.bool own) (.int .i64 0)) := Lib.hid ⟨c1, c2, c3, c4⟩
  have HA := Lib.hid ha
  clear c1 c2 c3 c4 ha hb lo
  go_wp2
  simp only [hW]
  clear hW
  go_loopw [30] (fun i wr => ∃ k : Nat, k ≤ P ∧ i = .int .i64 k ∧ Arr wr 3 g P (iv (fun v => tb C own R k v)) ∧ Box4 wr w.heap.size (.int .i64 R) (.int .i64 C) (.bool own) (.int .i64 0) ∧ Below w.heap.size w wr) (fun i _ => P - (intOf i).toNat)
  case atStart => exact ⟨0, by omega, rfl, HA.out.congr (fun v _ => rfl), KK.out, HB.out⟩
  case round =>
    clear HA KK HB
    obtain ⟨k, hk, rfl, ha, kk, hb⟩ := hrel
    obtain ⟨c1, c2, c3, c4⟩ := kk
    have KK : Hid (Box4 wr w.heap.size (.int .i64 R) (.int .i64 C) (.bool own) (.int .i64 0)) := Lib.hid ⟨c1, c2, c3, c4⟩
    have hsz := hb.size
    have HA := Lib.hid ha
    have HB := Lib.hid hb
    clear ha hb
    by_cases hlt : k < P
    · have hF : k < 2 ^ C := by rw [HPP.out]; exact hlt
      obtain ⟨v, hv⟩ : ∃ v, prw C own 0 k R = v := ⟨_, rfl⟩
      have hvP : v < P := by rw [← hv, ← HPP.out]; exact prw_lt hF R
      have hvi : (v : Int) < (P : Int) := by omega
      have HF := Lib.hid hF
      have HV := Lib.hid hv
      clear hF hv
      by_cases ht : tb C own R k v = -1
      · have HT := Lib.hid ht
        have HE : Hid (∀ j, j < P → (if j = v then Value.int .i64 (k : Nat) else iv (fun v => tb C own R k v) j) = iv (fun v => tb C own R (k + 1) v) j) := Lib.hid (fun j _ => by
          by_cases hj : j = v
          · subst hj; rw [if_pos rfl]; show _ = Value.int .i64 (tb C own R (k + 1) j); rw [tb_hit HV.out, if_pos ht]
          · rw [if_neg hj]; show Value.int .i64 (tb C own R k j) = Value.int .i64 (tb C own R (k + 1) j); rw [tb_other (fun e => hj (e.symm.trans HV.out))])
        clear ht
        go_wp2_with (first | (go_at_call 62; refine (left_zero R C k own _ (by omega) (by omega) HF.out).mono ?_; rintro e w3 ⟨rfl, hb3⟩; rw [HV.out]; have ha3 := HA.out.all hb3; have hgl := ha3.lt; have hcv : w3.cell? ⟨g, v, none⟩ = some (.int .i64 (-1)) := (by rw [ha3.cell hvP]; show some (Value.int .i64 (tb C own R k v)) = _; rw [HT.out]); have hfv := ha3.frozen v; have HA3 := Lib.hid ha3; have KK3 := Lib.hid (KK.out.below hb3); have HB3 := Lib.hid (HB.out.trans (hb3.mono hsz)); clear ha3 hb3))
        go_roundw
        case rel => exact ⟨k + 1, by omega, by go_num, (HA3.out.set v _).congr HE.out, (by obtain ⟨x1, x2, x3, x4⟩ := KK3.out; exact ⟨(cell_apart (by simp; omega) x1), (cell_apart (by simp; omega) x2), (cell_apart (by simp; omega) x3), (cell_apart (by simp; omega) x4)⟩), HB3.out.setCell (by simp; omega) _⟩
        case measure => simp [intOf]; omega
      · obtain ⟨x, hx⟩ : ∃ x, tb C own R k v = x := ⟨_, rfl⟩
        have HT := Lib.hid hx
        have hx1 : (x == -1) = false := by simpa [← hx] using ht
        have HE : Hid (∀ j, j < P → iv (fun v => tb C own R k v) j = iv (fun v => tb C own R (k + 1) v) j) := Lib.hid (fun j _ => by
          by_cases hj : j = v
          · subst hj; show Value.int .i64 (tb C own R k j) = Value.int .i64 (tb C own R (k + 1) j); rw [tb_hit HV.out, if_neg ht]
          · show Value.int .i64 (tb C own R k j) = Value.int .i64 (tb C own R (k + 1) j); rw [tb_other (fun e => hj (e.symm.trans HV.out))])
        clear ht hx
        go_wp2_with (first | (go_at_call 62; refine (left_zero R C k own _ (by omega) (by omega) HF.out).mono ?_; rintro e w3 ⟨rfl, hb3⟩; rw [HV.out]; have ha3 := HA.out.all hb3; have hgl := ha3.lt; have hcv : w3.cell? ⟨g, v, none⟩ = some (.int .i64 x) := (by rw [ha3.cell hvP]; show some (Value.int .i64 (tb C own R k v)) = _; rw [HT.out]); have HA3 := Lib.hid ha3; have KK3 := Lib.hid (KK.out.below hb3); have HB3 := Lib.hid (HB.out.trans (hb3.mono hsz)); clear ha3 hb3))
        go_roundw
        case rel => exact ⟨k + 1, by omega, by go_num, HA3.out.congr HE.out, KK3.out, HB3.out⟩
        case measure => simp [intOf]; omega
    · have hkn : k = P := by omega
      subst hkn
      go_wp2
      go_ret2
      exact ⟨g, k, rfl, by omega, HA.out, HB.out⟩
theorem lawLastRow (r c : Int) (own : Bool) (w : World) :
    Calls Try.prog 8 #[.int .i64 r, .int .i64 c, .bool own] w fun e w' => e = .returned (.bool true) ∧ Below w.heap.size w w' := by
  cases hs : sidesB r c 1
  · exact gLast_no r c own w (Lib.hid fun w => ltSpec_a r c own w (Lib.hid hs)) (Lib.hid fun w => ltImpl_a r c own w (Lib.hid hs))
  · obtain ⟨R, C, rfl, rfl, hS⟩ := sides_nat hs
    by_cases h5 : 5 < C
    · exact gLast_no R C own w (Lib.hid fun w => ltSpec_b R C own w (Lib.hid hs) h5) (Lib.hid fun w => ltImpl_b R C own w (Lib.hid hs) h5)
    · have h16 := pow16n hS.2.2.2.1
      exact gLast_arr R C own _ _ (by omega) w (Lib.hid fun w => ltSpec_c R C own w hS (Lib.hid hs) (by omega)) (Lib.hid fun w => ltImpl_c R C own w hS (Lib.hid hs) (by omega))
end Go.Proofs.Ytggcjmdadomlaaa
