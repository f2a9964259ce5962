import Derived.Test.YtodbhokokdckkaaTA
namespace Go.Proofs.Ytodbhokokdckkaa
open Go.RowKit
set_option maxHeartbeats 2000000
def Three (w : World) (a b : Int) (ok : Bool) (e : Ending) (w' : World) : Prop := e = .returned (.tuple #[.int .i64 a, .int .i64 b, .bool ok]) ∧ Below w.heap.size w w'
/-- One more set of lights: does it need more presses? -/
noncomputable def fstep (T : Nat → Nat) (n : Nat) (st : Nat × Nat) (q : Nat) : Nat × Nat := if solB T n q = true ∧ st.2 < pop (leastV T n q) then (q, pop (leastV T n q)) else st
noncomputable def farTo (T : Nat → Nat) (n : Nat) (L : List Nat) : Nat × Nat := L.foldl (fstep T n) (0, 0)
theorem farTo_snoc (T : Nat → Nat) (n : Nat) (L : List Nat) (q : Nat) : farTo T n (L ++ [q]) = fstep T n (farTo T n L) q := by simp [farTo]
theorem pop_zero' : pop 0 = 0 := by rw [pop_eq, pop_zero]
theorem least_zero (T : Nat → Nat) (n : Nat) : leastV T n 0 = 0 := by
  unfold leastV
  split
  · rename_i h
    have hx : solV T n 0 = 0 := by
      unfold solV; split
      · rw [Nat.zero_shiftLeft, lin_zero]
      · rfl
    obtain ⟨R, hR⟩ := sums_head (qS T n n).1
    have hL : solL T n 0 = 0 :: R := by rw [solL, if_pos h, hR, hx]; simp
    rw [hL]
    unfold minTo
    simp only [List.getD_cons_zero]
    generalize List.drop 1 (List.take (0 :: R).length (0 :: R)) = M
    induction M with
    | nil => rfl
    | cons a M ih =>
      rw [List.foldl_cons]
      have : minBy pop 0 a = 0 := by rw [minBy, if_neg (by rw [pop_zero']; omega)]
      rw [this]; exact ih
  · rfl
theorem far_one (T : Nat → Nat) (n : Nat) : farTo T n (List.range 1) = (0, 0) := by
  have : List.range 1 = [0] := rfl
  rw [this]
  simp only [farTo, List.foldl_cons, List.foldl_nil, fstep, least_zero, pop_zero']
  simp
theorem far_same {T : Nat → Nat} {n : Nat} (hT : ∀ i, i < n → T i < 2 ^ n) : farTo T n (sums (iS T n)) = farTo T n (List.range (2 ^ n)) := by
  rw [sums_filter (iS_bas T n) (iS_lt hT n (Nat.le_refl n))]
  unfold farTo
  rw [List.foldl_filter]
  congr 1
  funext st q
  cases h : decide (lin (iS T n) q = 0)
  · have hs : solB T n q = false := by rw [solB_iff, h]
    simp [fstep, hs]
  · rfl
theorem leastV_lt {T : Nat → Nat} {n q : Nat} (hn : n ≤ 16) : leastV T n q < 65536 := by
  unfold leastV
  split
  · rename_i h
    refine minTo_lt (solL_lt hn) ?_ _
    rw [solL_length, h]
    simp only [if_true]
    exact Nat.two_pow_pos _
  · decide
theorem farTo_le {T : Nat → Nat} {n b : Nat} (L : List Nat) (hL : ∀ q ∈ L, q < b) (hb : 0 < b) : (farTo T n L).1 < b ∧ (farTo T n L).2 ≤ 16 := by
  induction L using snoc_ind with
  | h0 => exact ⟨hb, by simp [farTo]⟩
  | h1 L q ih =>
    obtain ⟨h1, h2⟩ := ih (fun x hx => hL x (by simp [hx]))
    rw [farTo_snoc]
    unfold fstep; split
    · exact ⟨hL q (by simp), pop16 _⟩
    · exact ⟨h1, h2⟩
theorem setB_of {n : Nat} {F : Nat → Nat} (hgd : goodB n (nv F) = true) {q : Nat} (hq : q < 2 ^ n) : setB n (nv F) q = true := by
  simp only [setB, hgd, Bool.true_and, inB, decide_eq_true_eq]
  rw [← pow_nat]
  omega
theorem pow10 {n : Nat} (h : n ≤ 10) : (2 : Nat) ^ n ≤ 1024 := Nat.pow_le_pow_right (n := 2) (j := 10) (by decide) h
theorem iS_lt16 {T : Nat → Nat} {n : Nat} (hn : n ≤ 16) (hT : ∀ i, i < n → T i < 2 ^ n) : ∀ b ∈ iS T n, b < 65536 := fun b hb => Nat.lt_of_lt_of_le (iS_lt hT n (Nat.le_refl n) b hb) (pow16n hn)
theorem farImpl_ok (g n c : Nat) (F : Nat → Nat) (own : Bool) (w : World) (hn : n ≤ 10) (hF : ∀ j, j < n → F j < 2 ^ n) (hgd : goodB n (nv F) = true) (ha : Arr w 3 g n (iv (nv F))) :
    Calls Try.prog 65 #[.agg #[.slice (some ⟨g, 0, none⟩) n c, .bool own]] w (Three w ((farTo (tog F own) n (sums (iS (tog F own) n))).1 : Nat) ((farTo (tog F own) n (sums (iS (tog F own) n))).2 : Nat) true) := by
  have hn16 : n ≤ 16 := by omega
  have HA := hide ha
  have HF := hide hF
  have HT := hide (tog_all (own := own) hF)
  have HG := hide hgd
  have HI16 := hide (iS_lt16 hn16 HT.out)
  have hIl := (iS_fit hn16 HT.out (Nat.le_refl n)).2
  have HSol : Hid (∀ q ∈ sums (iS (tog F own) n), solB (tog F own) n q = true) := hide (fun q hq => by rw [solB_iff]; exact decide_eq_true (sums_lin (iS_bas _ n) q hq))
  have HSlt : Hid (∀ q ∈ sums (iS (tog F own) n), q < 2 ^ n) := hide (sums_lt (iS_lt HT.out n (Nat.le_refl n)))
  have hlS := sums_length (iS (tog F own) n)
  have hl16 := two_pow_le16 hIl
  obtain ⟨I, hI⟩ : ∃ I, iS (tog F own) n = I := ⟨_, rfl⟩
  rw [hI] at HI16 hIl HSol HSlt hlS hl16
  have HI := hide hI
  obtain ⟨S, hS⟩ : ∃ S, sums I = S := ⟨_, rfl⟩
  rw [hS] at HSol HSlt hlS
  have HSs := hide hS
  have hl17 : S.length ≤ 65536 := by omega
  have HLS := hide hl17
  have hp1024 := pow10 hn
  have HFle := hide (fun k => farTo_le (T := tog F own) (n := n) (b := 2 ^ n) (S.take k) (fun q hq => HSlt.out q (List.mem_of_mem_take hq)) (Nat.two_pow_pos n))
  clear ha hF hgd hI hS hlS hl16 hl17
  go_enter Try.func65, Try.ntmps65
  go_wp2_with fail
  refine (isGraph_any _ _ _ (nv F) _ _ (by omega) (HA.out.alloc _)).mono ?_
  rintro e w1 ⟨rfl, hb1⟩
  simp only [HG.out]
  have hp := (Arr.box w 26 (.slice (some ⟨g, 0, none⟩) n c) (.bool own)).all hb1
  have HA1 := hide ((HA.out.alloc _).all hb1)
  have HB1 := hide ((by go_grown : Below w.heap.size w _).trans (hb1.mono (by simp)))
  have c0_1 : w1.cell? ⟨w.heap.size, 0, none⟩ = some (.slice (some ⟨g, 0, none⟩) n c) := hp.cell (by omega)
  have c1_1 : w1.cell? ⟨w.heap.size, 1, none⟩ = some (.bool own) := hp.cell (by omega)
  have HX1 := hide hp
  clear hp hb1
  go_wp2_with fail
  refine (quietAndImage_any _ _ _ F _ _ hn16 HF.out HA1.out).mono ?_
  rintro e w2 ⟨A, A2, m, n2, d, d2, rfl, _, hm, _, ho, hb2⟩
  rw [HI.out] at hm ho
  have HM := hide hm
  have HO := hide ho
  have hm16 : n2 ≤ 16 := by omega
  have hp2 := HX1.out.all hb2
  have HA2 := hide (HA1.out.all hb2)
  have HX2 := hide hp2
  have HB2 := hide (HB1.out.trans (hb2.mono HB1.out.size))
  clear hm ho hb2 hp2 c0_1 c1_1 hIl
  go_wp2_with fail
  refine (sumsOf_any _ _ _ _ _ HI16.out HM.out hm16 (HO.out.src HM.out)).mono ?_
  rintro e w3 ⟨A3, d3, p, rfl, hp, ho3, hb3⟩
  rw [HSs.out] at hp ho3
  have HPl := hide hp
  have hp16 : p ≤ 65536 := by have := HLS.out; omega
  have HS3 := hide (ho3.src hp)
  have HA3 := hide (HA2.out.all hb3)
  have HX3 := hide (HX2.out.all hb3)
  have HB3 := hide (HB2.out.trans (hb3.mono HB2.out.size))
  clear hp ho3 hb3
  go_wp2
  go_loopw [7, 8, 31] (fun fa mo i wr => ∃ k : Nat, k ≤ p ∧ i = .int .i64 k ∧ fa = .int .i64 ((farTo (tog F own) n (S.take k)).1 : Nat) ∧ mo = .int .i64 ((farTo (tog F own) n (S.take k)).2 : Nat) ∧ Below w3.heap.size w3 wr) (fun _ _ i _ => p - (intOf i).toNat)
  case atStart => exact ⟨0, by omega, rfl, rfl, rfl, Below.refl _ _⟩
  case round =>
    obtain ⟨k, hk, rfl, rfl, rfl, hb⟩ := hrel
    have hsz := hb.size
    have hp := HX3.out.all hb
    have c0 : wr.cell? ⟨w.heap.size, 0, none⟩ = some (.slice (some ⟨g, 0, none⟩) n c) := hp.cell (by omega)
    have c1 : wr.cell? ⟨w.heap.size, 1, none⟩ = some (.bool own) := hp.cell (by omega)
    have HAr := hide (HA3.out.all hb)
    have HBr := hide hb
    obtain ⟨hf1, hf2⟩ := HFle.out k
    obtain ⟨st, hst⟩ : ∃ st, farTo (tog F own) n (S.take k) = st := ⟨_, rfl⟩
    rw [hst] at hf1 hf2 ⊢
    obtain ⟨fa, mo⟩ := st
    simp only at hf1 hf2 ⊢
    have HSt := hide hst
    clear hp hb hst
    by_cases hlt : k < p
    · have hkn : k < S.length := by rw [HPl.out]; exact hlt
      obtain ⟨b2, off2, hA2, hbl2, hc2⟩ := HS3.out k hlt
      subst hA2
      obtain ⟨y, hy⟩ : ∃ y, S[k] = y := ⟨_, rfl⟩
      have hyS : y ∈ S := by rw [← hy]; exact List.getElem_mem hkn
      have hyn := HSlt.out y hyS
      have HYs : Hid (solB (tog F own) n y = true) := hide (HSol.out y hyS)
      have HYset := hide (setB_of HG.out hyn)
      have hc : wr.cell? ⟨b2, off2 + k, none⟩ = some (.int .i64 (y : Nat)) := by rw [HBr.out.cell (p := ⟨b2, off2 + k, none⟩) hbl2, hc2, lv_get hkn, hy]
      have HK : Hid (farTo (tog F own) n (S.take (k + 1)) = fstep (tog F own) n (fa, mo) y) := hide (by rw [List.take_succ_eq_append_getElem hkn, farTo_snoc, HSt.out, hy])
      have hv16 := leastV_lt (T := tog F own) (q := y) hn16
      obtain ⟨v, hv⟩ : ∃ v, leastV (tog F own) n y = v := ⟨_, rfl⟩
      rw [hv] at hv16
      have HV := hide hv
      have hpv := pop16 v
      obtain ⟨pv, hpe⟩ : ∃ p, pop v = p := ⟨_, rfl⟩
      rw [hpe] at hpv
      have HPV := hide hpe
      clear hc2 hy hkn hyS hv hpe
      by_cases hmore : mo < pv
      · have HN : Hid (fstep (tog F own) n (fa, mo) y = (y, pv)) := hide (by unfold fstep; rw [HYs.out, HV.out, HPV.out, if_pos ⟨rfl, hmore⟩])
        go_wp2_with (first | (go_at_call 59; refine (leastImpl_ok _ _ _ F _ _ _ hn16 HF.out hyn HYset.out HAr.out).mono ?_; rintro e w4 ⟨rfl, hb4⟩; simp only [HV.out, HYs.out]; have HB4 := hide (HBr.out.trans (hb4.mono hsz)); clear hb4) | (go_at_call 100; refine (sizePop _ _ hv16).mono ?_; rintro e w5 ⟨rfl, rfl⟩; simp only [HPV.out]))
        go_roundw
        case rel => exact ⟨k + 1, by omega, by go_num, by rw [HK.out, HN.out], by rw [HK.out, HN.out], HB4.out⟩
        case measure => simp [intOf]; omega
      · have HN : Hid (fstep (tog F own) n (fa, mo) y = (fa, mo)) := hide (by unfold fstep; rw [HV.out, HPV.out, if_neg (by intro h; exact hmore h.2)])
        go_wp2_with (first | (go_at_call 59; refine (leastImpl_ok _ _ _ F _ _ _ hn16 HF.out hyn HYset.out HAr.out).mono ?_; rintro e w4 ⟨rfl, hb4⟩; simp only [HV.out, HYs.out]; have HB4 := hide (HBr.out.trans (hb4.mono hsz)); clear hb4) | (go_at_call 100; refine (sizePop _ _ hv16).mono ?_; rintro e w5 ⟨rfl, rfl⟩; simp only [HPV.out]))
        go_roundw
        case rel => exact ⟨k + 1, by omega, by go_num, by rw [HK.out, HN.out], by rw [HK.out, HN.out], HB4.out⟩
        case measure => simp [intOf]; omega
    · have hkp : k = p := by omega
      subst hkp
      have HE : Hid (farTo (tog F own) n (sums (iS (tog F own) n)) = (fa, mo)) := hide (by rw [HI.out, HSs.out, ← HSt.out, List.take_of_length_le (by rw [HPl.out]; omega)])
      go_wp2
      go_ret3
      exact ⟨by rw [HE.out]; rfl, HB3.out.trans (HBr.out.mono HB3.out.size)⟩
theorem farSpec_ok (g n c : Nat) (F : Nat → Nat) (own : Bool) (w : World) (hn : n ≤ 10) (hF : ∀ j, j < n → F j < 2 ^ n) (hgd : goodB n (nv F) = true) (ha : Arr w 3 g n (iv (nv F))) :
    Calls Try.prog 64 #[.agg #[.slice (some ⟨g, 0, none⟩) n c, .bool own]] w (Three w ((farTo (tog F own) n (sums (iS (tog F own) n))).1 : Nat) ((farTo (tog F own) n (sums (iS (tog F own) n))).2 : Nat) true) := by
  have hn16 : n ≤ 16 := by omega
  have HA := hide ha
  have HF := hide hF
  have HT := hide (tog_all (own := own) hF)
  have HG := hide hgd
  have hp1024 := pow10 hn
  have hp0 := Nat.two_pow_pos n
  have HSame := hide (far_same HT.out)
  have e0 := wrap_pow16 hn16
  have HFle := hide (fun k (hk : k ≤ 2 ^ n) => farTo_le (T := tog F own) (n := n) (b := 2 ^ n) (List.range k) (fun q hq => by rw [List.mem_range] at hq; omega) (Nat.two_pow_pos n))
  obtain ⟨p, hp⟩ : ∃ p, 2 ^ n = p := ⟨_, rfl⟩
  rw [hp] at hp1024 hp0 HSame e0 HFle
  have HPe := hide hp
  clear ha hF hgd hp
  go_enter Try.func64, Try.ntmps64
  go_wp2_with fail
  refine (grGood_any _ _ _ (nv F) _ _ (by omega) (HA.out.alloc _)).mono ?_
  rintro e w1 ⟨rfl, hb1⟩
  simp only [HG.out]
  have hp := (Arr.box w 26 (.slice (some ⟨g, 0, none⟩) n c) (.bool own)).all hb1
  have HA1 := hide ((HA.out.alloc _).all hb1)
  have HB1 := hide ((by go_grown : Below w.heap.size w _).trans (hb1.mono (by simp)))
  have c0_1 : w1.cell? ⟨w.heap.size, 0, none⟩ = some (.slice (some ⟨g, 0, none⟩) n c) := hp.cell (by omega)
  have c1_1 : w1.cell? ⟨w.heap.size, 1, none⟩ = some (.bool own) := hp.cell (by omega)
  have HX1 := hide hp
  clear hp hb1
  go_wp2
  clear c0_1 c1_1
  go_loopw [5, 6, 7] (fun fa mo i wr => ∃ k : Nat, 1 ≤ k ∧ k ≤ p ∧ i = .int .i64 k ∧ fa = .int .i64 ((farTo (tog F own) n (List.range k)).1 : Nat) ∧ mo = .int .i64 ((farTo (tog F own) n (List.range k)).2 : Nat) ∧ Below w1.heap.size w1 wr) (fun _ _ i _ => p - (intOf i).toNat)
  case atStart => exact ⟨1, by omega, by omega, rfl, by rw [far_one]; rfl, by rw [far_one]; rfl, Below.refl _ _⟩
  case round =>
    obtain ⟨k, hk1, hk, rfl, rfl, rfl, hb⟩ := hrel
    have hsz := hb.size
    have hp := HX1.out.all hb
    have c0 : wr.cell? ⟨w.heap.size, 0, none⟩ = some (.slice (some ⟨g, 0, none⟩) n c) := hp.cell (by omega)
    have c1 : wr.cell? ⟨w.heap.size, 1, none⟩ = some (.bool own) := hp.cell (by omega)
    have HAr := hide (HA1.out.all hb)
    have HBr := hide hb
    obtain ⟨hf1, hf2⟩ := HFle.out k hk
    obtain ⟨st, hst⟩ : ∃ st, farTo (tog F own) n (List.range k) = st := ⟨_, rfl⟩
    rw [hst] at hf1 hf2 ⊢
    obtain ⟨fa, mo⟩ := st
    simp only at hf1 hf2 ⊢
    have HSt := hide hst
    clear hp hb hst
    by_cases hlt : k < p
    · have hkn : k < 2 ^ n := by rw [HPe.out]; exact hlt
      have HKN := hide hkn
      have HK : Hid (farTo (tog F own) n (List.range (k + 1)) = fstep (tog F own) n (fa, mo) k) := hide (by rw [List.range_succ, farTo_snoc, HSt.out])
      have hv16 := leastV_lt (T := tog F own) (q := k) hn16
      obtain ⟨v, hv⟩ : ∃ v, leastV (tog F own) n k = v := ⟨_, rfl⟩
      rw [hv] at hv16
      have HV := hide hv
      have hpv := pop16 v
      obtain ⟨pv, hpe⟩ : ∃ p, pop v = p := ⟨_, rfl⟩
      rw [hpe] at hpv
      have HPV := hide hpe
      clear hv hpe hkn
      cases hsol : solB (tog F own) n k
      · have HSo := hide hsol
        have HN : Hid (fstep (tog F own) n (fa, mo) k = (fa, mo)) := hide (by unfold fstep; rw [HSo.out, if_neg (by simp)])
        clear hsol
        go_wp2_with (first | (go_at_call 97; refine (soLeast_any _ _ _ F _ _ _ hn16 HF.out HKN.out HAr.out).mono ?_; rintro e w4 ⟨rfl, hb4⟩; simp only [HV.out, HSo.out]; have HB4 := hide (HBr.out.trans (hb4.mono hsz)); clear hb4) | (go_at_call 94; refine (grPop _ _ hv16).mono ?_; rintro e w5 ⟨rfl, rfl⟩; simp only [HPV.out]))
        go_roundw
        case rel => exact ⟨k + 1, by omega, by omega, by go_num, by rw [HK.out, HN.out], by rw [HK.out, HN.out], HB4.out⟩
        case measure => simp [intOf]; omega
      · have HSo := hide hsol
        clear hsol
        by_cases hmore : mo < pv
        · have HN : Hid (fstep (tog F own) n (fa, mo) k = (k, pv)) := hide (by unfold fstep; rw [HSo.out, HV.out, HPV.out, if_pos ⟨rfl, hmore⟩])
          go_wp2_with (first | (go_at_call 97; refine (soLeast_any _ _ _ F _ _ _ hn16 HF.out HKN.out HAr.out).mono ?_; rintro e w4 ⟨rfl, hb4⟩; simp only [HV.out, HSo.out]; have HB4 := hide (HBr.out.trans (hb4.mono hsz)); clear hb4) | (go_at_call 94; refine (grPop _ _ hv16).mono ?_; rintro e w5 ⟨rfl, rfl⟩; simp only [HPV.out]))
          go_roundw
          case rel => exact ⟨k + 1, by omega, by omega, by go_num, by rw [HK.out, HN.out], by rw [HK.out, HN.out], HB4.out⟩
          case measure => simp [intOf]; omega
        · have HN : Hid (fstep (tog F own) n (fa, mo) k = (fa, mo)) := hide (by unfold fstep; rw [HV.out, HPV.out, if_neg (by intro h; exact hmore h.2)])
          go_wp2_with (first | (go_at_call 97; refine (soLeast_any _ _ _ F _ _ _ hn16 HF.out HKN.out HAr.out).mono ?_; rintro e w4 ⟨rfl, hb4⟩; simp only [HV.out, HSo.out]; have HB4 := hide (HBr.out.trans (hb4.mono hsz)); clear hb4) | (go_at_call 94; refine (grPop _ _ hv16).mono ?_; rintro e w5 ⟨rfl, rfl⟩; simp only [HPV.out]))
          go_roundw
          case rel => exact ⟨k + 1, by omega, by omega, by go_num, by rw [HK.out, HN.out], by rw [HK.out, HN.out], HB4.out⟩
          case measure => simp [intOf]; omega
    · have hkp : k = p := by omega
      subst hkp
      have HE : Hid (farTo (tog F own) n (sums (iS (tog F own) n)) = (fa, mo)) := hide (by rw [HSame.out, HSt.out])
      go_wp2
      go_ret3
      exact ⟨by rw [HE.out]; rfl, HB1.out.trans (HBr.out.mono HB1.out.size)⟩
theorem farSpec_no (g n c : Nat) (f : Nat → Int) (own : Bool) (w : World) (hn : n ≤ 1048576) (hgd : goodB n f = false) (ha : Arr w 3 g n (iv f)) :
    Calls Try.prog 64 #[.agg #[.slice (some ⟨g, 0, none⟩) n c, .bool own]] w (Three w 0 0 false) := by
  have HA := hide ha
  clear ha
  go_enter Try.func64, Try.ntmps64
  go_wp2_with fail
  refine (grGood_any _ _ _ f _ _ hn (HA.out.alloc _)).mono ?_
  rintro e w1 ⟨rfl, hb1⟩
  go_wp2
  go_ret3
  exact ⟨rfl, (by go_grown : Below w.heap.size w _).trans (hb1.mono (by simp))⟩
theorem farSpec_big (g n c : Nat) (F : Nat → Nat) (own : Bool) (w : World) (hn : n ≤ 16) (h10 : 10 < n) (hgd : goodB n (nv F) = true) (ha : Arr w 3 g n (iv (nv F))) :
    Calls Try.prog 64 #[.agg #[.slice (some ⟨g, 0, none⟩) n c, .bool own]] w (Three w 0 0 false) := by
  have HA := hide ha
  have HG := hide hgd
  clear ha hgd
  go_enter Try.func64, Try.ntmps64
  go_wp2_with fail
  refine (grGood_any _ _ _ (nv F) _ _ (by omega) (HA.out.alloc _)).mono ?_
  rintro e w1 ⟨rfl, hb1⟩
  simp only [HG.out]
  have hp := (Arr.box w 26 (.slice (some ⟨g, 0, none⟩) n c) (.bool own)).all hb1
  have HA1 := hide ((HA.out.alloc _).all hb1)
  have HB1 := hide ((by go_grown : Below w.heap.size w _).trans (hb1.mono (by simp)))
  have c0_1 : w1.cell? ⟨w.heap.size, 0, none⟩ = some (.slice (some ⟨g, 0, none⟩) n c) := hp.cell (by omega)
  have c1_1 : w1.cell? ⟨w.heap.size, 1, none⟩ = some (.bool own) := hp.cell (by omega)
  have HX1 := hide hp
  clear hp hb1
  go_wp2
  go_ret3
  exact ⟨rfl, HB1.out⟩
theorem farImpl_no (g n c : Nat) (f : Nat → Int) (own : Bool) (w : World) (hn : n ≤ 1048576) (hgd : goodB n f = false) (ha : Arr w 3 g n (iv f)) :
    Calls Try.prog 65 #[.agg #[.slice (some ⟨g, 0, none⟩) n c, .bool own]] w (Three w 0 0 false) := by
  have HA := hide ha
  clear ha
  go_enter Try.func65, Try.ntmps65
  go_wp2_with fail
  refine (isGraph_any _ _ _ f _ _ hn (HA.out.alloc _)).mono ?_
  rintro e w1 ⟨rfl, hb1⟩
  go_wp2
  go_ret3
  exact ⟨rfl, (by go_grown : Below w.heap.size w _).trans (hb1.mono (by simp))⟩
theorem farImpl_big (g n c : Nat) (F : Nat → Nat) (own : Bool) (w : World) (hn : n ≤ 16) (h10 : 10 < n) (hgd : goodB n (nv F) = true) (ha : Arr w 3 g n (iv (nv F))) :
    Calls Try.prog 65 #[.agg #[.slice (some ⟨g, 0, none⟩) n c, .bool own]] w (Three w 0 0 false) := by
  have HA := hide ha
  have HG := hide hgd
  clear ha hgd
  go_enter Try.func65, Try.ntmps65
  go_wp2_with fail
  refine (isGraph_any _ _ _ (nv F) _ _ (by omega) (HA.out.alloc _)).mono ?_
  rintro e w1 ⟨rfl, hb1⟩
  simp only [HG.out]
  have hp := (Arr.box w 26 (.slice (some ⟨g, 0, none⟩) n c) (.bool own)).all hb1
  have HA1 := hide ((HA.out.alloc _).all hb1)
  have HB1 := hide ((by go_grown : Below w.heap.size w _).trans (hb1.mono (by simp)))
  have c0_1 : w1.cell? ⟨w.heap.size, 0, none⟩ = some (.slice (some ⟨g, 0, none⟩) n c) := hp.cell (by omega)
  have c1_1 : w1.cell? ⟨w.heap.size, 1, none⟩ = some (.bool own) := hp.cell (by omega)
  have HX1 := hide hp
  clear hp hb1
  go_wp2
  go_ret3
  exact ⟨rfl, HB1.out⟩
end Go.Proofs.Ytodbhokokdckkaa
