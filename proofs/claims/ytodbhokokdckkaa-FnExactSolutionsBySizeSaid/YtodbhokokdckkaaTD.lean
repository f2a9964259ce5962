import Derived.Test.YtodbhokokdckkaaTC
namespace Go.Proofs.Ytodbhokokdckkaa
open Go.RowKit
set_option maxHeartbeats 2000000
theorem getD_lv {L : List Nat} {j v : Nat} (h : L.getD j 0 = v) : lv L j = .int .i64 (v : Nat) := by simp only [lv, h]
theorem sbsImpl_ok (g n c : Nat) (F : Nat → Nat) (own : Bool) (q : Nat) (w : World) (hn : n ≤ 16) (hF : ∀ j, j < n → F j < 2 ^ n) (hq : q < 2 ^ n) (hset : setB n (nv F) q = true) (h8 : ((qS (tog F own) n n).1).length ≤ 8) (ha : Arr w 3 g n (iv (nv F))) :
    Calls Try.prog 67 #[.agg #[.slice (some ⟨g, 0, none⟩) n c, .bool own], .int .i64 q] w (ListOk w (sizesL (tog F own) n q)) := by
  have hmk := run_make_row' (P := Try.prog) 22 3 (.int .i64 0) 8 Try.underlying22 int_info rfl .i64 .i64 (n + 1) (by omega) (by omega)
  have hmk2 : ∀ w, (Instr.makeSlice 22 (.int .i64 ((n : Int) + 1)) (.int .i64 ((n : Int) + 1))).run Try.prog w = .ok (.slice (some ⟨w.heap.size, 0, none⟩) (n + 1) (n + 1)) (w.alloc (.cells (madeCells #[.int .i64 0] (n + 1)) 3)) := fun w => by
    have := hmk w
    rwa [Int.natCast_add] at this
  have h16 := pow16n hn
  have HA := hide ha
  have HF := hide hF
  have HT := hide (tog_all (own := own) hF)
  have HSet := hide hset
  have hgd : goodB n (nv F) = true := by simp only [setB, Bool.and_eq_true] at hset; exact hset.1
  have hin : inB q 0 (2 ^ n - 1) = true := by simp only [setB, Bool.and_eq_true] at hset; exact hset.2
  have HG := hide hgd
  have HIn := hide hin
  have H8 := hide h8
  clear ha hF hset hgd hin h8
  obtain ⟨m, hm⟩ : ∃ m, ((qS (tog F own) n n).1).length = m := ⟨_, rfl⟩
  have hm8 : m ≤ 8 := by have := H8.out; omega
  have HM := hide hm
  have hcnt := solL_length (tog F own) n q
  have hp2 := two_pow_le16 (k := m) (by omega)
  rw [hm] at hcnt
  have hlen : (solL (tog F own) n q).length ≤ 65536 := by rw [hcnt]; split <;> omega
  have HLen := hide hlen
  clear hmk hm hcnt hlen hp2
  go_enter Try.func67, Try.ntmps67
  go_wp2_with fail
  refine (nullImpl_ok _ _ _ F _ _ hn HF.out HG.out (HA.out.alloc _)).mono ?_
  rintro e w1 ⟨rfl, hb1⟩
  simp only [HM.out]
  have hp := (Arr.box w 26 (.slice (some ⟨g, 0, none⟩) n c) (.bool own)).all hb1
  have HA1 := hide ((HA.out.alloc _).all hb1)
  have HB1 := hide ((by go_grown : Below w.heap.size w _).trans (hb1.mono (by simp)))
  have c0_1 : w1.cell? ⟨w.heap.size, 0, none⟩ = some (.slice (some ⟨g, 0, none⟩) n c) := hp.cell (by omega)
  have c1_1 : w1.cell? ⟨w.heap.size, 1, none⟩ = some (.bool own) := hp.cell (by omega)
  have HX1 := hide hp
  clear hp hb1
  go_wp2_with fail
  refine (isSet_any _ _ _ _ _ _ hn).mono ?_
  rintro e w2 ⟨rfl, hb2⟩
  simp only [HIn.out]
  have hp := HX1.out.all hb2
  have HA2 := hide (HA1.out.all hb2)
  have HB2 := hide (HB1.out.trans (hb2.mono HB1.out.size))
  have c0_2 : w2.cell? ⟨w.heap.size, 0, none⟩ = some (.slice (some ⟨g, 0, none⟩) n c) := hp.cell (by omega)
  have c1_2 : w2.cell? ⟨w.heap.size, 1, none⟩ = some (.bool own) := hp.cell (by omega)
  have HX2 := hide hp
  clear hp hb2 c0_1 c1_1
  have hl2 : w.heap.size < w2.heap.size := HX2.out.lt
  go_wp2_with fail
  have hC0 := OL.made w2 (n + 1) (B := w.heap.size) HB2.out.size (by omega)
  have HA3 := hide (HA2.out.alloc (.cells (madeCells #[.int .i64 0] (n + 1)) 3))
  have HBm := hide (HB2.out.alloc HB2.out.size (.cells (madeCells #[.int .i64 0] (n + 1)) 3))
  have HC0 := hide hC0
  obtain ⟨gc, hgc⟩ : ∃ gc, w2.heap.size = gc := ⟨_, rfl⟩
  have HGc := hide hgc
  have hz2 := HB2.out.size
  clear hC0 hmk2
  rw [hgc] at HC0 ⊢
  cases hsol : solB (tog F own) n q
  · have HSol := hide hsol
    clear hsol
    refine (solutions_no _ _ _ F _ _ _ hn HF.out hq HSet.out HSol.out HA3.out).mono ?_
    rintro e w3 ⟨rfl, hb3⟩
    have HC : Hid (OL w3 w.heap.size (.slice (some ⟨gc, 0, none⟩) (n + 1) (n + 1)) (List.replicate (n + 1) 0)) := hide (HC0.out.all hb3)
    have HB3 := hide (HBm.out.trans (hb3.mono HBm.out.size))
    clear hb3
    go_wp2
    go_loopw [37] (fun i wr => i = .int .i64 0 ∧ wr = w3) (fun i _ => 0)
    case atStart => exact ⟨rfl, rfl⟩
    case round =>
      obtain ⟨rfl, rfl⟩ := hrel
      go_wp2
      go_ret2
      exact ⟨some ⟨gc, 0, none⟩, n + 1, n + 1, rfl, by rw [sizes_none _ _ _ HSol.out]; simp, by rw [sizes_none _ _ _ HSol.out]; exact HC.out, HB3.out⟩
  · have HSol := hide hsol
    have hLL : solL (tog F own) n q = (sums (qS (tog F own) n n).1).map (fun s => s ^^^ solV (tog F own) n q) := by rw [solL, hsol]; rfl
    have HEnd : Hid (cntL n (solL (tog F own) n q) = sizesL (tog F own) n q) := hide rfl
    have HLow := hide (solL_low (T := tog F own) (n := n) (q := q))
    obtain ⟨L, hL⟩ : ∃ L, solL (tog F own) n q = L := ⟨_, rfl⟩
    rw [hL] at hLL HEnd HLow HLen
    have HLL := hide hLL
    have hl := HLen.out
    clear hsol hLL hL
    refine (solutions_yes _ _ _ F _ _ _ hn HF.out hq HSet.out HSol.out HA3.out).mono ?_
    rintro e w3 ⟨A3, d3, p, rfl, hp, ho3, hb3⟩
    rw [← HLL.out] at hp ho3
    have hp16 : p ≤ 65536 := by omega
    have HLl := hide hp
    have HEl := hide hp
    have HE := hide ho3
    have HE16 : Hid (∀ b ∈ L, b < 65536) := hide (fun b hb => by have := HLow.out b hb; omega)
    have HRel : Hid (∀ k, (h1 : k < L.length) → (h2 : k < L.length) → L[k] = L[k]) := hide (fun _ _ _ => rfl)
    have HC : Hid (OL w3 w.heap.size (.slice (some ⟨gc, 0, none⟩) (n + 1) (n + 1)) (cntL n (L.take 0))) := hide (HC0.out.all hb3)
    have HB3 := hide (HBm.out.trans (hb3.mono HBm.out.size))
    have hgz : gc < (w2.alloc (.cells (madeCells #[.int .i64 0] (n + 1)) 3)).heap.size := by simp; omega
    clear hp ho3 hb3
    go_wp2
    go_loopw [37] (fun i wr => ∃ k : Nat, k ≤ p ∧ i = .int .i64 k ∧ OL wr w.heap.size (.slice (some ⟨gc, 0, none⟩) (n + 1) (n + 1)) (cntL n (L.take k)) ∧ w3.grownBy wr (some gc) ∧ Below w.heap.size w wr) (fun i _ => p - (intOf i).toNat)
    case atStart => exact ⟨0, by omega, rfl, HC.out, ⟨rfl, rfl, rfl, Nat.le_refl _, fun _ _ _ => rfl⟩, HB3.out⟩
    case round =>
      obtain ⟨k, hk, rfl, ho, hgr, hb⟩ := hrel
      have HO' := hide ho
      have HGr := hide hgr
      have HB' := hide hb
      have hcl : Hid ((cntL n (L.take k)).length = n + 1) := hide (cntL_len _ _)
      clear ho hgr hb
      by_cases hlt : k < p
      · have hkn : k < L.length := by rw [HLl.out]; exact hlt
        have hkn2 : k < L.length := by rw [HEl.out]; exact hlt
        rcases HE.out.cases HEl.out with ⟨_, h1, _⟩ | ⟨gs, cs, rfl, hBs, hgs, hncs, hms, hccs, hcurs⟩
        · omega
        · obtain ⟨y, hy⟩ : ∃ y, L[k] = y := ⟨_, rfl⟩
          have hy16 := HE16.out y (by rw [← hy]; exact List.getElem_mem hkn2)
          have hgs2 := hgs.grown' HGr.out (by omega)
          have hc : wr.cell? ⟨gs, k, none⟩ = some (.int .i64 (y : Nat)) := by rw [hgs2.cell, hcurs k hlt, lv_get hkn2, hy]
          obtain ⟨z, hz⟩ : ∃ z, L[k] = z := ⟨_, rfl⟩
          have hzy : Hid (z = y) := hide (by rw [← hz, ← hy])
          have hzn := HLow.out z (by rw [← hz]; exact List.getElem_mem hkn)
          have hz16 : z < 65536 := by omega
          have hj := pop_le_of hzn
          obtain ⟨j, hje⟩ : ∃ j, pop z = j := ⟨_, rfl⟩
          rw [hje] at hj
          have hv := cntL_le n (L.take k) j
          obtain ⟨v, hve⟩ : ∃ v, (cntL n (L.take k)).getD j 0 = v := ⟨_, rfl⟩
          rw [hve] at hv
          have hv2 : v ≤ 65536 := by have h1 := List.length_take_le k L; omega
          have HK : Hid (cntL n (L.take (k + 1)) = (cntL n (L.take k)).set j (v + 1)) := hide (by rw [List.take_succ_eq_append_getElem hkn, cntL_snoc, bump, hz, hje, hve])
          have HPJ := hide hje
          rcases HO'.out.cases hcl.out with ⟨h0, _, _⟩ | ⟨g6, cur, hg6, hBg, hg, hnc, hmx, hcs, hcur⟩
          · cases h0
          · injection hg6 with hg6
            injection hg6 with hg6 _ _
            subst hg6
            have hcc : wr.cell? ⟨gc, j, none⟩ = some (.int .i64 (v : Nat)) := by rw [hg.cell, hcur j (by omega), getD_lv hve]
            have hfz : wr.frozen? ⟨gc, j, none⟩ = false := hg.frozen j
            have e8 : ((v : Int) + 1) = ((v + 1 : Nat) : Int) := by omega
            have HE8 := hide e8
            clear hz hje hve hg hcur hcs hgs hgs2 hcurs hy hkn hkn2 hv e8
            have hzy2 := hzy.out
            subst hzy2
            go_wp2_with (go_at_call 100; refine (sizePop z _ hz16).mono ?_; rintro e w6 ⟨rfl, rfl⟩; simp only [HPJ.out])
            go_roundw
            case rel => exact ⟨k + 1, by omega, by go_num, by rw [HK.out]; have h := HO'.out.set hcl.out j (v + 1); rw [← HE8.out] at h; exact h, grownBy_setCell HGr.out _, HB'.out.setCell (by simp; omega) _⟩
            case measure => simp [intOf]; omega
      · have hkp : k = p := by omega
        subst hkp
        have HFin : Hid (cntL n (L.take k) = sizesL (tog F own) n q) := hide (by rw [List.take_of_length_le (by rw [HLl.out]; omega)]; exact HEnd.out)
        go_wp2
        go_ret2
        exact ⟨some ⟨gc, 0, none⟩, n + 1, n + 1, rfl, by rw [← HFin.out]; exact cntL_len _ _, by rw [← HFin.out]; exact HO'.out, HB'.out⟩
theorem sbsSpec_ok (g n c : Nat) (F : Nat → Nat) (own : Bool) (q : Nat) (w : World) (hn : n ≤ 16) (hF : ∀ j, j < n → F j < 2 ^ n) (hq : q < 2 ^ n) (hset : setB n (nv F) q = true) (h8 : ((qS (tog F own) n n).1).length ≤ 8) (ha : Arr w 3 g n (iv (nv F))) :
    Calls Try.prog 66 #[.agg #[.slice (some ⟨g, 0, none⟩) n c, .bool own], .int .i64 q] w (ListRead w (sizesL (tog F own) n q)) := by
  have hmk := run_make_row' (P := Try.prog) 22 3 (.int .i64 0) 8 Try.underlying22 int_info rfl .i64 .i64 (n + 1) (by omega) (by omega)
  have hmk2 : ∀ w, (Instr.makeSlice 22 (.int .i64 ((n : Int) + 1)) (.int .i64 ((n : Int) + 1))).run Try.prog w = .ok (.slice (some ⟨w.heap.size, 0, none⟩) (n + 1) (n + 1)) (w.alloc (.cells (madeCells #[.int .i64 0] (n + 1)) 3)) := fun w => by
    have := hmk w
    rwa [Int.natCast_add] at this
  have h16 := pow16n hn
  have HA := hide ha
  have HF := hide hF
  have HT := hide (tog_all (own := own) hF)
  have HSet := hide hset
  have hgd : goodB n (nv F) = true := by simp only [setB, Bool.and_eq_true] at hset; exact hset.1
  have hin : inB q 0 (2 ^ n - 1) = true := by simp only [setB, Bool.and_eq_true] at hset; exact hset.2
  have HG := hide hgd
  have HIn := hide hin
  have H8 := hide h8
  clear ha hF hset hgd hin h8
  obtain ⟨m, hm⟩ : ∃ m, ((qS (tog F own) n n).1).length = m := ⟨_, rfl⟩
  have hm8 : m ≤ 8 := by have := H8.out; omega
  have HM := hide hm
  have hcnt := sums_length (qS (tog F own) n n).1
  have hp2 := two_pow_le16 (k := m) (by omega)
  rw [hm] at hcnt
  have hlen : (sums (qS (tog F own) n n).1).length ≤ 65536 := by omega
  have HLen := hide hlen
  have HQ16 := hide (qS_lt16 (T := tog F own) hn)
  clear hmk hm hcnt hlen hp2
  go_enter Try.func66, Try.ntmps66
  go_wp2_with fail
  refine (grSet_any _ _ _ (nv F) _ _ _ (by omega) (HA.out.alloc _)).mono ?_
  rintro e w1 ⟨rfl, hb1⟩
  simp only [HSet.out]
  have hp := (Arr.box w 26 (.slice (some ⟨g, 0, none⟩) n c) (.bool own)).all hb1
  have HA1 := hide ((HA.out.alloc _).all hb1)
  have HB1 := hide ((by go_grown : Below w.heap.size w _).trans (hb1.mono (by simp)))
  have c0_1 : w1.cell? ⟨w.heap.size, 0, none⟩ = some (.slice (some ⟨g, 0, none⟩) n c) := hp.cell (by omega)
  have c1_1 : w1.cell? ⟨w.heap.size, 1, none⟩ = some (.bool own) := hp.cell (by omega)
  have HX1 := hide hp
  clear hp hb1
  go_wp2_with fail
  refine (soQuiet_any _ _ _ F _ _ hn HF.out HA1.out).mono ?_
  rintro e w2 ⟨A0, d0, m0, rfl, hm0, hs0, hb2⟩
  have hm08 : m0 ≤ 8 := by have := H8.out; omega
  have hp := HX1.out.all hb2
  have HA2 := hide (HA1.out.all hb2)
  have HB2 := hide (HB1.out.trans (hb2.mono HB1.out.size))
  have c0_2 : w2.cell? ⟨w.heap.size, 0, none⟩ = some (.slice (some ⟨g, 0, none⟩) n c) := hp.cell (by omega)
  have c1_2 : w2.cell? ⟨w.heap.size, 1, none⟩ = some (.bool own) := hp.cell (by omega)
  have HX2 := hide hp
  clear hp hb2 c0_1 c1_1
  clear hm0 hs0
  have hl2 : w.heap.size < w2.heap.size := HX2.out.lt
  go_wp2_with fail
  have hC0 := OL.made w2 (n + 1) (B := w.heap.size) HB2.out.size (by omega)
  have HA3 := hide (HA2.out.alloc (.cells (madeCells #[.int .i64 0] (n + 1)) 3))
  have HX3 := hide (HX2.out.alloc (.cells (madeCells #[.int .i64 0] (n + 1)) 3))
  have HBm := hide (HB2.out.alloc HB2.out.size (.cells (madeCells #[.int .i64 0] (n + 1)) 3))
  have HC0 := hide hC0
  obtain ⟨gc, hgc⟩ : ∃ gc, w2.heap.size = gc := ⟨_, rfl⟩
  have HGc := hide hgc
  have hz2 := HB2.out.size
  clear hC0 hmk2 c0_2 c1_2
  rw [hgc] at HC0 ⊢
  refine (soSolve_any _ _ _ F _ _ _ hq hn HF.out HA3.out).mono ?_
  cases hsol : solB (tog F own) n q
  · have HSol := hide hsol
    clear hsol
    rintro e w3 ⟨rfl, hb3⟩
    have HC : Hid (OL w3 w.heap.size (.slice (some ⟨gc, 0, none⟩) (n + 1) (n + 1)) (List.replicate (n + 1) 0)) := hide (HC0.out.all hb3)
    have HB3 := hide (HBm.out.trans (hb3.mono HBm.out.size))
    clear hb3
    go_wp2
    go_ret2
    exact ⟨some ⟨gc, 0, none⟩, n + 1, n + 1, rfl, by rw [sizes_none _ _ _ HSol.out]; simp, by rw [sizes_none _ _ _ HSol.out]; exact HC.out.src (by simp), HB3.out⟩
  · have HSol := hide hsol
    have hLL : solL (tog F own) n q = (sums (qS (tog F own) n n).1).map (fun s => s ^^^ solV (tog F own) n q) := by rw [solL, hsol]; rfl
    have HEnd : Hid (cntL n (solL (tog F own) n q) = sizesL (tog F own) n q) := hide rfl
    have HLow := hide (solL_low (T := tog F own) (n := n) (q := q))
    have hxlt := solV_lt (T := tog F own) (n := n) (q := q)
    obtain ⟨x, hx⟩ : ∃ x, solV (tog F own) n q = x := ⟨_, rfl⟩
    obtain ⟨QQ, hQ⟩ : ∃ QQ, (qS (tog F own) n n).1 = QQ := ⟨_, rfl⟩
    obtain ⟨L, hL⟩ : ∃ L, solL (tog F own) n q = L := ⟨_, rfl⟩
    rw [hx] at hLL hxlt
    rw [hQ] at hLL HLen HQ16 HM
    rw [hL] at hLL HEnd HLow
    obtain ⟨E, hE⟩ : ∃ E, sums QQ = E := ⟨_, rfl⟩
    rw [hE] at hLL HLen
    have HE16 : Hid (∀ b ∈ E, b < 65536) := hide (by rw [← hE]; exact sums_lt (m := 16) HQ16.out)
    have HX := hide hx
    have HQ := hide hQ
    have HEs := hide hE
    have HRel : Hid (∀ k, (h1 : k < L.length) → (h2 : k < E.length) → L[k] = E[k] ^^^ x) := hide (fun k h1 h2 => by simp [hLL])
    have HLE : Hid (L.length = E.length) := hide (by rw [hLL, List.length_map])
    have hl := HLen.out
    have hx16 : x < 65536 := by omega
    clear hsol hLL hL hx hQ hE
    rintro e w4 ⟨rfl, hb4⟩
    simp only [HX.out]
    have HC4 := hide (HC0.out.all hb4)
    have HA4 := hide (HA3.out.all hb4)
    have HB4 := hide (HBm.out.trans (hb4.mono HBm.out.size))
    have hp4 := HX3.out.all hb4
    have d0_4 : w4.cell? ⟨w.heap.size, 0, none⟩ = some (.slice (some ⟨g, 0, none⟩) n c) := hp4.cell (by omega)
    have d1_4 : w4.cell? ⟨w.heap.size, 1, none⟩ = some (.bool own) := hp4.cell (by omega)
    have hz4 := hb4.size
    simp only [World.size_alloc] at hz4
    clear hb4 hp4
    go_wp2_with fail
    refine (soQuiet_any _ _ _ F _ _ hn HF.out HA4.out).mono ?_
    rintro e w5 ⟨A5, d5, m5, rfl, hm5, hs5, hb5⟩
    rw [HQ.out] at hm5 hs5
    have hm516 : m5 ≤ 16 := by have := HM.out; omega
    have HM5 := hide hm5
    have HS5 := hide hs5
    have HC5 := hide (HC4.out.all hb5)
    have HB5 := hide (HB4.out.trans (hb5.mono HB4.out.size))
    have hz5 := hb5.size
    clear hm5 hs5 hb5 d0_4 d1_4
    go_wp2_with fail
    refine (soSums_any _ _ _ _ _ HQ16.out HM5.out hm516 HS5.out).mono ?_
    rintro e w3 ⟨A3, d3, p, rfl, hp, ho3, hb3⟩
    rw [HEs.out] at hp ho3
    have hp16 : p ≤ 65536 := by omega
    have HEl := hide hp
    have HLl : Hid (L.length = p) := hide (by rw [HLE.out, hp])
    have HE := hide ho3
    have HC : Hid (OL w3 w.heap.size (.slice (some ⟨gc, 0, none⟩) (n + 1) (n + 1)) (cntL n (L.take 0))) := hide (HC5.out.all hb3)
    have HB3 := hide (HB5.out.trans (hb3.mono HB5.out.size))
    have hgz : gc < w5.heap.size := by omega
    clear hp ho3 hb3
    go_wp2
    go_loopw [39] (fun i wr => ∃ k : Nat, k ≤ p ∧ i = .int .i64 k ∧ OL wr w.heap.size (.slice (some ⟨gc, 0, none⟩) (n + 1) (n + 1)) (cntL n (L.take k)) ∧ w3.grownBy wr (some gc) ∧ Below w.heap.size w wr) (fun i _ => p - (intOf i).toNat)
    case atStart => exact ⟨0, by omega, rfl, HC.out, ⟨rfl, rfl, rfl, Nat.le_refl _, fun _ _ _ => rfl⟩, HB3.out⟩
    case round =>
      obtain ⟨k, hk, rfl, ho, hgr, hb⟩ := hrel
      have HO' := hide ho
      have HGr := hide hgr
      have HB' := hide hb
      have hcl : Hid ((cntL n (L.take k)).length = n + 1) := hide (cntL_len _ _)
      clear ho hgr hb
      by_cases hlt : k < p
      · have hkn : k < L.length := by rw [HLl.out]; exact hlt
        have hkn2 : k < E.length := by rw [HEl.out]; exact hlt
        rcases HE.out.cases HEl.out with ⟨_, h1, _⟩ | ⟨gs, cs, rfl, hBs, hgs, hncs, hms, hccs, hcurs⟩
        · omega
        · obtain ⟨y, hy⟩ : ∃ y, E[k] = y := ⟨_, rfl⟩
          have hy16 := HE16.out y (by rw [← hy]; exact List.getElem_mem hkn2)
          have hgs2 := hgs.grown' HGr.out (by omega)
          have hc : wr.cell? ⟨gs, k, none⟩ = some (.int .i64 (y : Nat)) := by rw [hgs2.cell, hcurs k hlt, lv_get hkn2, hy]
          obtain ⟨z, hz⟩ : ∃ z, L[k] = z := ⟨_, rfl⟩
          have hzy : Hid (z = y ^^^ x) := hide (by rw [← hz, ← hy]; exact HRel.out k hkn hkn2)
          have hzn := HLow.out z (by rw [← hz]; exact List.getElem_mem hkn)
          have hz16 : z < 65536 := by omega
          have hj := pop_le_of hzn
          obtain ⟨j, hje⟩ : ∃ j, pop z = j := ⟨_, rfl⟩
          rw [hje] at hj
          have hv := cntL_le n (L.take k) j
          obtain ⟨v, hve⟩ : ∃ v, (cntL n (L.take k)).getD j 0 = v := ⟨_, rfl⟩
          rw [hve] at hv
          have hv2 : v ≤ 65536 := by have h1 := List.length_take_le k L; omega
          have HK : Hid (cntL n (L.take (k + 1)) = (cntL n (L.take k)).set j (v + 1)) := hide (by rw [List.take_succ_eq_append_getElem hkn, cntL_snoc, bump, hz, hje, hve])
          have HPJ := hide hje
          rcases HO'.out.cases hcl.out with ⟨h0, _, _⟩ | ⟨g6, cur, hg6, hBg, hg, hnc, hmx, hcs, hcur⟩
          · cases h0
          · injection hg6 with hg6
            injection hg6 with hg6 _ _
            subst hg6
            have hcc : wr.cell? ⟨gc, j, none⟩ = some (.int .i64 (v : Nat)) := by rw [hg.cell, hcur j (by omega), getD_lv hve]
            have hfz : wr.frozen? ⟨gc, j, none⟩ = false := hg.frozen j
            have e8 : ((v : Int) + 1) = ((v + 1 : Nat) : Int) := by omega
            have HE8 := hide e8
            clear hz hje hve hg hcur hcs hgs hgs2 hcurs hy hkn hkn2 hv e8
            have e1 := i64_xor_nat x y (by omega) (by omega)
            rw [Nat.xor_comm x y, ← hzy.out] at e1
            go_wp2_with (go_at_call 94; refine (grPop z _ hz16).mono ?_; rintro e w6 ⟨rfl, rfl⟩; simp only [HPJ.out])
            go_roundw
            case rel => exact ⟨k + 1, by omega, by go_num, by rw [HK.out]; have h := HO'.out.set hcl.out j (v + 1); rw [← HE8.out] at h; exact h, grownBy_setCell HGr.out _, HB'.out.setCell (by simp; omega) _⟩
            case measure => simp [intOf]; omega
      · have hkp : k = p := by omega
        subst hkp
        have HFin : Hid (cntL n (L.take k) = sizesL (tog F own) n q) := hide (by rw [List.take_of_length_le (by rw [HLl.out]; omega)]; exact HEnd.out)
        go_wp2
        go_ret2
        exact ⟨some ⟨gc, 0, none⟩, n + 1, n + 1, rfl, by rw [← HFin.out]; exact cntL_len _ _, by rw [← HFin.out]; exact HO'.out.src (cntL_len _ _), HB'.out⟩
end Go.Proofs.Ytodbhokokdckkaa
