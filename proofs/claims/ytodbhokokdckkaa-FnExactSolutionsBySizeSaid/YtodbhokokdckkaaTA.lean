import Derived.Test.YtodbhokokdckkaaSZ
namespace Go.Proofs.Ytodbhokokdckkaa
open Go.RowKit
set_option maxHeartbeats 2000000
/-- The best of the first k sums with x, by size and then by number. -/
noncomputable def lexTo (S : List Nat) (x k : Nat) : Nat := (S.take k).foldl (fun m s => minLex pop m (x ^^^ s)) x
theorem lexTo_succ {S : List Nat} {x k : Nat} (h : k < S.length) : lexTo S x (k + 1) = minLex pop (lexTo S x k) (x ^^^ S[k]) := by
  unfold lexTo
  rw [List.take_succ_eq_append_getElem h, List.foldl_append]; rfl
theorem lexTo_lt {S : List Nat} {x : Nat} (hS : ∀ b ∈ S, b < 65536) (hx : x < 65536) (k : Nat) : lexTo S x k < 65536 := by
  unfold lexTo
  suffices h : ∀ (L : List Nat) (m : Nat), (∀ b ∈ L, b < 65536) → m < 65536 → L.foldl (fun m s => minLex pop m (x ^^^ s)) m < 65536 from h _ _ (fun b hb => hS b (List.mem_of_mem_take hb)) hx
  intro L
  induction L with
  | nil => intro m _ hm; exact hm
  | cons a L ih =>
    intro m hL hm
    refine ih _ (fun b hb => hL b (by simp [hb])) ?_
    show minLex pop m (x ^^^ a) < 65536
    unfold minLex; split
    · exact Nat.xor_lt_two_pow (n := 16) hx (hL a (by simp))
    · exact hm
theorem sums_head (Q : List Nat) : ∃ R, sums Q = 0 :: R := by
  induction Q using snoc_ind with
  | h0 => exact ⟨[], rfl⟩
  | h1 A a ih => obtain ⟨R, hR⟩ := ih; exact ⟨_, by rw [sums_snoc, hR]; rfl⟩
theorem solV_clean {T : Nat → Nat} {n q : Nat} : Cl (qS T n n).1 (solV T n q) := by
  have HI := inv_at T n n (by omega)
  obtain ⟨H, hP, _, _⟩ := HI.H
  unfold solV
  split
  · intro b hb
    exact lin_clean HI.bp (q <<< n) b (by rw [hP]; simp [hb])
  · intro b _; simp
theorem least_same (T : Nat → Nat) (n q : Nat) : lexTo (sums (qS T n n).1) (solV T n q) (sums (qS T n n).1).length = minTo ((sums (qS T n n).1).map (fun s => s ^^^ solV T n q)) ((sums (qS T n n).1).map (fun s => s ^^^ solV T n q)).length := by
  have hr := sums_rise (inv_at T n n (by omega)).bq (solV T n q) solV_clean
  obtain ⟨R, hR⟩ := sums_head (qS T n n).1
  generalize solV T n q = x at hr ⊢
  rw [hR] at hr ⊢
  unfold lexTo minTo
  rw [List.take_length, List.take_length, List.foldl_cons]
  have e0 : minLex pop x (x ^^^ 0) = x := by rw [Nat.xor_zero, minLex, if_neg (by omega)]
  rw [e0]
  simp only [List.map_cons, List.drop_succ_cons, List.drop_zero, Nat.zero_xor, List.getD_cons_zero]
  have hp : (x :: R.map (fun s => s ^^^ x)).Pairwise (· < ·) := by
    rw [List.pairwise_cons, List.pairwise_map]
    rw [List.pairwise_cons] at hr
    refine ⟨fun b hb => ?_, hr.2⟩
    simp only [List.mem_map] at hb
    obtain ⟨s, hs, rfl⟩ := hb
    simpa using hr.1 s hs
  rw [min_same pop _ x hp, List.foldl_map]
  congr 1
  funext m s
  rw [Nat.xor_comm]
theorem lex_yes {m s : Nat} (h : pop s < pop m ∨ pop s = pop m ∧ s < m) : minLex pop m s = s := by rw [minLex, if_pos h]
theorem lex_no {m s : Nat} (h : ¬ (pop s < pop m ∨ pop s = pop m ∧ s < m)) : minLex pop m s = m := by rw [minLex, if_neg h]
theorem soLeast_any (g n c : Nat) (F : Nat → Nat) (own : Bool) (q : Nat) (w : World) (hn : n ≤ 16) (hF : ∀ j, j < n → F j < 2 ^ n) (hq : q < 2 ^ n) (ha : Arr w 3 g n (iv (nv F))) :
    Calls Try.prog 97 #[.agg #[.slice (some ⟨g, 0, none⟩) n c, .bool own], .int .i64 q] w (Two w (.int .i64 (leastV (tog F own) n q : Nat)) (solB (tog F own) n q)) := by
  have h16 := pow16n hn
  have HA := hide ha
  have HF := hide hF
  have HT := hide (tog_all (own := own) hF)
  have HQ16 := hide (qS_lt16 (T := tog F own) hn)
  have hQl := qS_fit hn HT.out
  clear ha hF
  cases hsol : solB (tog F own) n q
  · have HSol := hide hsol
    have HV : Hid (leastV (tog F own) n q = 0) := hide (by rw [leastV, hsol]; rfl)
    clear hsol
    go_enter Try.func97, Try.ntmps97
    go_wp2_with fail
    refine (soSolve_any _ _ _ F _ _ _ hq hn HF.out (HA.out.alloc _)).mono ?_
    rintro e w1 ⟨rfl, hb1⟩
    simp only [HSol.out]
    have HB1 := hide ((by go_grown : Below w.heap.size w _).trans (hb1.mono (by simp)))
    clear hb1
    go_wp2
    go_ret2
    exact ⟨by rw [HV.out]; rfl, HB1.out⟩
  · have HSol := hide hsol
    have HV : Hid (leastV (tog F own) n q = lexTo (sums (qS (tog F own) n n).1) (solV (tog F own) n q) (sums (qS (tog F own) n n).1).length) := hide (by rw [leastV, hsol, least_same, solL, hsol]; rfl)
    have hxlt := solV_lt (T := tog F own) (n := n) (q := q)
    obtain ⟨x, hx⟩ : ∃ x, solV (tog F own) n q = x := ⟨_, rfl⟩
    obtain ⟨Q, hQ⟩ : ∃ Q, (qS (tog F own) n n).1 = Q := ⟨_, rfl⟩
    rw [hx] at hxlt HV
    rw [hQ] at HQ16 hQl HV
    have HX := hide hx
    have HQ := hide hQ
    have HSb : Hid (∀ s ∈ sums Q, s < 65536) := hide (sums_lt (m := 16) HQ16.out)
    have hlS := sums_length Q
    have hl16 := two_pow_le16 hQl
    obtain ⟨S, hS⟩ : ∃ S, sums Q = S := ⟨_, rfl⟩
    rw [hS] at HSb hlS HV
    have HSs := hide hS
    have hl17 : S.length ≤ 65536 := by omega
    have HLS := hide hl17
    have hx16 : x < 65536 := by omega
    have HLt := hide (lexTo_lt HSb.out hx16)
    clear hsol hx hQ hS hlS hl16 hl17
    go_enter Try.func97, Try.ntmps97
    go_wp2_with fail
    refine (soSolve_any _ _ _ F _ _ _ hq hn HF.out (HA.out.alloc _)).mono ?_
    rintro e w1 ⟨rfl, hb1⟩
    simp only [HSol.out, HX.out]
    have hp := (Arr.box w 26 (.slice (some ⟨g, 0, none⟩) n c) (.bool own)).all hb1
    have HA1 := hide ((HA.out.alloc _).all hb1)
    have HB1 := hide ((by go_grown : Below w.heap.size w _).trans (hb1.mono (by simp)))
    have c0_1 : w1.cell? ⟨w.heap.size, 0, none⟩ = some (.slice (some ⟨g, 0, none⟩) n c) := hp.cell (by omega)
    have c1_1 : w1.cell? ⟨w.heap.size, 1, none⟩ = some (.bool own) := hp.cell (by omega)
    have HX1 := hide hp
    clear hp hb1
    go_wp2_with fail
    refine (soQuiet_any _ _ _ F _ _ hn HF.out HA1.out).mono ?_
    rintro e w2 ⟨A, d, m, rfl, hm, hs, hb2⟩
    rw [HQ.out] at hm hs
    have hm16 : m ≤ 16 := by omega
    have HM := hide hm
    have HS := hide hs
    have HB2 := hide (HB1.out.trans (hb2.mono HB1.out.size))
    clear hm hs hb2 c0_1 c1_1 hQl
    go_wp2_with fail
    refine (soSums_any _ _ _ _ _ HQ16.out HM.out hm16 HS.out).mono ?_
    rintro e w3 ⟨A3, d3, p, rfl, hp, ho3, hb3⟩
    rw [HSs.out] at hp ho3
    have hp16 : p ≤ 65536 := by have := HLS.out; omega
    have HPl := hide hp
    have HS3 := hide (ho3.src hp)
    have HB3 := hide (HB2.out.trans (hb3.mono HB2.out.size))
    clear hp ho3 hb3
    go_wp2
    go_loop [8, 25] (fun b i => ∃ k : Nat, k ≤ p ∧ i = .int .i64 k ∧ b = .int .i64 (lexTo S x k : Nat)) (fun _ i => p - (intOf i).toNat)
    case atStart => exact ⟨0, by omega, rfl, rfl⟩
    case round =>
      obtain ⟨k, hk, rfl, rfl⟩ := hrel
      obtain ⟨b, hb⟩ : ∃ b, lexTo S x k = b := ⟨_, rfl⟩
      have hb16 : b < 65536 := by rw [← hb]; exact HLt.out k
      rw [hb]
      have HBB := hide hb
      clear hb
      by_cases hlt : k < p
      · have hkn : k < S.length := by rw [HPl.out]; exact hlt
        obtain ⟨b2, off2, hA2, _, hc2⟩ := HS3.out k hlt
        subst hA2
        obtain ⟨y, hy⟩ : ∃ y, S[k] = y := ⟨_, rfl⟩
        have hy16 := HSb.out y (by rw [← hy]; exact List.getElem_mem hkn)
        have hc : w3.cell? ⟨b2, off2 + k, none⟩ = some (.int .i64 (y : Nat)) := by rw [hc2, lv_get hkn, hy]
        have HK : Hid (lexTo S x (k + 1) = minLex pop b (x ^^^ y)) := hide (by rw [lexTo_succ hkn, HBB.out, hy])
        have e1 := i64_xor_nat x y (by omega) (by omega)
        have hz16 : x ^^^ y < 65536 := Nat.xor_lt_two_pow (n := 16) hx16 hy16
        obtain ⟨z, hz⟩ : ∃ z, x ^^^ y = z := ⟨_, rfl⟩
        rw [hz] at e1 hz16 HK
        have hpz := pop16 z
        have hpb := pop16 b
        obtain ⟨pz, hez⟩ : ∃ p, pop z = p := ⟨_, rfl⟩
        obtain ⟨pb, heb⟩ : ∃ p, pop b = p := ⟨_, rfl⟩
        rw [hez] at hpz
        rw [heb] at hpb
        have HPZ := hide hez
        have HPB := hide heb
        clear hc2 hy hkn hz hez heb
        by_cases h1 : pz < pb
        · have HN : Hid (minLex pop b z = z) := hide (lex_yes (by rw [HPZ.out, HPB.out]; exact .inl h1))
          go_wp2_with (go_at_call 94; first | ((with_reducible refine (grPop z _ hz16).mono ?_); rintro e w4 ⟨rfl, rfl⟩; simp only [HPZ.out]) | ((with_reducible refine (grPop b _ hb16).mono ?_); rintro e w4 ⟨rfl, rfl⟩; simp only [HPB.out]))
          go_round
          case rel => exact ⟨k + 1, by omega, by go_num, by rw [HK.out, HN.out]⟩
          case measure => simp [intOf] <;> omega
        · by_cases h2 : pz = pb ∧ z < b
          · have HN : Hid (minLex pop b z = z) := hide (lex_yes (by rw [HPZ.out, HPB.out]; exact .inr h2))
            obtain ⟨h2a, h2b⟩ := h2
            subst h2a
            go_wp2_with (go_at_call 94; first | ((with_reducible refine (grPop z _ hz16).mono ?_); rintro e w4 ⟨rfl, rfl⟩; simp only [HPZ.out]) | ((with_reducible refine (grPop b _ hb16).mono ?_); rintro e w4 ⟨rfl, rfl⟩; simp only [HPB.out]))
            go_round
            case rel => exact ⟨k + 1, by omega, by go_num, by rw [HK.out, HN.out]⟩
            case measure => simp [intOf] <;> omega
          · have HN : Hid (minLex pop b z = b) := hide (lex_no (by rw [HPZ.out, HPB.out]; omega))
            by_cases h3 : pz = pb
            · have h4 : b ≤ z := by omega
              clear h2
              subst h3
              go_wp2_with (go_at_call 94; first | ((with_reducible refine (grPop z _ hz16).mono ?_); rintro e w4 ⟨rfl, rfl⟩; simp only [HPZ.out]) | ((with_reducible refine (grPop b _ hb16).mono ?_); rintro e w4 ⟨rfl, rfl⟩; simp only [HPB.out]))
              go_round
              case rel => exact ⟨k + 1, by omega, by go_num, by rw [HK.out, HN.out]⟩
              case measure => simp [intOf] <;> omega
            · have h4 : pb < pz := by omega
              have e5 : ((pz : Int) == (pb : Int)) = false := by simp; omega
              clear h2 h3
              go_wp2_with (go_at_call 94; first | ((with_reducible refine (grPop z _ hz16).mono ?_); rintro e w4 ⟨rfl, rfl⟩; simp only [HPZ.out]) | ((with_reducible refine (grPop b _ hb16).mono ?_); rintro e w4 ⟨rfl, rfl⟩; simp only [HPB.out]))
              go_round
              case rel => exact ⟨k + 1, by omega, by go_num, by rw [HK.out, HN.out]⟩
              case measure => simp [intOf] <;> omega
      · have hkp : k = p := by omega
        subst hkp
        go_wp2
        go_ret2
        exact ⟨by rw [HV.out, HPl.out, HBB.out]; rfl, HB3.out⟩
theorem leastSpec_no (g n c : Nat) (f : Nat → Int) (own : Bool) (s : Int) (w : World) (hn : n ≤ 1048576) (hno : setB n f s = false) (ha : Arr w 3 g n (iv f)) :
    Calls Try.prog 58 #[.agg #[.slice (some ⟨g, 0, none⟩) n c, .bool own], .int .i64 s] w (Two w (.int .i64 0) false) := by
  have HA := hide ha
  clear ha
  go_enter Try.func58, Try.ntmps58
  go_wp2_with fail
  refine (grSet_any _ _ _ f _ _ _ hn (HA.out.alloc _)).mono ?_
  rintro e w1 ⟨rfl, hb1⟩
  go_wp2
  go_ret2
  exact ⟨rfl, (by go_grown : Below w.heap.size w _).trans (hb1.mono (by simp))⟩
theorem leastSpec_ok (g n c : Nat) (F : Nat → Nat) (own : Bool) (q : Nat) (w : World) (hn : n ≤ 16) (hF : ∀ j, j < n → F j < 2 ^ n) (hq : q < 2 ^ n) (hset : setB n (nv F) q = true) (ha : Arr w 3 g n (iv (nv F))) :
    Calls Try.prog 58 #[.agg #[.slice (some ⟨g, 0, none⟩) n c, .bool own], .int .i64 q] w (Two w (.int .i64 (leastV (tog F own) n q : Nat)) (solB (tog F own) n q)) := by
  have HA := hide ha
  have HF := hide hF
  clear ha hF
  go_enter Try.func58, Try.ntmps58
  go_wp2_with fail
  refine (grSet_any _ _ _ (nv F) _ _ _ (by omega) (HA.out.alloc _)).mono ?_
  rintro e w1 ⟨rfl, hb1⟩
  have hp := (Arr.box w 26 (.slice (some ⟨g, 0, none⟩) n c) (.bool own)).all hb1
  have HA1 := hide ((HA.out.alloc _).all hb1)
  have HB1 := hide ((by go_grown : Below w.heap.size w _).trans (hb1.mono (by simp)))
  have c0_1 : w1.cell? ⟨w.heap.size, 0, none⟩ = some (.slice (some ⟨g, 0, none⟩) n c) := hp.cell (by omega)
  have c1_1 : w1.cell? ⟨w.heap.size, 1, none⟩ = some (.bool own) := hp.cell (by omega)
  have HX1 := hide hp
  clear hp hb1
  go_wp2_with fail
  refine (soLeast_any _ _ _ F _ _ _ hn HF.out hq HA1.out).mono ?_
  rintro e w2 ⟨rfl, hb2⟩
  have HB2 := hide (HB1.out.trans (hb2.mono HB1.out.size))
  clear hb2
  go_wp2
  go_ret2
  exact ⟨rfl, HB2.out⟩
end Go.Proofs.Ytodbhokokdckkaa
