import Derived.Test.YtodbhokokdckkaaSY
namespace Go.Proofs.Ytodbhokokdckkaa
open Go.RowKit
set_option maxHeartbeats 2000000
/-- The size of a set; a name that nothing unfolds. -/
noncomputable def pop : Nat → Nat := Classical.choose (⟨popN 16, fun _ => rfl⟩ : ∃ f : Nat → Nat, ∀ x, f x = popN 16 x)
theorem pop_eq (x : Nat) : pop x = popN 16 x := Classical.choose_spec (⟨popN 16, fun _ => rfl⟩ : ∃ f : Nat → Nat, ∀ x, f x = popN 16 x) x
theorem pop16 (x : Nat) : pop x ≤ 16 := by rw [pop_eq]; exact pop_le 16 x
theorem sizePop (x : Nat) (w : World) (hx : x < 65536) : Calls Try.prog 100 #[.int .i64 x] w fun e w' => e = .returned (.int .i64 (pop x : Nat)) ∧ w = w' :=
  (sizeOf_any x w hx).mono fun _ _ ⟨h, hw⟩ => ⟨by rw [h, pop_eq], hw.symm⟩
theorem grPop (x : Nat) (w : World) (hx : x < 65536) : Calls Try.prog 94 #[.int .i64 x] w fun e w' => e = .returned (.int .i64 (pop x : Nat)) ∧ w = w' :=
  (grCount_any x w hx).mono fun _ _ ⟨h, hw⟩ => ⟨by rw [h, pop_eq], hw.symm⟩
theorem cmp99 (a b : Nat) (w : World) (ha : a < 65536) (hb : b < 65536) : Calls Try.prog 99 #[.int .i64 a, .int .i64 b] w fun e w' => e = .returned (.int .i64 ((pop a : Int) - (pop b : Int))) ∧ w = w' := by
  have h1 := pop16 a
  have h2 := pop16 b
  go_enter Try.func99, Try.ntmps99
  go_wp2_with fail
  refine (sizePop _ _ ha).mono ?_
  rintro e w1 ⟨rfl, rfl⟩
  go_wp2_with fail
  refine (sizePop _ _ hb).mono ?_
  rintro e w2 ⟨rfl, rfl⟩
  go_wp2
  go_ret
  exact ⟨rfl, rfl⟩
/-- The first of the first k sets that has the least size. -/
noncomputable def minTo (L : List Nat) (k : Nat) : Nat := ((L.take k).drop 1).foldl (minBy pop) (L.getD 0 0)
theorem minTo_succ {L : List Nat} {k : Nat} (hk : 1 ≤ k) (h : k < L.length) : minTo L (k + 1) = minBy pop (minTo L k) L[k] := by
  unfold minTo
  rw [List.take_succ_eq_append_getElem h, List.drop_append_of_le_length (by simp; omega), List.foldl_append]; rfl
theorem fold_lt {f : Nat → Nat} {m0 : Nat} (h0 : m0 < 65536) : ∀ (L : List Nat), (∀ b ∈ L, b < 65536) → L.foldl (minBy f) m0 < 65536 := by
  intro L
  induction L generalizing m0 with
  | nil => intro _; exact h0
  | cons a L ih =>
    intro h
    refine ih ?_ (fun b hb => h b (by simp [hb]))
    unfold minBy; split
    · exact h a (by simp)
    · exact h0
theorem minTo_lt {L : List Nat} (hL : ∀ b ∈ L, b < 65536) (h0 : 0 < L.length) (k : Nat) : minTo L k < 65536 := by
  unfold minTo
  refine fold_lt ?_ _ (fun b hb => hL b (List.mem_of_mem_take (List.mem_of_mem_drop hb)))
  have : L.getD 0 0 = L[0] := by simp [h0]
  rw [this]; exact hL _ (List.getElem_mem h0)
theorem minFunc_any (A : Option Addr) (c n : Nat) (L : List Nat) (w : World) (hL : ∀ b ∈ L, b < 65536) (hn : L.length = n) (h0 : 0 < n) (hn2 : n ≤ 1048576) (hsrc : Src w A n (lv L)) :
    Calls Try.prog 98 #[.slice A n c, .func (.func 99) #[] #[]] w fun e w' => e = .returned (.int .i64 (minTo L n : Nat)) ∧ w' = w := by
  have hp : 0 < L.length := by omega
  have HL := hide hL
  have HN := hide hn
  have HS := hide hsrc
  have HLt := hide (minTo_lt hL hp)
  obtain ⟨b, off, hA, hbl, hc0⟩ := hsrc 0 h0
  have H1 : Hid (minTo L 1 = L[0]) := hide (by unfold minTo; simp [hp])
  obtain ⟨y0, hy0⟩ : ∃ y, L[0] = y := ⟨_, rfl⟩
  have c0 : w.cell? ⟨b, off, none⟩ = some (.int .i64 (y0 : Nat)) := by rw [Nat.add_zero] at hc0; rw [hc0, lv_get hp, hy0]
  have HY0 : Hid (minTo L 1 = y0) := hide (by rw [H1.out, hy0])
  subst hA
  have hlt1 : (n : Int) < 1 → False := by omega
  have h1n : 1 ≤ n := h0
  clear hL hn hsrc hc0 hy0 H1 hlt1
  go_enter Try.func98, Try.ntmps98
  go_wp2
  clear c0
  go_loop [5, 6] (fun m i => ∃ k : Nat, 1 ≤ k ∧ k ≤ n ∧ i = .int .i64 k ∧ m = .int .i64 (minTo L k : Nat)) (fun _ i => n - (intOf i).toNat)
  case atStart => exact ⟨1, by omega, by omega, rfl, by rw [HY0.out]⟩
  case round =>
    obtain ⟨k, hk1, hk, rfl, rfl⟩ := hrel
    obtain ⟨x, hx⟩ : ∃ x, minTo L k = x := ⟨_, rfl⟩
    have hx16 : x < 65536 := by rw [← hx]; exact HLt.out k
    rw [hx]
    have HX := hide hx
    clear hx
    by_cases hlt : k < n
    · have hkn : k < L.length := by rw [HN.out]; exact hlt
      obtain ⟨b2, off2, hA2, _, hc2⟩ := HS.out k hlt
      injection hA2 with hA2
      injection hA2 with hA2 hO2 _
      subst hA2 hO2
      obtain ⟨y, hy⟩ : ∃ y, L[k] = y := ⟨_, rfl⟩
      have hy16 := HL.out y (by rw [← hy]; exact List.getElem_mem hkn)
      have hc : w.cell? ⟨b, off + k, none⟩ = some (.int .i64 (y : Nat)) := by rw [hc2, lv_get hkn, hy]
      have HK : Hid (minTo L (k + 1) = minBy pop x y) := hide (by rw [minTo_succ hk1 hkn, HX.out, hy])
      have hpx := pop16 x
      have hpy := pop16 y
      obtain ⟨px, hex⟩ : ∃ p, pop x = p := ⟨_, rfl⟩
      obtain ⟨py, hey⟩ : ∃ p, pop y = p := ⟨_, rfl⟩
      rw [hex] at hpx
      rw [hey] at hpy
      have HPX := hide hex
      have HPY := hide hey
      clear hc2 hy hkn hex hey
      by_cases hless : py < px
      · have HM : Hid (minBy pop x y = y) := hide (by rw [minBy, if_pos (by rw [HPX.out, HPY.out]; exact hless)])
        go_wp2_with (go_at_call 99; refine (cmp99 _ _ _ hy16 hx16).mono ?_; rintro e w3 ⟨rfl, rfl⟩; simp only [HPX.out, HPY.out])
        go_round
        case rel => exact ⟨k + 1, by omega, by omega, by go_num, by rw [HK.out, HM.out]⟩
        case measure => simp [intOf] <;> omega
      · have HM : Hid (minBy pop x y = x) := hide (by rw [minBy, if_neg (by rw [HPX.out, HPY.out]; exact hless)])
        go_wp2_with (go_at_call 99; refine (cmp99 _ _ _ hy16 hx16).mono ?_; rintro e w3 ⟨rfl, rfl⟩; simp only [HPX.out, HPY.out])
        go_round
        case rel => exact ⟨k + 1, by omega, by omega, by go_num, by rw [HK.out, HM.out]⟩
        case measure => simp [intOf] <;> omega
    · have hkn : k = n := by omega
      subst hkn
      go_wp2
      go_ret
      exact ⟨by rw [HX.out]; rfl, rfl⟩
/-- The least solution. -/
noncomputable def leastV (T : Nat → Nat) (n q : Nat) : Nat := if solB T n q then minTo (solL T n q) (solL T n q).length else 0
theorem solL_lt {T : Nat → Nat} {n q : Nat} (hn : n ≤ 16) : ∀ b ∈ solL T n q, b < 65536 := by
  intro b hb
  unfold solL at hb
  split at hb
  · simp only [List.mem_map] at hb
    obtain ⟨s, hs, rfl⟩ := hb
    exact Nat.xor_lt_two_pow (n := 16) (sums_lt (m := 16) (qS_lt16 hn) s hs) (Nat.lt_of_lt_of_le solV_lt (pow16n hn))
  · cases hb
theorem solutions_bad (g n c : Nat) (f : Nat → Int) (own : Bool) (s : Int) (w : World) (hn : n ≤ 1048576) (hno : setB n f s = false) (ha : Arr w 3 g n (iv f)) :
    Calls Try.prog 96 #[.agg #[.slice (some ⟨g, 0, none⟩) n c, .bool own], .int .i64 s] w fun e w' => e = .returned (.slice none 0 0) ∧ Below w.heap.size w w' := by
  have HA := hide ha
  have HN := hide hno
  clear ha hno
  go_enter Try.func96, Try.ntmps96
  go_wp2_with fail
  refine (solveImpl_no _ _ _ f _ _ _ hn HN.out (HA.out.alloc _)).mono ?_
  rintro e w1 ⟨rfl, hb1⟩
  have HB1 := hide ((by go_grown : Below w.heap.size w _).trans (hb1.mono (by simp)))
  clear hb1
  go_wp2
  go_ret
  exact ⟨rfl, HB1.out⟩
theorem leastImpl_no (g n c : Nat) (f : Nat → Int) (own : Bool) (s : Int) (w : World) (hn : n ≤ 1048576) (hno : setB n f s = false) (ha : Arr w 3 g n (iv f)) :
    Calls Try.prog 59 #[.agg #[.slice (some ⟨g, 0, none⟩) n c, .bool own], .int .i64 s] w (Two w (.int .i64 0) false) := by
  have HA := hide ha
  have HN := hide hno
  clear ha hno
  go_enter Try.func59, Try.ntmps59
  go_wp2_with fail
  refine (solutions_bad _ _ _ f _ _ _ hn HN.out (HA.out.alloc _)).mono ?_
  rintro e w1 ⟨rfl, hb1⟩
  have HB1 := hide ((by go_grown : Below w.heap.size w _).trans (hb1.mono (by simp)))
  clear hb1
  go_wp2
  go_ret2
  exact ⟨rfl, HB1.out⟩
theorem leastImpl_ok (g n c : Nat) (F : Nat → Nat) (own : Bool) (q : Nat) (w : World) (hn : n ≤ 16) (hF : ∀ j, j < n → F j < 2 ^ n) (hq : q < 2 ^ n) (hset : setB n (nv F) q = true) (ha : Arr w 3 g n (iv (nv F))) :
    Calls Try.prog 59 #[.agg #[.slice (some ⟨g, 0, none⟩) n c, .bool own], .int .i64 q] w (Two w (.int .i64 (leastV (tog F own) n q : Nat)) (solB (tog F own) n q)) := by
  have HA := hide ha
  have HF := hide hF
  have HSet := hide hset
  have HLt := hide (solL_lt (T := tog F own) (q := q) hn)
  have hqs := qS_fit hn (tog_all (own := own) hF)
  clear ha hF hset
  cases hsol : solB (tog F own) n q
  · have HSol := hide hsol
    have HV : Hid (leastV (tog F own) n q = 0) := hide (by rw [leastV, hsol]; rfl)
    clear hsol
    go_enter Try.func59, Try.ntmps59
    go_wp2_with fail
    refine (solutions_no _ _ _ F _ _ _ hn HF.out hq HSet.out HSol.out (HA.out.alloc _)).mono ?_
    rintro e w1 ⟨rfl, hb1⟩
    have HB1 := hide ((by go_grown : Below w.heap.size w _).trans (hb1.mono (by simp)))
    clear hb1
    go_wp2
    go_ret2
    exact ⟨by rw [HV.out]; rfl, HB1.out⟩
  · have HSol := hide hsol
    have hLL : solL (tog F own) n q = (sums (qS (tog F own) n n).1).map (fun s => s ^^^ solV (tog F own) n q) := by rw [solL, hsol]; rfl
    have hlen : (solL (tog F own) n q).length = 2 ^ (qS (tog F own) n n).1.length := by rw [solL_length, hsol]; rfl
    have hp0 := Nat.two_pow_pos (qS (tog F own) n n).1.length
    have hp1 := two_pow_le16 hqs
    have HV : Hid (leastV (tog F own) n q = minTo (solL (tog F own) n q) (solL (tog F own) n q).length) := hide (by rw [leastV, hsol]; rfl)
    obtain ⟨L, hL⟩ : ∃ L, solL (tog F own) n q = L := ⟨_, rfl⟩
    rw [hL] at HV HLt hlen hLL
    have HLL := hide hLL
    have hl0 : 0 < L.length := by omega
    have hl1 : L.length ≤ 65536 := by omega
    have HL0 := hide hl0
    have HL1 := hide hl1
    clear hsol hLL hlen hp0 hp1 hL hl0 hl1 hqs
    go_enter Try.func59, Try.ntmps59
    go_wp2_with fail
    refine (solutions_yes _ _ _ F _ _ _ hn HF.out hq HSet.out HSol.out (HA.out.alloc _)).mono ?_
    rintro e w1 ⟨A, d, m, rfl, hm, ho, hb1⟩
    rw [← HLL.out] at hm ho
    have hm0 : 0 < m := by have := HL0.out; omega
    have hm2 : m ≤ 1048576 := by have := HL1.out; omega
    have hmz : ((m : Int) == 0) = false := nat_ne0 (by omega)
    have HM := hide hm
    have HO := hide ho
    have HB1 := hide ((by go_grown : Below w.heap.size w _).trans (hb1.mono (by simp)))
    clear hm ho hb1
    go_wp2_with fail
    refine (minFunc_any _ _ _ L _ HLt.out HM.out hm0 hm2 (HO.out.src HM.out)).mono ?_
    rintro e w2 ⟨rfl, rfl⟩
    go_wp2
    go_ret2
    exact ⟨by rw [HV.out, HM.out]; rfl, HB1.out⟩
end Go.Proofs.Ytodbhokokdckkaa
