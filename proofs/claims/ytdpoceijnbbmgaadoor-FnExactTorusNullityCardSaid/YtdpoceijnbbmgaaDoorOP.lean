/-
The map of a polynomial: the model's side, and the statement of MapOfPoly, walked.
-/
import Derived.Test.YtdpoceijnbbmgaaDoorOP3
namespace Go.Proofs.YtdpoceijnbbmgaaDoor
open Go.RowKit
set_option maxHeartbeats 4000000
/-- The first k sets of one number. -/
def onL (k : Nat) : List Nat := (List.range k).map fun i => 2 ^ i
theorem onL_succ (k : Nat) : onL (k + 1) = onL k ++ [2 ^ k] := by simp [onL, List.range_succ]
theorem onL_len (k : Nat) : (onL k).length = k := by simp [onL]
theorem onL_get (m k : Nat) (h : k < m) : (onL m).getD k 0 = 2 ^ k := by simp [onL, h]
theorem wr40 {k : Nat} (h : k ≤ 40) : RowKit.wrap64 ((2 : Int) ^ k) = ((2 ^ k : Nat) : Int) := by
  have hp : (2 : Nat) ^ k ≤ 1099511627776 := Nat.pow_le_pow_right (n := 2) (j := 40) (by decide) h
  rw [pow_i]
  generalize 2 ^ k = P at *
  exact IntWalk.wrap64_in _ (by omega)
theorem prOne_any (n : Nat) (w : World) (h1 : 1 ≤ n) (hn : n ≤ 40) : Calls Tryd.prog 92 #[.int .i64 n] w (NewArr w n (nv fun i => 2 ^ i)) := by
  go_enter Tryd.func92, Tryd.ntmps92
  go_wp2
  go_loopw [3, 4] (fun o i wr => ∃ (k d : Nat) (A : Option Addr), k ≤ n ∧ i = .int .i64 k ∧ o = .slice A k d ∧ Hid (OL wr w.heap.size (.slice A k d) (onL k)) ∧ Below w.heap.size w wr) (fun _ i _ => n - (intOf i).toNat)
  case atStart => exact ⟨0, 0, none, by omega, rfl, rfl, hide (OL.nil _ _), Below.refl _ _⟩
  case round =>
    obtain ⟨k, d, A, hk, rfl, rfl, HO, hb⟩ := hrel
    have hsz := hb.size
    have HM := hide (onL_len k)
    have HL := hide (onL_succ k)
    have HB := hide hb
    by_cases hlt : k < n
    · have e1 := wr40 (k := k) (by omega)
      obtain ⟨y, hy⟩ : ∃ y, 2 ^ k = y := ⟨_, rfl⟩
      rw [hy] at HL e1
      have hk64 : (k : Int) < 64 := by omega
      clear hb hy
      go_wp2_with (first | (at_builtin; refine wpList_append_nat _ rfl _ _ rfl w.heap.size A d k (onL k) y wr.heap.size rfl (HO.out.alloc _) HM.out rfl (by simp [go_sem]) (by omega) (by simp; omega) ?_; intro A2 c2 w5 ho2 hb2; have HO2 := hide ho2; have HB2 := hide hb2; clear ho2 hb2))
      go_roundw
      case rel => exact ⟨k + 1, c2, A2, by omega, by go_num, rfl, hide (by rw [HL.out]; exact HO2.out), (HB.out.alloc (by omega) _).trans HB2.out⟩
      case measure => simp [intOf]; omega
    · have hkn : k = n := by omega
      subst hkn
      obtain ⟨g2, hA2, hlo, ha2⟩ := own_arr (w := w) (S := fun i => 2 ^ i) (by omega) HM.out (fun j hj => onL_get k j hj) HO.out
      subst hA2
      have HA2 := hide ha2
      clear ha2 hb
      go_wp2
      go_ret
      exact ⟨g2, d, rfl, hlo, HA2.out, HB.out⟩
theorem poGood_any (s : Int) (w : World) :
    Calls Tryd.prog 56 #[.int .i64 s] w fun e w' => e = .returned (.bool (inB s 0 2199023255551)) ∧ w' = w := by
  go_enter Tryd.func56, Tryd.ntmps56
  go_wp2_with (first | (go_at_call 46; refine (l1InG_any _ _ _ _).mono ?_; rintro e w' ⟨rfl, rfl⟩))
  go_ret
  exact ⟨rfl, rfl⟩
theorem prPoly_any (A : Option Addr) (n c p : Nat) (M : Nat → Nat) (w : World) (h1 : 1 ≤ n) (hn : n ≤ 40) (hp : p < 2199023255552) (hs : Src w A n (iv (nv M))) (hM : ∀ i, i < n → M i < 2 ^ n) :
    Calls Tryd.prog 57 #[.slice A n c, .int .i64 p] w (NewArr w n (nv fun j => pm n M p (bl p) j)) := by
  have hmk := run_make_row' (P := Tryd.prog) 22 3 (.int .i64 0) 8 Tryd.underlying22 int_info rfl .i64 .i64 n (by omega) (by omega)
  have hn40 : (2 : Nat) ^ n ≤ 1099511627776 := Nat.pow_le_pow_right (n := 2) (j := 40) (by decide) hn
  have hbl : bl p ≤ 41 := bl_le.2 hp
  have hpb : p < 4611686018427387904 := by omega
  have HS := hide hs
  have HM := hide hM
  obtain ⟨b, hb0⟩ : ∃ b, bl p = b := ⟨_, rfl⟩
  rw [hb0] at hbl ⊢
  have HB0 := hide hb0
  have hp0 : (0 : Int) ≤ (p : Int) := by omega
  have HHO : Hid (∀ k j, k < b → ho n M p b k j = effN M (ho n M p b (k + 1) j) n ^^^ (if p.testBit k then 2 ^ j else 0)) := hide fun k j hk => ho_step hk
  have HLT : Hid (∀ k j, j < n → ho n M p b k j < 2 ^ n) := hide fun k j hj => ho_lt hM p b k j hj
  clear hs hM hb0
  go_enter Tryd.func57, Tryd.ntmps57
  go_wp2_with (first | (go_at_call 90; refine (T.poDegree_any p _ hpb).mono ?_; rintro e w' ⟨rfl, hw⟩; subst w'; rw [HB0.out]))
  go_loopw [5, 6] (fun o i wr => ∃ (k g d : Nat), k ≤ b ∧ i = .int .i64 ((k : Int) - 1) ∧ o = .slice (some ⟨g, 0, none⟩) n d ∧ w.heap.size ≤ g ∧ Hid (Arr wr 3 g n (iv (nv fun j => ho n M p b k j))) ∧ Hid (Below w.heap.size w wr)) (fun _ i _ => (intOf i + 1).toNat)
  case atStart => exact ⟨b, w.heap.size, n, Nat.le_refl _, rfl, rfl, Nat.le_refl _, hide ((Arr.made w _ n 3).congr (fun j hj => by simp only [iv, nv]; rw [ho_top]; rfl)), hide (by go_grown)⟩
  case round =>
    obtain ⟨k, g, d, hk, rfl, rfl, hg, HA, HB⟩ := hrel
    have hsz := HB.out.size
    by_cases h0 : k = 0
    · subst h0
      go_wp2
      go_ret
      exact ⟨g, d, rfl, hg, HA.out.congr (fun j _ => by simp only [iv, nv]; rw [ho_end]), HB.out⟩
    · obtain ⟨q, hq⟩ : ∃ q, k = q + 1 := ⟨k - 1, by omega⟩
      subst hq
      have e1 : ((q + 1 : Nat) : Int) - 1 = (q : Int) := by omega
      have HH := hide (fun j => HHO.out q j (by omega))
      have hL1 := fun j hj => HLT.out (q + 1) j hj
      have HL1 := hide hL1
      obtain ⟨H, hH⟩ : ∃ H, (fun j => ho n M p b (q + 1) j) = H := ⟨_, rfl⟩
      have HAH : Hid (Arr wr 3 g n (iv (nv H))) := hide (by rw [← hH]; exact HA.out)
      have HLH : Hid (∀ j, j < n → H j < 2 ^ n) := hide (by intro j hj; rw [← hH]; exact hL1 j hj)
      have HHq : Hid (∀ j, ho n M p b q j = effN M (H j) n ^^^ (if p.testBit q then 2 ^ j else 0)) := hide (by intro j; rw [← hH]; exact HH.out j)
      have hq64 : (q : Int) < 64 := by omega
      have hq0 : ¬ ((q : Int) < 0) := by omega
      clear hH hL1 HA HH HL1
      cases hbit : p.testBit q
      · have HBit : Hid (bt (p : Int) q = false) := hide (by rw [bt_nat]; exact hbit)
        have HN : Hid (∀ j, ho n M p b q j = effN M (H j) n) := hide (by intro j; rw [HHq.out j, hbit]; simp)
        clear hbit HHq
        try simp only [e1]
        go_wp2_with (first | (go_at_call 52; refine (prCompose_any A (some ⟨g, 0, none⟩) n n c d M H _ h1 hn (by omega) (HS.out.below HB.out) (Src.of_arr HAH.out) HM.out HLH.out).mono ?_; rintro e w3 ⟨g3, d3, rfl, hlo3, ha3, hb3⟩; have HA3 := hide ha3; have HB3 := hide (HB.out.trans (hb3.mono hsz)); clear ha3 hb3) | (go_at_call 79; refine (grInG_any _ _ hp0 (by omega) (by omega) _).mono ?_; rintro e w' ⟨rfl, hw⟩; subst w'; simp only [Int.toNat_natCast, HBit.out]))
        go_roundw
        case rel => exact ⟨q, g3, d3, by omega, by go_num, rfl, by omega, hide (HA3.out.congr (fun j _ => by simp only [iv, nv]; rw [HN.out j])), HB3⟩
        case measure => simp [intOf] <;> omega
      · have HBit : Hid (bt (p : Int) q = true) := hide (by rw [bt_nat]; exact hbit)
        have HN : Hid (∀ j, ho n M p b q j = effN M (H j) n ^^^ 2 ^ j) := hide (by intro j; rw [HHq.out j, hbit]; simp)
        have HE1 : Hid (∀ i, i < n → effN M (H i) n < 4611686018427387904) := hide fun i hi => by have := effN_lt HM.out (H i) n (Nat.le_refl _); omega
        have HE2 : Hid (∀ i, i < n → 2 ^ i < 4611686018427387904) := hide fun i hi => by have : 2 ^ i < 2 ^ n := Nat.pow_lt_pow_right (by decide) hi; omega
        clear hbit HHq
        try simp only [e1]
        go_wp2_with (first | (go_at_call 52; refine (prCompose_any A (some ⟨g, 0, none⟩) n n c d M H _ h1 hn (by omega) (HS.out.below HB.out) (Src.of_arr HAH.out) HM.out HLH.out).mono ?_; rintro e w3 ⟨g3, d3, rfl, hlo3, ha3, hb3⟩; have HA3 := hide ha3; have HB3 := hide (HB.out.trans (hb3.mono hsz)); have hz3 := HB3.out.size; clear ha3 hb3) | (go_at_call 79; refine (grInG_any _ _ hp0 (by omega) (by omega) _).mono ?_; rintro e w' ⟨rfl, hw⟩; subst w'; simp only [Int.toNat_natCast, HBit.out]) | (go_at_call 92; refine (prOne_any n _ h1 hn).mono ?_; rintro e w4 ⟨g4, d4, rfl, hlo4, ha4, hb4⟩; have HA4 := hide ha4; have HA3b := hide (HA3.out.all hb4); have HB4 := hide (HB3.out.trans (hb4.mono hz3)); have hz4 := HB4.out.size; clear ha4 hb4) | (go_at_call 91; refine (prAdd_any (some ⟨g3, 0, none⟩) (some ⟨g4, 0, none⟩) n d3 d4 _ (fun i => 2 ^ i) _ (by omega) (by omega) (Src.of_arr HA3b.out) (Src.of_arr HA4.out) HE1.out HE2.out).mono ?_; rintro e w5 ⟨g5, d5, rfl, hlo5, ha5, hb5⟩; have HA5 := hide ha5; have HB5 := hide (HB4.out.trans (hb5.mono hz4)); clear ha5 hb5))
        go_roundw
        case rel => exact ⟨q, g5, d5, by omega, by go_num, rfl, by omega, hide (HA5.out.congr (fun j _ => by simp only [iv, nv]; rw [HN.out j])), HB5⟩
        case measure => simp [intOf] <;> omega
theorem mpSpec_a (A : Option Addr) (n c : Nat) (f : Nat → Int) (x : Int) (w : World) (hn : n ≤ 1048576) (hs : Src w A n (iv f)) (h : mapB n f = false) :
    Calls Tryd.prog 26 #[.slice A n c, .int .i64 x] w (NoRes w) := by
  have HS := hide hs
  have H := hide h
  clear hs h
  go_enter Tryd.func26, Tryd.ntmps26
  go_wp2_with fail
  refine (prGood_any _ _ _ f _ (by omega) HS.out).mono ?_
  rintro e w1 ⟨rfl, hw⟩
  subst w1
  have hb1 : Below w.heap.size w w := Below.refl _ _
  rw [H.out]
  go_wp2
  go_ret2
  exact ⟨rfl, hb1⟩
theorem mpSpec_b (A : Option Addr) (n c : Nat) (F : Nat → Nat) (x : Int) (w : World) (h1 : 1 ≤ n) (hn16 : n ≤ 16) (hF : ∀ k, k < n → F k < 2 ^ n) (hs : Src w A n (iv (nv F))) (hx : inB x 0 2199023255551 = false) :
    Calls Tryd.prog 26 #[.slice A n c, .int .i64 x] w (NoRes w) := by
  have HS := hide hs
  have H := hide (mapB_of h1 hn16 hF)
  have HX := hide hx
  clear hs hF hx
  go_enter Tryd.func26, Tryd.ntmps26
  go_wp2_with fail
  refine (prGood_any _ _ _ (nv F) _ (by omega) HS.out).mono ?_
  rintro e w1 ⟨rfl, hw⟩
  subst w1
  have hb1 : Below w.heap.size w w := Below.refl _ _
  rw [H.out]
  go_wp2_with fail
  refine (poGood_any _ _).mono ?_
  rintro e w' ⟨rfl, hw⟩
  subst w'
  rw [HX.out]
  go_wp2
  go_ret2
  exact ⟨rfl, hb1⟩
theorem mpSpec_ok (A : Option Addr) (n c p : Nat) (F : Nat → Nat) (w : World) (h1 : 1 ≤ n) (hn16 : n ≤ 16) (hF : ∀ k, k < n → F k < 2 ^ n) (hs : Src w A n (iv (nv F))) (hp : p < 2199023255552) (hx : inB (p : Nat) 0 2199023255551 = true) :
    Calls Tryd.prog 26 #[.slice A n c, .int .i64 p] w (ArrRes w n (nv fun j => pm n F p (bl p) j)) := by
  have HS := hide hs
  have H := hide (mapB_of h1 hn16 hF)
  have HX := hide hx
  have HF := hide hF

  clear hs hF hx
  go_enter Tryd.func26, Tryd.ntmps26
  go_wp2_with fail
  refine (prGood_any _ _ _ (nv F) _ (by omega) HS.out).mono ?_
  rintro e w1 ⟨rfl, hw⟩
  subst w1
  have hb1 : Below w.heap.size w w := Below.refl _ _
  rw [H.out]
  go_wp2_with fail
  refine (poGood_any _ _).mono ?_
  rintro e w' ⟨rfl, hw⟩
  subst w'
  rw [HX.out]
  go_wp2_with fail
  refine (prPoly_any A n c p F _ h1 (by omega) hp HS.out HF.out).mono ?_
  rintro e w2 ⟨g, d, rfl, hg, ha, hb2⟩
  go_wp2
  go_ret2
  exact ⟨g, d, rfl, hg, ha, hb2⟩
theorem mpImpl_a (A : Option Addr) (n c : Nat) (f : Nat → Int) (x : Int) (w : World) (hn : n ≤ 1048576) (hs : Src w A n (iv f)) (h : mapB n f = false) :
    Calls Tryd.prog 27 #[.slice A n c, .int .i64 x] w (NoRes w) := by
  have HS := hide hs
  have H := hide h
  clear hs h
  go_enter Tryd.func27, Tryd.ntmps27
  go_wp2_with fail
  refine (isMap_any _ _ _ f _ (by omega) HS.out).mono ?_
  rintro e w1 ⟨rfl, hb1⟩
  rw [H.out]
  go_wp2
  go_ret2
  exact ⟨rfl, hb1⟩
theorem mpImpl_b (A : Option Addr) (n c : Nat) (F : Nat → Nat) (x : Int) (w : World) (h1 : 1 ≤ n) (hn16 : n ≤ 16) (hF : ∀ k, k < n → F k < 2 ^ n) (hs : Src w A n (iv (nv F))) (hx : inB x 0 2199023255551 = false) :
    Calls Tryd.prog 27 #[.slice A n c, .int .i64 x] w (NoRes w) := by
  have HS := hide hs
  have H := hide (mapB_of h1 hn16 hF)
  have HX := hide hx
  clear hs hF hx
  go_enter Tryd.func27, Tryd.ntmps27
  go_wp2_with fail
  refine (isMap_any _ _ _ (nv F) _ (by omega) HS.out).mono ?_
  rintro e w1 ⟨rfl, hb1⟩
  rw [H.out]
  go_wp2_with fail
  refine (T.isPoly_any _ _).mono ?_
  rintro e w' ⟨rfl, hw⟩
  subst w'
  rw [HX.out]
  go_wp2
  go_ret2
  exact ⟨rfl, hb1⟩
theorem mpImpl_ok (A : Option Addr) (n c p : Nat) (F : Nat → Nat) (w : World) (h1 : 1 ≤ n) (hn16 : n ≤ 16) (hF : ∀ k, k < n → F k < 2 ^ n) (hT : Tab w) (hs : Src w A n (iv (nv F))) (hp : p < 2199023255552) (hx : inB (p : Nat) 0 2199023255551 = true) :
    Calls Tryd.prog 27 #[.slice A n c, .int .i64 p] w (ArrRes w n (nv fun j => pm n F p (bl p) j)) := by
  have HS := hide hs
  have H := hide (mapB_of h1 hn16 hF)
  have HX := hide hx
  have HF := hide hF
  have HT := hide hT
  clear hs hF hx hT
  go_enter Tryd.func27, Tryd.ntmps27
  go_wp2_with fail
  refine (isMap_any _ _ _ (nv F) _ (by omega) HS.out).mono ?_
  rintro e w1 ⟨rfl, hb1⟩
  rw [H.out]
  go_wp2_with fail
  refine (T.isPoly_any _ _).mono ?_
  rintro e w' ⟨rfl, hw⟩
  subst w'
  rw [HX.out]
  go_wp2_with fail
  refine (setMapWith_any _ _ _ F _ (by omega) (HS.out.below hb1)).mono ?_
  rintro e w2 ⟨g, rfl, hg, ha, hb2⟩
  have HA := hide ha
  have HB := hide (hb1.trans (hb2.mono hb1.size))
  clear ha hb1 hb2
  go_wp2_with fail
  refine (ofPoly_any (some ⟨g, 0, none⟩) n n p F _ h1 (by omega) hp (HT.out.below HB.out) (Src.of_arr HA.out) HF.out).mono ?_
  rintro e w3 ⟨g3, rfl, hg3, ha3, hb3⟩
  have HA3 := hide ha3
  have HB3 := hide (HB.out.trans (hb3.mono HB.out.size))
  clear ha3 hb3
  go_wp2_with fail
  refine (mapList_any _ _ _ (fun j => pm n F p (bl p) j) _ (by omega) (Src.of_arr HA3.out)).mono ?_
  rintro e w5 ⟨g5, rfl, hl5, ha5, hb5⟩
  have hz4 := HB3.out.size
  have HB5 := hide (HB3.out.trans (hb5.mono hz4))
  go_wp2
  go_ret2
  exact ⟨g5, n, rfl, by omega, ha5, HB5.out⟩
theorem lawMP_arr (A1 : Option Addr) (n1 c1 : Nat) (f1 : Nat → Int) (x2 : Int) (m : Nat) (F : Nat → Int) (hm : m ≤ 1048576) (w : World) (hm1 : n1 ≤ 1048576) (HSP : Hid (∀ (A1 : Option Addr) (c1 : Nat) (w : World), Src w A1 n1 (iv f1) → Calls Tryd.prog 26 #[.slice A1 n1 c1, .int .i64 x2] w (ArrRes w m F))) (HIM : Hid (∀ (A1 : Option Addr) (c1 : Nat) (w : World), Tab w → Src w A1 n1 (iv f1) → Calls Tryd.prog 27 #[.slice A1 n1 c1, .int .i64 x2] w (ArrRes w m F))) (HS_A1 : Hid (Src w A1 n1 (iv f1))) (HT : Hid (Tab w)) :
    Calls Tryd.prog 6 #[.slice A1 n1 c1, .int .i64 x2] w fun e w' => e = .returned (.bool true) ∧ Below w.heap.size w w' := by
  go_enter Tryd.func6, Tryd.ntmps6
  go_wp2_with fail
  refine (toIntS_new _ _ _ f1 _ hm1 (by first | exact HS_A1.out | exact Src.alloc HS_A1.out _ | exact Src.alloc (Src.alloc HS_A1.out _) _ | exact Src.drew HS_A1.out)).mono ?_
  rintro e w1 ⟨g1, rfl, lo_g1, ha_r, hb1⟩
  try simp only [World.size_alloc] at lo_g1
  have hs1 : Below w.heap.size w w1 := (by go_grown : Below w.heap.size w _).trans (hb1.mono (by go_size))
  have z1 : w.heap.size ≤ w1.heap.size := hs1.size
  have HW1 := hide hs1
  have HA_a1_1 := hide ha_r
  have hi_a1_1 : g1 < w1.heap.size := ha_r.lt
  clear ha_r hb1 hs1
  go_wp2_with fail
  refine (HSP.out _ _ _ (by first | exact Src.of_arr HA_a1_1.out | exact Src.of_arr (HA_a1_1.out.alloc _) | exact Src.of_arr ((HA_a1_1.out.alloc _).alloc _) | exact Src.of_arr HA_a1_1.out.drew)).mono ?_
  rintro e w2 ⟨g2, c_g2, rfl, lo_g2, ha_r, hb2⟩
  try simp only [World.size_alloc] at lo_g2
  have hs2 : Below w1.heap.size w1 w2 := (by go_grown : Below w1.heap.size w1 _).trans (hb2.mono (by go_size))
  have z2 : w1.heap.size ≤ w2.heap.size := hs2.size
  have HW2 := hide (HW1.out.trans (hs2.mono HW1.out.size))
  have HA_a1_2 := hide (HA_a1_1.out.all hs2)
  have HA_s_2 := hide ha_r
  have hi_s_2 : g2 < w2.heap.size := ha_r.lt
  clear HA_a1_1 ha_r hb2 hs2
  go_wp2_with fail
  refine (toIntS_new _ _ _ f1 _ hm1 (by first | exact (HS_A1.out.below HW2.out) | exact Src.alloc (HS_A1.out.below HW2.out) _ | exact Src.alloc (Src.alloc (HS_A1.out.below HW2.out) _) _ | exact Src.drew (HS_A1.out.below HW2.out))).mono ?_
  rintro e w3 ⟨g3, rfl, lo_g3, ha_r, hb3⟩
  try simp only [World.size_alloc] at lo_g3
  have hs3 : Below w2.heap.size w2 w3 := (by go_grown : Below w2.heap.size w2 _).trans (hb3.mono (by go_size))
  have z3 : w2.heap.size ≤ w3.heap.size := hs3.size
  have HW3 := hide (HW2.out.trans (hs3.mono HW2.out.size))
  have HA_a1_3 := hide (HA_a1_2.out.all hs3)
  have HA_s_3 := hide (HA_s_2.out.all hs3)
  have HA_x1_3 := hide ha_r
  have hi_x1_3 : g3 < w3.heap.size := ha_r.lt
  clear HA_a1_2 HA_s_2 ha_r hb3 hs3
  go_wp2_with fail
  refine (HIM.out _ _ _ (by first | exact (HT.out.below HW3.out) | exact Tab.below (HT.out.below HW3.out) (by go_grown)) (by first | exact Src.of_arr HA_x1_3.out | exact Src.of_arr (HA_x1_3.out.alloc _) | exact Src.of_arr ((HA_x1_3.out.alloc _).alloc _) | exact Src.of_arr HA_x1_3.out.drew)).mono ?_
  rintro e w4 ⟨g4, c_g4, rfl, lo_g4, ha_r, hb4⟩
  try simp only [World.size_alloc] at lo_g4
  have hs4 : Below w3.heap.size w3 w4 := (by go_grown : Below w3.heap.size w3 _).trans (hb4.mono (by go_size))
  have z4 : w3.heap.size ≤ w4.heap.size := hs4.size
  have HW4 := hide (HW3.out.trans (hs4.mono HW3.out.size))
  have HA_a1_4 := hide (HA_a1_3.out.all hs4)
  have HA_s_4 := hide (HA_s_3.out.all hs4)
  have HA_x1_4 := hide (HA_x1_3.out.all hs4)
  have HA_i_4 := hide ha_r
  have hi_i_4 : g4 < w4.heap.size := ha_r.lt
  clear HA_a1_3 HA_s_3 HA_x1_3 ha_r hb4 hs4
  go_wp2_with fail
  refine (eqIntS_below _ _ _ _ _ F _ hm (by first | exact Src.of_arr HA_i_4.out | exact Src.of_arr (HA_i_4.out.alloc _) | exact Src.of_arr ((HA_i_4.out.alloc _).alloc _) | exact Src.of_arr HA_i_4.out.drew) (by first | exact Src.of_arr HA_s_4.out | exact Src.of_arr (HA_s_4.out.alloc _) | exact Src.of_arr ((HA_s_4.out.alloc _).alloc _) | exact Src.of_arr HA_s_4.out.drew)).mono ?_
  rintro e w5 ⟨rfl, hb5⟩
  have hs5 : Below w4.heap.size w4 w5 := (by go_grown : Below w4.heap.size w4 _).trans (hb5.mono (by go_size))
  have z5 : w4.heap.size ≤ w5.heap.size := hs5.size
  have HW5 := hide (HW4.out.trans (hs5.mono HW4.out.size))
  have HA_a1_5 := hide (HA_a1_4.out.all hs5)
  have HA_s_5 := hide (HA_s_4.out.all hs5)
  have HA_x1_5 := hide (HA_x1_4.out.all hs5)
  have HA_i_5 := hide (HA_i_4.out.all hs5)
  clear HA_a1_4 HA_s_4 HA_x1_4 HA_i_4 hb5 hs5
  go_wp2_with fail
  refine (toIntS_new _ _ _ f1 _ hm1 (by first | exact (HS_A1.out.below HW5.out) | exact Src.alloc (HS_A1.out.below HW5.out) _ | exact Src.alloc (Src.alloc (HS_A1.out.below HW5.out) _) _ | exact Src.drew (HS_A1.out.below HW5.out))).mono ?_
  rintro e w6 ⟨g6, rfl, lo_g6, ha_r, hb6⟩
  try simp only [World.size_alloc] at lo_g6
  have hs6 : Below w5.heap.size w5 w6 := (by go_grown : Below w5.heap.size w5 _).trans (hb6.mono (by go_size))
  have z6 : w5.heap.size ≤ w6.heap.size := hs6.size
  have HW6 := hide (HW5.out.trans (hs6.mono HW5.out.size))
  have HA_a1_6 := hide (HA_a1_5.out.all hs6)
  have HA_s_6 := hide (HA_s_5.out.all hs6)
  have HA_x1_6 := hide (HA_x1_5.out.all hs6)
  have HA_i_6 := hide (HA_i_5.out.all hs6)
  have HA_z1_6 := hide ha_r
  have hi_z1_6 : g6 < w6.heap.size := ha_r.lt
  clear HA_a1_5 HA_s_5 HA_x1_5 HA_i_5 ha_r hb6 hs6
  go_wp2_with fail
  refine (eqIntS_below _ _ _ _ _ f1 _ hm1 (by first | exact Src.of_arr HA_x1_6.out | exact Src.of_arr (HA_x1_6.out.alloc _) | exact Src.of_arr ((HA_x1_6.out.alloc _).alloc _) | exact Src.of_arr HA_x1_6.out.drew) (by first | exact Src.of_arr HA_z1_6.out | exact Src.of_arr (HA_z1_6.out.alloc _) | exact Src.of_arr ((HA_z1_6.out.alloc _).alloc _) | exact Src.of_arr HA_z1_6.out.drew)).mono ?_
  rintro e w7 ⟨rfl, hb7⟩
  have hs7 : Below w6.heap.size w6 w7 := (by go_grown : Below w6.heap.size w6 _).trans (hb7.mono (by go_size))
  have z7 : w6.heap.size ≤ w7.heap.size := hs7.size
  have HW7 := hide (HW6.out.trans (hs7.mono HW6.out.size))
  have HA_a1_7 := hide (HA_a1_6.out.all hs7)
  have HA_s_7 := hide (HA_s_6.out.all hs7)
  have HA_x1_7 := hide (HA_x1_6.out.all hs7)
  have HA_i_7 := hide (HA_i_6.out.all hs7)
  have HA_z1_7 := hide (HA_z1_6.out.all hs7)
  clear HA_a1_6 HA_s_6 HA_x1_6 HA_i_6 HA_z1_6 hb7 hs7
  go_wp2_with fail
  refine (markIntS_arr _ _ _ f1 _ _ hm1 (by omega) (by omega) (by first | exact HA_x1_7.out | exact HA_x1_7.out.alloc _ | exact (HA_x1_7.out.alloc _).alloc _ | exact HA_x1_7.out.drew)).mono ?_
  rintro e w8 ⟨rfl, ha_m, hb8⟩
  have hs8 : w7.grownBy w8 (some g3) := grownBy_trans (grownBy_of_below (by go_grown) _) hb8
  have z8 : w7.heap.size ≤ w8.heap.size := hs8.size
  have HW8 := hide (HW7.out.grown hs8 HW7.out.size (fun k hk => by injection hk with hk; have := HW7.out.size; omega))
  have HA_a1_8 := hide (HA_a1_7.out.of_block (hs8.block g1 (HA_a1_7.out.lt) (by intro h; injection h with h; omega)))
  have HA_s_8 := hide (HA_s_7.out.of_block (hs8.block g2 (HA_s_7.out.lt) (by intro h; injection h with h; omega)))
  have HA_i_8 := hide (HA_i_7.out.of_block (hs8.block g4 (HA_i_7.out.lt) (by intro h; injection h with h; omega)))
  have HA_z1_8 := hide (HA_z1_7.out.of_block (hs8.block g6 (HA_z1_7.out.lt) (by intro h; injection h with h; omega)))
  have HA_x1_8 := hide ha_m
  have hi_x1_8 : g3 < w8.heap.size := ha_m.lt
  clear HA_a1_7 HA_s_7 HA_i_7 HA_z1_7 ha_m hb8 hs8
  go_wp2_with fail
  refine (eqIntS_below _ _ _ _ _ F _ hm (by first | exact Src.of_arr HA_i_8.out | exact Src.of_arr (HA_i_8.out.alloc _) | exact Src.of_arr ((HA_i_8.out.alloc _).alloc _) | exact Src.of_arr HA_i_8.out.drew) (by first | exact Src.of_arr HA_s_8.out | exact Src.of_arr (HA_s_8.out.alloc _) | exact Src.of_arr ((HA_s_8.out.alloc _).alloc _) | exact Src.of_arr HA_s_8.out.drew)).mono ?_
  rintro e w9 ⟨rfl, hb9⟩
  have hs9 : Below w8.heap.size w8 w9 := (by go_grown : Below w8.heap.size w8 _).trans (hb9.mono (by go_size))
  have z9 : w8.heap.size ≤ w9.heap.size := hs9.size
  have HW9 := hide (HW8.out.trans (hs9.mono HW8.out.size))
  have HA_a1_9 := hide (HA_a1_8.out.all hs9)
  have HA_s_9 := hide (HA_s_8.out.all hs9)
  have HA_x1_9 := hide (HA_x1_8.out.all hs9)
  have HA_i_9 := hide (HA_i_8.out.all hs9)
  have HA_z1_9 := hide (HA_z1_8.out.all hs9)
  clear HA_a1_8 HA_s_8 HA_x1_8 HA_i_8 HA_z1_8 hb9 hs9
  go_wp2_with fail
  refine (markIntS_arr _ _ _ F _ _ hm (by omega) (by omega) (by first | exact HA_i_9.out | exact HA_i_9.out.alloc _ | exact (HA_i_9.out.alloc _).alloc _ | exact HA_i_9.out.drew)).mono ?_
  rintro e w10 ⟨rfl, ha_n, hb10⟩
  have hs10 : w9.grownBy w10 (some g4) := grownBy_trans (grownBy_of_below (by go_grown) _) hb10
  have z10 : w9.heap.size ≤ w10.heap.size := hs10.size
  have HW10 := hide (HW9.out.grown hs10 HW9.out.size (fun k hk => by injection hk with hk; have := HW9.out.size; omega))
  have HA_a1_10 := hide (HA_a1_9.out.of_block (hs10.block g1 (HA_a1_9.out.lt) (by intro h; injection h with h; omega)))
  have HA_s_10 := hide (HA_s_9.out.of_block (hs10.block g2 (HA_s_9.out.lt) (by intro h; injection h with h; omega)))
  have HA_x1_10 := hide (HA_x1_9.out.of_block (hs10.block g3 (HA_x1_9.out.lt) (by intro h; injection h with h; omega)))
  have HA_z1_10 := hide (HA_z1_9.out.of_block (hs10.block g6 (HA_z1_9.out.lt) (by intro h; injection h with h; omega)))
  have HA_i_10 := hide ha_n
  have hi_i_10 : g4 < w10.heap.size := ha_n.lt
  clear HA_a1_9 HA_s_9 HA_x1_9 HA_z1_9 ha_n hb10 hs10
  go_wp2_with fail
  refine (heldIntS_below _ _ _ _ _ hm (by omega) (by omega) (by first | exact Src.of_arr HA_i_10.out | exact Src.of_arr (HA_i_10.out.alloc _) | exact Src.of_arr ((HA_i_10.out.alloc _).alloc _) | exact Src.of_arr HA_i_10.out.drew)).mono ?_
  rintro e w11 ⟨rfl, hb11⟩
  have hs11 : Below w10.heap.size w10 w11 := (by go_grown : Below w10.heap.size w10 _).trans (hb11.mono (by go_size))
  have z11 : w10.heap.size ≤ w11.heap.size := hs11.size
  have HW11 := hide (HW10.out.trans (hs11.mono HW10.out.size))
  have HA_a1_11 := hide (HA_a1_10.out.all hs11)
  have HA_s_11 := hide (HA_s_10.out.all hs11)
  have HA_x1_11 := hide (HA_x1_10.out.all hs11)
  have HA_i_11 := hide (HA_i_10.out.all hs11)
  have HA_z1_11 := hide (HA_z1_10.out.all hs11)
  clear HA_a1_10 HA_s_10 HA_x1_10 HA_i_10 HA_z1_10 hb11 hs11
  go_wp2_with fail
  refine (toIntS_new _ _ _ f1 _ hm1 (by first | exact (HS_A1.out.below HW11.out) | exact Src.alloc (HS_A1.out.below HW11.out) _ | exact Src.alloc (Src.alloc (HS_A1.out.below HW11.out) _) _ | exact Src.drew (HS_A1.out.below HW11.out))).mono ?_
  rintro e w12 ⟨g12, rfl, lo_g12, ha_r, hb12⟩
  try simp only [World.size_alloc] at lo_g12
  have hs12 : Below w11.heap.size w11 w12 := (by go_grown : Below w11.heap.size w11 _).trans (hb12.mono (by go_size))
  have z12 : w11.heap.size ≤ w12.heap.size := hs12.size
  have HW12 := hide (HW11.out.trans (hs12.mono HW11.out.size))
  have HA_a1_12 := hide (HA_a1_11.out.all hs12)
  have HA_s_12 := hide (HA_s_11.out.all hs12)
  have HA_x1_12 := hide (HA_x1_11.out.all hs12)
  have HA_i_12 := hide (HA_i_11.out.all hs12)
  have HA_z1_12 := hide (HA_z1_11.out.all hs12)
  have HA_q1_12 := hide ha_r
  have hi_q1_12 : g12 < w12.heap.size := ha_r.lt
  clear HA_a1_11 HA_s_11 HA_x1_11 HA_i_11 HA_z1_11 ha_r hb12 hs12
  go_wp2_with fail
  refine (HIM.out _ _ _ (by first | exact (HT.out.below HW12.out) | exact Tab.below (HT.out.below HW12.out) (by go_grown)) (by first | exact Src.of_arr HA_q1_12.out | exact Src.of_arr (HA_q1_12.out.alloc _) | exact Src.of_arr ((HA_q1_12.out.alloc _).alloc _) | exact Src.of_arr HA_q1_12.out.drew)).mono ?_
  rintro e w13 ⟨g13, c_g13, rfl, lo_g13, ha_r, hb13⟩
  try simp only [World.size_alloc] at lo_g13
  have hs13 : Below w12.heap.size w12 w13 := (by go_grown : Below w12.heap.size w12 _).trans (hb13.mono (by go_size))
  have z13 : w12.heap.size ≤ w13.heap.size := hs13.size
  have HW13 := hide (HW12.out.trans (hs13.mono HW12.out.size))
  have HA_a1_13 := hide (HA_a1_12.out.all hs13)
  have HA_s_13 := hide (HA_s_12.out.all hs13)
  have HA_x1_13 := hide (HA_x1_12.out.all hs13)
  have HA_i_13 := hide (HA_i_12.out.all hs13)
  have HA_z1_13 := hide (HA_z1_12.out.all hs13)
  have HA_q1_13 := hide (HA_q1_12.out.all hs13)
  have HA_j_13 := hide ha_r
  have hi_j_13 : g13 < w13.heap.size := ha_r.lt
  clear HA_a1_12 HA_s_12 HA_x1_12 HA_i_12 HA_z1_12 HA_q1_12 ha_r hb13 hs13
  go_wp2_with fail
  refine (eqIntS_below _ _ _ _ _ F _ hm (by first | exact Src.of_arr HA_j_13.out | exact Src.of_arr (HA_j_13.out.alloc _) | exact Src.of_arr ((HA_j_13.out.alloc _).alloc _) | exact Src.of_arr HA_j_13.out.drew) (by first | exact Src.of_arr HA_s_13.out | exact Src.of_arr (HA_s_13.out.alloc _) | exact Src.of_arr ((HA_s_13.out.alloc _).alloc _) | exact Src.of_arr HA_s_13.out.drew)).mono ?_
  rintro e w14 ⟨rfl, hb14⟩
  have hs14 : Below w13.heap.size w13 w14 := (by go_grown : Below w13.heap.size w13 _).trans (hb14.mono (by go_size))
  have z14 : w13.heap.size ≤ w14.heap.size := hs14.size
  have HW14 := hide (HW13.out.trans (hs14.mono HW13.out.size))
  have HA_a1_14 := hide (HA_a1_13.out.all hs14)
  have HA_s_14 := hide (HA_s_13.out.all hs14)
  have HA_x1_14 := hide (HA_x1_13.out.all hs14)
  have HA_i_14 := hide (HA_i_13.out.all hs14)
  have HA_z1_14 := hide (HA_z1_13.out.all hs14)
  have HA_q1_14 := hide (HA_q1_13.out.all hs14)
  have HA_j_14 := hide (HA_j_13.out.all hs14)
  clear HA_a1_13 HA_s_13 HA_x1_13 HA_i_13 HA_z1_13 HA_q1_13 HA_j_13 hb14 hs14
  go_wp2_with fail
  refine (heldIntS_below _ _ _ _ _ hm (by omega) (by omega) (by first | exact Src.of_arr HA_i_14.out | exact Src.of_arr (HA_i_14.out.alloc _) | exact Src.of_arr ((HA_i_14.out.alloc _).alloc _) | exact Src.of_arr HA_i_14.out.drew)).mono ?_
  rintro e w15 ⟨rfl, hb15⟩
  have hs15 : Below w14.heap.size w14 w15 := (by go_grown : Below w14.heap.size w14 _).trans (hb15.mono (by go_size))
  have z15 : w14.heap.size ≤ w15.heap.size := hs15.size
  have HW15 := hide (HW14.out.trans (hs15.mono HW14.out.size))
  have HA_a1_15 := hide (HA_a1_14.out.all hs15)
  have HA_s_15 := hide (HA_s_14.out.all hs15)
  have HA_x1_15 := hide (HA_x1_14.out.all hs15)
  have HA_i_15 := hide (HA_i_14.out.all hs15)
  have HA_z1_15 := hide (HA_z1_14.out.all hs15)
  have HA_q1_15 := hide (HA_q1_14.out.all hs15)
  have HA_j_15 := hide (HA_j_14.out.all hs15)
  clear HA_a1_14 HA_s_14 HA_x1_14 HA_i_14 HA_z1_14 HA_q1_14 HA_j_14 hb15 hs15
  go_wp2
  go_ret
  exact ⟨rfl, by have h := HW15.out; have hz := h.size; go_grown⟩
theorem lawMP_no (A1 : Option Addr) (n1 c1 : Nat) (f1 : Nat → Int) (x2 : Int) (w : World) (hm1 : n1 ≤ 1048576) (HSP : Hid (∀ (A1 : Option Addr) (c1 : Nat) (w : World), Src w A1 n1 (iv f1) → Calls Tryd.prog 26 #[.slice A1 n1 c1, .int .i64 x2] w (NoRes w))) (HIM : Hid (∀ (A1 : Option Addr) (c1 : Nat) (w : World), Tab w → Src w A1 n1 (iv f1) → Calls Tryd.prog 27 #[.slice A1 n1 c1, .int .i64 x2] w (NoRes w))) (HS_A1 : Hid (Src w A1 n1 (iv f1))) (HT : Hid (Tab w)) :
    Calls Tryd.prog 6 #[.slice A1 n1 c1, .int .i64 x2] w fun e w' => e = .returned (.bool true) ∧ Below w.heap.size w w' := by
  go_enter Tryd.func6, Tryd.ntmps6
  go_wp2_with fail
  refine (toIntS_new _ _ _ f1 _ hm1 (by first | exact HS_A1.out | exact Src.alloc HS_A1.out _ | exact Src.alloc (Src.alloc HS_A1.out _) _ | exact Src.drew HS_A1.out)).mono ?_
  rintro e w1 ⟨g1, rfl, lo_g1, ha_r, hb1⟩
  try simp only [World.size_alloc] at lo_g1
  have hs1 : Below w.heap.size w w1 := (by go_grown : Below w.heap.size w _).trans (hb1.mono (by go_size))
  have z1 : w.heap.size ≤ w1.heap.size := hs1.size
  have HW1 := hide hs1
  have HA_a1_1 := hide ha_r
  have hi_a1_1 : g1 < w1.heap.size := ha_r.lt
  clear ha_r hb1 hs1
  go_wp2_with fail
  refine (HSP.out _ _ _ (by first | exact Src.of_arr HA_a1_1.out | exact Src.of_arr (HA_a1_1.out.alloc _) | exact Src.of_arr ((HA_a1_1.out.alloc _).alloc _) | exact Src.of_arr HA_a1_1.out.drew)).mono ?_
  rintro e w2 ⟨rfl, hb2⟩
  have hs2 : Below w1.heap.size w1 w2 := (by go_grown : Below w1.heap.size w1 _).trans (hb2.mono (by go_size))
  have z2 : w1.heap.size ≤ w2.heap.size := hs2.size
  have HW2 := hide (HW1.out.trans (hs2.mono HW1.out.size))
  have HA_a1_2 := hide (HA_a1_1.out.all hs2)
  clear HA_a1_1 hb2 hs2
  go_wp2_with fail
  refine (toIntS_new _ _ _ f1 _ hm1 (by first | exact (HS_A1.out.below HW2.out) | exact Src.alloc (HS_A1.out.below HW2.out) _ | exact Src.alloc (Src.alloc (HS_A1.out.below HW2.out) _) _ | exact Src.drew (HS_A1.out.below HW2.out))).mono ?_
  rintro e w3 ⟨g3, rfl, lo_g3, ha_r, hb3⟩
  try simp only [World.size_alloc] at lo_g3
  have hs3 : Below w2.heap.size w2 w3 := (by go_grown : Below w2.heap.size w2 _).trans (hb3.mono (by go_size))
  have z3 : w2.heap.size ≤ w3.heap.size := hs3.size
  have HW3 := hide (HW2.out.trans (hs3.mono HW2.out.size))
  have HA_a1_3 := hide (HA_a1_2.out.all hs3)
  have HA_x1_3 := hide ha_r
  have hi_x1_3 : g3 < w3.heap.size := ha_r.lt
  clear HA_a1_2 ha_r hb3 hs3
  go_wp2_with fail
  refine (HIM.out _ _ _ (by first | exact (HT.out.below HW3.out) | exact Tab.below (HT.out.below HW3.out) (by go_grown)) (by first | exact Src.of_arr HA_x1_3.out | exact Src.of_arr (HA_x1_3.out.alloc _) | exact Src.of_arr ((HA_x1_3.out.alloc _).alloc _) | exact Src.of_arr HA_x1_3.out.drew)).mono ?_
  rintro e w4 ⟨rfl, hb4⟩
  have hs4 : Below w3.heap.size w3 w4 := (by go_grown : Below w3.heap.size w3 _).trans (hb4.mono (by go_size))
  have z4 : w3.heap.size ≤ w4.heap.size := hs4.size
  have HW4 := hide (HW3.out.trans (hs4.mono HW3.out.size))
  have HA_a1_4 := hide (HA_a1_3.out.all hs4)
  have HA_x1_4 := hide (HA_x1_3.out.all hs4)
  clear HA_a1_3 HA_x1_3 hb4 hs4
  go_wp2_with fail
  refine (eqIntS_below _ _ _ _ _ (fun _ => 0) _ (by omega) Src.nil Src.nil).mono ?_
  rintro e w5 ⟨rfl, hb5⟩
  have hs5 : Below w4.heap.size w4 w5 := (by go_grown : Below w4.heap.size w4 _).trans (hb5.mono (by go_size))
  have z5 : w4.heap.size ≤ w5.heap.size := hs5.size
  have HW5 := hide (HW4.out.trans (hs5.mono HW4.out.size))
  have HA_a1_5 := hide (HA_a1_4.out.all hs5)
  have HA_x1_5 := hide (HA_x1_4.out.all hs5)
  clear HA_a1_4 HA_x1_4 hb5 hs5
  go_wp2_with fail
  refine (toIntS_new _ _ _ f1 _ hm1 (by first | exact (HS_A1.out.below HW5.out) | exact Src.alloc (HS_A1.out.below HW5.out) _ | exact Src.alloc (Src.alloc (HS_A1.out.below HW5.out) _) _ | exact Src.drew (HS_A1.out.below HW5.out))).mono ?_
  rintro e w6 ⟨g6, rfl, lo_g6, ha_r, hb6⟩
  try simp only [World.size_alloc] at lo_g6
  have hs6 : Below w5.heap.size w5 w6 := (by go_grown : Below w5.heap.size w5 _).trans (hb6.mono (by go_size))
  have z6 : w5.heap.size ≤ w6.heap.size := hs6.size
  have HW6 := hide (HW5.out.trans (hs6.mono HW5.out.size))
  have HA_a1_6 := hide (HA_a1_5.out.all hs6)
  have HA_x1_6 := hide (HA_x1_5.out.all hs6)
  have HA_z1_6 := hide ha_r
  have hi_z1_6 : g6 < w6.heap.size := ha_r.lt
  clear HA_a1_5 HA_x1_5 ha_r hb6 hs6
  go_wp2_with fail
  refine (eqIntS_below _ _ _ _ _ f1 _ hm1 (by first | exact Src.of_arr HA_x1_6.out | exact Src.of_arr (HA_x1_6.out.alloc _) | exact Src.of_arr ((HA_x1_6.out.alloc _).alloc _) | exact Src.of_arr HA_x1_6.out.drew) (by first | exact Src.of_arr HA_z1_6.out | exact Src.of_arr (HA_z1_6.out.alloc _) | exact Src.of_arr ((HA_z1_6.out.alloc _).alloc _) | exact Src.of_arr HA_z1_6.out.drew)).mono ?_
  rintro e w7 ⟨rfl, hb7⟩
  have hs7 : Below w6.heap.size w6 w7 := (by go_grown : Below w6.heap.size w6 _).trans (hb7.mono (by go_size))
  have z7 : w6.heap.size ≤ w7.heap.size := hs7.size
  have HW7 := hide (HW6.out.trans (hs7.mono HW6.out.size))
  have HA_a1_7 := hide (HA_a1_6.out.all hs7)
  have HA_x1_7 := hide (HA_x1_6.out.all hs7)
  have HA_z1_7 := hide (HA_z1_6.out.all hs7)
  clear HA_a1_6 HA_x1_6 HA_z1_6 hb7 hs7
  go_wp2_with fail
  refine (markIntS_arr _ _ _ f1 _ _ hm1 (by omega) (by omega) (by first | exact HA_x1_7.out | exact HA_x1_7.out.alloc _ | exact (HA_x1_7.out.alloc _).alloc _ | exact HA_x1_7.out.drew)).mono ?_
  rintro e w8 ⟨rfl, ha_m, hb8⟩
  have hs8 : w7.grownBy w8 (some g3) := grownBy_trans (grownBy_of_below (by go_grown) _) hb8
  have z8 : w7.heap.size ≤ w8.heap.size := hs8.size
  have HW8 := hide (HW7.out.grown hs8 HW7.out.size (fun k hk => by injection hk with hk; have := HW7.out.size; omega))
  have HA_a1_8 := hide (HA_a1_7.out.of_block (hs8.block g1 (HA_a1_7.out.lt) (by intro h; injection h with h; omega)))
  have HA_z1_8 := hide (HA_z1_7.out.of_block (hs8.block g6 (HA_z1_7.out.lt) (by intro h; injection h with h; omega)))
  have HA_x1_8 := hide ha_m
  have hi_x1_8 : g3 < w8.heap.size := ha_m.lt
  clear HA_a1_7 HA_z1_7 ha_m hb8 hs8
  go_wp2_with fail
  refine (eqIntS_below _ _ _ _ _ (fun _ => 0) _ (by omega) Src.nil Src.nil).mono ?_
  rintro e w9 ⟨rfl, hb9⟩
  have hs9 : Below w8.heap.size w8 w9 := (by go_grown : Below w8.heap.size w8 _).trans (hb9.mono (by go_size))
  have z9 : w8.heap.size ≤ w9.heap.size := hs9.size
  have HW9 := hide (HW8.out.trans (hs9.mono HW8.out.size))
  have HA_a1_9 := hide (HA_a1_8.out.all hs9)
  have HA_x1_9 := hide (HA_x1_8.out.all hs9)
  have HA_z1_9 := hide (HA_z1_8.out.all hs9)
  clear HA_a1_8 HA_x1_8 HA_z1_8 hb9 hs9
  go_wp2_with fail
  refine (markIntS_none_below _ _ _ _).mono ?_
  rintro e w10 ⟨rfl, hb10⟩
  have hs10 : Below w9.heap.size w9 w10 := (by go_grown : Below w9.heap.size w9 _).trans (hb10.mono (by go_size))
  have z10 : w9.heap.size ≤ w10.heap.size := hs10.size
  have HW10 := hide (HW9.out.trans (hs10.mono HW9.out.size))
  have HA_a1_10 := hide (HA_a1_9.out.all hs10)
  have HA_x1_10 := hide (HA_x1_9.out.all hs10)
  have HA_z1_10 := hide (HA_z1_9.out.all hs10)
  clear HA_a1_9 HA_x1_9 HA_z1_9 hb10 hs10
  go_wp2_with fail
  refine (heldIntS_below _ 0 _ _ _ (by omega) (by omega) (by omega) Src.nil).mono ?_
  rintro e w11 ⟨rfl, hb11⟩
  have hs11 : Below w10.heap.size w10 w11 := (by go_grown : Below w10.heap.size w10 _).trans (hb11.mono (by go_size))
  have z11 : w10.heap.size ≤ w11.heap.size := hs11.size
  have HW11 := hide (HW10.out.trans (hs11.mono HW10.out.size))
  have HA_a1_11 := hide (HA_a1_10.out.all hs11)
  have HA_x1_11 := hide (HA_x1_10.out.all hs11)
  have HA_z1_11 := hide (HA_z1_10.out.all hs11)
  clear HA_a1_10 HA_x1_10 HA_z1_10 hb11 hs11
  go_wp2_with fail
  refine (toIntS_new _ _ _ f1 _ hm1 (by first | exact (HS_A1.out.below HW11.out) | exact Src.alloc (HS_A1.out.below HW11.out) _ | exact Src.alloc (Src.alloc (HS_A1.out.below HW11.out) _) _ | exact Src.drew (HS_A1.out.below HW11.out))).mono ?_
  rintro e w12 ⟨g12, rfl, lo_g12, ha_r, hb12⟩
  try simp only [World.size_alloc] at lo_g12
  have hs12 : Below w11.heap.size w11 w12 := (by go_grown : Below w11.heap.size w11 _).trans (hb12.mono (by go_size))
  have z12 : w11.heap.size ≤ w12.heap.size := hs12.size
  have HW12 := hide (HW11.out.trans (hs12.mono HW11.out.size))
  have HA_a1_12 := hide (HA_a1_11.out.all hs12)
  have HA_x1_12 := hide (HA_x1_11.out.all hs12)
  have HA_z1_12 := hide (HA_z1_11.out.all hs12)
  have HA_q1_12 := hide ha_r
  have hi_q1_12 : g12 < w12.heap.size := ha_r.lt
  clear HA_a1_11 HA_x1_11 HA_z1_11 ha_r hb12 hs12
  go_wp2_with fail
  refine (HIM.out _ _ _ (by first | exact (HT.out.below HW12.out) | exact Tab.below (HT.out.below HW12.out) (by go_grown)) (by first | exact Src.of_arr HA_q1_12.out | exact Src.of_arr (HA_q1_12.out.alloc _) | exact Src.of_arr ((HA_q1_12.out.alloc _).alloc _) | exact Src.of_arr HA_q1_12.out.drew)).mono ?_
  rintro e w13 ⟨rfl, hb13⟩
  have hs13 : Below w12.heap.size w12 w13 := (by go_grown : Below w12.heap.size w12 _).trans (hb13.mono (by go_size))
  have z13 : w12.heap.size ≤ w13.heap.size := hs13.size
  have HW13 := hide (HW12.out.trans (hs13.mono HW12.out.size))
  have HA_a1_13 := hide (HA_a1_12.out.all hs13)
  have HA_x1_13 := hide (HA_x1_12.out.all hs13)
  have HA_z1_13 := hide (HA_z1_12.out.all hs13)
  have HA_q1_13 := hide (HA_q1_12.out.all hs13)
  clear HA_a1_12 HA_x1_12 HA_z1_12 HA_q1_12 hb13 hs13
  go_wp2_with fail
  refine (eqIntS_below _ _ _ _ _ (fun _ => 0) _ (by omega) Src.nil Src.nil).mono ?_
  rintro e w14 ⟨rfl, hb14⟩
  have hs14 : Below w13.heap.size w13 w14 := (by go_grown : Below w13.heap.size w13 _).trans (hb14.mono (by go_size))
  have z14 : w13.heap.size ≤ w14.heap.size := hs14.size
  have HW14 := hide (HW13.out.trans (hs14.mono HW13.out.size))
  have HA_a1_14 := hide (HA_a1_13.out.all hs14)
  have HA_x1_14 := hide (HA_x1_13.out.all hs14)
  have HA_z1_14 := hide (HA_z1_13.out.all hs14)
  have HA_q1_14 := hide (HA_q1_13.out.all hs14)
  clear HA_a1_13 HA_x1_13 HA_z1_13 HA_q1_13 hb14 hs14
  go_wp2_with fail
  refine (heldIntS_below _ 0 _ _ _ (by omega) (by omega) (by omega) Src.nil).mono ?_
  rintro e w15 ⟨rfl, hb15⟩
  have hs15 : Below w14.heap.size w14 w15 := (by go_grown : Below w14.heap.size w14 _).trans (hb15.mono (by go_size))
  have z15 : w14.heap.size ≤ w15.heap.size := hs15.size
  have HW15 := hide (HW14.out.trans (hs15.mono HW14.out.size))
  have HA_a1_15 := hide (HA_a1_14.out.all hs15)
  have HA_x1_15 := hide (HA_x1_14.out.all hs15)
  have HA_z1_15 := hide (HA_z1_14.out.all hs15)
  have HA_q1_15 := hide (HA_q1_14.out.all hs15)
  clear HA_a1_14 HA_x1_14 HA_z1_14 HA_q1_14 hb15 hs15
  go_wp2
  go_ret
  exact ⟨rfl, by have h := HW15.out; have hz := h.size; go_grown⟩
theorem lawMP_big1 (A1 : Option Addr) (n1 c1 : Nat) (f1 : Nat → Int) (x2 : Int) (w : World)  (hn1 : n1 ≤ 9223372036854775807) (hbig : 1048576 < n1) :
    Calls Tryd.prog 6 #[.slice A1 n1 c1, .int .i64 x2] w fun e w' => e = .returned (.bool true) ∧ Below w.heap.size w w' := by
  have hbig' : (1048576 : Int) < n1 := by omega
  go_enter Tryd.func6, Tryd.ntmps6
  go_wp2
  go_ret
  exact ⟨rfl, by go_grown⟩
theorem lawMapOfPoly (A1 : Option Addr) (n1 c1 : Nat) (f1 : Nat → Int) (x : Int) (w : World) (hn1 : n1 ≤ 9223372036854775807) (hs1 : Src w A1 n1 (iv f1)) (hT : Tab w) :
    Calls Tryd.prog 6 #[.slice A1 n1 c1, .int .i64 x] w fun e w' => e = .returned (.bool true) ∧ Below w.heap.size w w' := by
  by_cases b1 : 1048576 < n1
  · exact lawMP_big1 A1 n1 c1 f1 x w hn1 b1
  cases hk : mapB n1 f1
  · exact lawMP_no A1 n1 c1 f1 x w (by omega) (hide fun A1 c1 w h1 => mpSpec_a A1 n1 c1 f1 x w (by omega) h1 hk) (hide fun A1 c1 w _ h1 => mpImpl_a A1 n1 c1 f1 x w (by omega) h1 hk) (hide hs1) (hide hT)
  · obtain ⟨h1, h16, F, eF, hF⟩ := mapB_nat hk
    cases hx : inB x 0 2199023255551
    · exact lawMP_no A1 n1 c1 f1 x w (by omega) (hide fun A1 c1 w h1' => mpSpec_b A1 n1 c1 F x w h1 h16 hF (h1'.nat eF) hx) (hide fun A1 c1 w _ h1' => mpImpl_b A1 n1 c1 F x w h1 h16 hF (h1'.nat eF) hx) (hide hs1) (hide hT)
    · obtain ⟨p, rfl, hp⟩ := T.poly_nat hx
      exact lawMP_arr A1 n1 c1 f1 p n1 _ (by omega) w (by omega) (hide fun A1 c1 w h1' => mpSpec_ok A1 n1 c1 p F w h1 h16 hF (h1'.nat eF) hp hx) (hide fun A1 c1 w ht h1' => mpImpl_ok A1 n1 c1 p F w h1 h16 hF ht (h1'.nat eF) hp hx) (hide hs1) (hide hT)
end Go.Proofs.YtdpoceijnbbmgaaDoor
