import Derived.Test.YtcpbbpgiicakcaaWT
namespace Go.Proofs.Ytcpbbpgiicakcaa
open Go.RowKit
set_option maxHeartbeats 2000000
def ListOk (w : World) (L : List Nat) (e : Ending) (w' : World) : Prop :=
  ∃ (A : Option Addr) (m d : Nat), e = .returned (.tuple #[.slice A m d, .bool true]) ∧ L.length = m ∧ OL w' w.heap.size (.slice A m d) L ∧ Below w.heap.size w w'
def ListRead (w : World) (L : List Nat) (e : Ending) (w' : World) : Prop :=
  ∃ (A : Option Addr) (m d : Nat), e = .returned (.tuple #[.slice A m d, .bool true]) ∧ L.length = m ∧ Src w' A m (lv L) ∧ Below w.heap.size w w'
/-- The splits, as the bases tell them. -/
def splL (F : Nat → Nat) (n : Nat) : List Nat := (sums (qS (spT F (oddN F n)) n n).1).map (fun s => s ^^^ solV (spT F (oddN F n)) n (oddN F n))
theorem splL_length (F : Nat → Nat) (n : Nat) : (splL F n).length = 2 ^ (qS (spT F (oddN F n)) n n).1.length := by unfold splL; rw [List.length_map, sums_length]
theorem pow_big {q : Nat} (h : 8 < q) : 300 < 2 ^ q := Nat.lt_of_lt_of_le (by decide : 300 < 2 ^ 9) (Nat.pow_le_pow_right (by decide) h)
theorem pow_small {q : Nat} (h : q ≤ 8) : 2 ^ q ≤ 256 := Nat.pow_le_pow_right (n := 2) (j := 8) (by decide) h
/-! ### the program -/
theorem evsImpl_no (g n c : Nat) (f : Nat → Int) (own : Bool) (w : World) (hn : n ≤ 1048576) (hgd : goodB n f = false) (ha : Arr w 3 g n (iv f)) :
    Calls Try.prog 24 #[.agg #[.slice (some ⟨g, 0, none⟩) n c, .bool own]] w (Two w (.slice none 0 0) false) := by
  have HA := hide ha
  have HG := hide hgd
  clear ha hgd
  go_enter Try.func24, Try.ntmps24
  go_wp2_with fail
  refine (cEv_no _ _ _ f own _ hn HG.out (HA.out.alloc _)).mono ?_
  rintro e w1 ⟨rfl, hb1⟩
  have HB := hide ((by go_grown : Below w.heap.size w _).trans (hb1.mono (by simp)))
  clear hb1
  go_wp2
  go_ret2
  exact ⟨rfl, HB.out⟩
theorem evsImpl_big (g n c : Nat) (F : Nat → Nat) (own : Bool) (w : World) (hn : n ≤ 16) (hF : ∀ j, j < n → F j < 2 ^ n) (hgd : goodB n (nv F) = true) (h8 : 8 < (qS (spT F (oddN F n)) n n).1.length) (ha : Arr w 3 g n (iv (nv F))) :
    Calls Try.prog 24 #[.agg #[.slice (some ⟨g, 0, none⟩) n c, .bool own]] w (Two w (.slice none 0 0) false) := by
  have HA := hide ha
  have HG := hide hgd
  have HF := hide hF
  have hp := pow_big h8
  obtain ⟨p, hp0⟩ : ∃ p, 2 ^ (qS (spT F (oddN F n)) n n).1.length = p := ⟨_, rfl⟩
  rw [hp0] at hp
  have HP := hide hp0
  clear ha hgd hF hp0 h8
  go_enter Try.func24, Try.ntmps24
  go_wp2_with fail
  refine (cEv_ok _ _ _ F own _ hn HF.out HG.out (HA.out.alloc _)).mono ?_
  rintro e w1 ⟨rfl, hb1⟩
  simp only [HP.out]
  have HB := hide ((by go_grown : Below w.heap.size w _).trans (hb1.mono (by simp)))
  clear hb1
  go_wp2
  go_ret2
  exact ⟨rfl, HB.out⟩
theorem evsImpl_ok (g n c : Nat) (F : Nat → Nat) (own : Bool) (w : World) (hn : n ≤ 16) (hF : ∀ j, j < n → F j < 2 ^ n) (hgd : goodB n (nv F) = true) (h8 : (qS (spT F (oddN F n)) n n).1.length ≤ 8) (ha : Arr w 3 g n (iv (nv F))) :
    Calls Try.prog 24 #[.agg #[.slice (some ⟨g, 0, none⟩) n c, .bool own]] w (ListOk w (splL F n)) := by
  have HA := hide ha
  have HG := hide hgd
  have HF := hide hF
  have HF16 := hide (goodB_F hn hF)
  have hd := oddN_lt F n hn
  have hd16 : oddN F n < 65536 := Nat.lt_of_lt_of_le hd (pow16n hn)
  have HT := hide (spT_lt hF hd)
  have HY := hide (split_yes hF hd hgd)
  have HL : Hid (splL F n = (sums (qS (spT F (oddN F n)) n n).1).map (fun s => s ^^^ solV (spT F (oddN F n)) n (oddN F n))) := hide rfl
  have hp := pow_small h8
  obtain ⟨p, hp0⟩ : ∃ p, 2 ^ (qS (spT F (oddN F n)) n n).1.length = p := ⟨_, rfl⟩
  rw [hp0] at hp
  have HP := hide hp0
  obtain ⟨d, hd0⟩ : ∃ d, oddN F n = d := ⟨_, rfl⟩
  have HD := hide hd0
  rw [hd0] at hd hd16 HT HY HL
  clear ha hgd hF hp0 h8 hd0
  go_enter Try.func24, Try.ntmps24
  go_wp2_with fail
  refine (cEv_ok _ _ _ F own _ hn HF.out HG.out (HA.out.alloc _)).mono ?_
  rintro e w1 ⟨rfl, hb1⟩
  simp only [HP.out]
  have hp := (Arr.box w 28 (.slice (some ⟨g, 0, none⟩) n c) (.bool own)).all hb1
  have HX1 := hide hp
  have c0 : w1.cell? ⟨w.heap.size, 0, none⟩ = some (.slice (some ⟨g, 0, none⟩) n c) := hp.cell (by omega)
  have c1 : w1.cell? ⟨w.heap.size, 1, none⟩ = some (.bool own) := hp.cell (by omega)
  have HA1 := hide ((HA.out.alloc _).all hb1)
  have HB1 := hide ((by go_grown : Below w.heap.size w _).trans (hb1.mono (by simp)))
  clear hb1 hp
  go_wp2_with fail
  refine (oddB_any _ _ _ F own _ hn HF16.out HA1.out).mono ?_
  rintro e w2 ⟨rfl, hb2⟩
  rw [HD.out]
  have hp2 := HX1.out.all hb2
  have d0 : w2.cell? ⟨w.heap.size, 0, none⟩ = some (.slice (some ⟨g, 0, none⟩) n c) := hp2.cell (by omega)
  have d1 : w2.cell? ⟨w.heap.size, 1, none⟩ = some (.bool own) := hp2.cell (by omega)
  have HA2 := hide (HA1.out.all hb2)
  have HB2 := hide (HB1.out.trans (hb2.mono HB1.out.size))
  clear hb2 c0 c1 hp2
  go_wp2_with fail
  refine (split_any _ _ _ F own d _ hn HF16.out hd16 HA2.out).mono ?_
  rintro e w3 ⟨g3, rfl, ha3, hb3⟩
  have HA3 := hide ha3
  have HB3 := hide (HB2.out.trans (hb3.mono HB2.out.size))
  clear ha3 hb3 d0 d1
  go_wp2_with fail
  refine (solutions_yes _ _ _ (spT F d) d _ hn HT.out hd HY.out HA3.out).mono ?_
  rintro e w4 ⟨A, e4, m, rfl, hm, ho, hb4⟩
  rw [← HL.out] at hm ho
  have HM := hide hm
  have HO := hide (ho.mono HB3.out.size)
  have HB4 := hide (HB3.out.trans (hb4.mono HB3.out.size))
  clear hm ho hb4
  go_wp2
  go_ret2
  exact ⟨A, m, e4, rfl, HM.out, HO.out, HB4.out⟩
/-! ### the model -/
theorem evsSpec_no (g n c : Nat) (f : Nat → Int) (own : Bool) (w : World) (hn : n ≤ 1048576) (hgd : goodB n f = false) (ha : Arr w 3 g n (iv f)) :
    Calls Try.prog 23 #[.agg #[.slice (some ⟨g, 0, none⟩) n c, .bool own]] w (Two w (.slice none 0 0) false) := by
  have HA := hide ha
  have HG := hide hgd
  clear ha hgd
  go_enter Try.func23, Try.ntmps23
  go_wp2_with fail
  refine (grGood_any _ _ _ f _ _ hn (HA.out.alloc _)).mono ?_
  rintro e w1 ⟨rfl, hb1⟩
  simp only [HG.out]
  have HB1 := hide ((by go_grown : Below w.heap.size w _).trans (hb1.mono (by simp)))
  clear hb1
  go_wp2
  go_ret2
  exact ⟨rfl, HB1.out⟩
theorem evsSpec_big (g n c : Nat) (F : Nat → Nat) (own : Bool) (w : World) (hn : n ≤ 16) (hF : ∀ j, j < n → F j < 2 ^ n) (hgd : goodB n (nv F) = true) (h8 : 8 < (qS (spT F (oddN F n)) n n).1.length) (ha : Arr w 3 g n (iv (nv F))) :
    Calls Try.prog 23 #[.agg #[.slice (some ⟨g, 0, none⟩) n c, .bool own]] w (Two w (.slice none 0 0) false) := by
  have HA := hide ha
  have HG := hide hgd
  have HF := hide hF
  have hp := pow_big h8
  obtain ⟨p, hp0⟩ : ∃ p, 2 ^ (qS (spT F (oddN F n)) n n).1.length = p := ⟨_, rfl⟩
  rw [hp0] at hp
  have HP := hide hp0
  clear ha hgd hF hp0 h8
  go_enter Try.func23, Try.ntmps23
  go_wp2_with fail
  refine (grGood_any _ _ _ (nv F) _ _ (by omega) (HA.out.alloc _)).mono ?_
  rintro e w1 ⟨rfl, hb1⟩
  simp only [HG.out]
  have hp := (Arr.box w 28 (.slice (some ⟨g, 0, none⟩) n c) (.bool own)).all hb1
  have HX1 := hide hp
  have c0 : w1.cell? ⟨w.heap.size, 0, none⟩ = some (.slice (some ⟨g, 0, none⟩) n c) := hp.cell (by omega)
  have c1 : w1.cell? ⟨w.heap.size, 1, none⟩ = some (.bool own) := hp.cell (by omega)
  have HA1 := hide ((HA.out.alloc _).all hb1)
  have HB1 := hide ((by go_grown : Below w.heap.size w _).trans (hb1.mono (by simp)))
  clear hb1 hp
  go_wp2_with fail
  refine (paSplit_ok _ _ _ F own false _ hn HF.out HG.out HA1.out).mono ?_
  rintro e w2 ⟨rfl, hb2⟩
  simp only [gvN, Bool.false_eq_true, if_false, HP.out]
  have HB2 := hide (HB1.out.trans (hb2.mono HB1.out.size))
  clear hb2 c0 c1
  go_wp2
  go_ret2
  exact ⟨rfl, HB2.out⟩
theorem i64_andNot_full {n x : Nat} (hn : n ≤ 16) (hx : x < 2 ^ n) : bits .andNot .i64 ((2 ^ n - 1 : Nat) : Int) (x : Int) = ((x ^^^ (2 ^ n - 1) : Nat) : Int) := by
  have h16 := pow16n hn
  have hl : x ^^^ (2 ^ n - 1) < 65536 := Nat.lt_of_lt_of_le (Nat.xor_lt_two_pow hx (full_lt n)) h16
  have hfl := full_lt n
  show IntKind.i64.wrap ((BitVec.ofInt 64 ((2 ^ n - 1 : Nat) : Int) &&& ~~~ BitVec.ofInt 64 (x : Int)).toNat : Int) = _
  have e : (BitVec.ofInt 64 ((2 ^ n - 1 : Nat) : Int) &&& ~~~ BitVec.ofInt 64 (x : Int)).toNat = x ^^^ (2 ^ n - 1) := by
    rw [BitVec.toNat_and, BitVec.toNat_not, ofInt_i64 (2 ^ n - 1) (by generalize 2 ^ n = z at *; omega), ofInt_i64 x (by generalize 2 ^ n = z at *; omega)]
    apply Nat.eq_of_testBit_eq
    intro j
    rw [Nat.testBit_and, Nat.testBit_xor, Nat.testBit_two_pow_sub_one, show 2 ^ 64 - 1 - x = 2 ^ 64 - (x + 1) by omega, Nat.testBit_two_pow_sub_succ (Nat.lt_of_lt_of_le hx (by generalize 2 ^ n = z at *; omega))]
    by_cases h : j < n
    · simp [h, show j < 64 by omega]
    · rw [Nat.testBit_lt_two_pow (Nat.lt_of_lt_of_le hx (Nat.pow_le_pow_right (by decide) (by omega)))]; simp [h]
  rw [e]
  exact IntWalk.i64_in _ (by omega)
/-- What the model finds among the first k sets. -/
noncomputable def fndL (F : Nat → Nat) (n k : Nat) : List Nat := (List.range k).filter (fun x => evB F x n && evB F (x ^^^ (2 ^ n - 1)) n)
theorem fndL_succ (F : Nat → Nat) (n k : Nat) : fndL F n (k + 1) = fndL F n k ++ (if (evB F k n && evB F (k ^^^ (2 ^ n - 1)) n) = true then [k] else []) := by
  unfold fndL
  rw [List.range_succ, List.filter_append]
  congr 1
  cases h : (evB F k n && evB F (k ^^^ (2 ^ n - 1)) n) <;> simp [h]
theorem fndL_len (F : Nat → Nat) (n k : Nat) : (fndL F n k).length ≤ k := by
  unfold fndL; have := List.length_filter_le (fun x => evB F x n && evB F (x ^^^ (2 ^ n - 1)) n) (List.range k); rwa [List.length_range] at this
theorem evsSpec_ok (g n c : Nat) (F : Nat → Nat) (own : Bool) (w : World) (hn : n ≤ 16) (hF : ∀ j, j < n → F j < 2 ^ n) (hgd : goodB n (nv F) = true) (h8 : (qS (spT F (oddN F n)) n n).1.length ≤ 8) (ha : Arr w 3 g n (iv (nv F))) :
    Calls Try.prog 23 #[.agg #[.slice (some ⟨g, 0, none⟩) n c, .bool own]] w (ListRead w (splL F n)) := by
  have HA := hide ha
  have HG := hide hgd
  have HF := hide hF
  have HF16 := hide (goodB_F hn hF)
  have HL : Hid (fndL F n (2 ^ n) = splL F n) := hide (split_list hn hF hgd).symm
  have HAN := hide (fun x (hx : x < 2 ^ n) => i64_andNot_full hn hx)
  have HXL := hide (fun x (hx : x < 2 ^ n) => Nat.xor_lt_two_pow hx (full_lt n))
  have ef := full_wrap hn
  have h16 := pow16n hn
  have h2p := Nat.two_pow_pos n
  have HSu := hide (fndL_succ F n)
  have HLn := hide (fndL_len F n)
  have HZero : Hid (fndL F n 0 = []) := hide rfl
  obtain ⟨z, hz⟩ : ∃ z, 2 ^ n - 1 = z := ⟨_, rfl⟩
  rw [hz] at ef
  have hz1 : z < 65536 := by omega
  obtain ⟨N, hN⟩ : ∃ N, 2 ^ n = N := ⟨_, rfl⟩
  have hNz : z + 1 = N := by omega
  have HZ := hide hz
  have HNN := hide hN
  rw [hN] at HL
  have hp := pow_small h8
  obtain ⟨p, hp0⟩ : ∃ p, 2 ^ (qS (spT F (oddN F n)) n n).1.length = p := ⟨_, rfl⟩
  rw [hp0] at hp
  have hdec : decide ((300 : Int) < (p : Int)) = false := decide_eq_false (by omega)
  have HP := hide hp0
  clear ha hgd hF hp0 h8 hz hN h16 h2p
  go_enter Try.func23, Try.ntmps23
  go_wp2_with fail
  refine (grGood_any _ _ _ (nv F) _ _ (by omega) (HA.out.alloc _)).mono ?_
  rintro e w1 ⟨rfl, hb1⟩
  simp only [HG.out]
  have hp := (Arr.box w 28 (.slice (some ⟨g, 0, none⟩) n c) (.bool own)).all hb1
  have HX1 := hide hp
  have c0 : w1.cell? ⟨w.heap.size, 0, none⟩ = some (.slice (some ⟨g, 0, none⟩) n c) := hp.cell (by omega)
  have c1 : w1.cell? ⟨w.heap.size, 1, none⟩ = some (.bool own) := hp.cell (by omega)
  have HA1 := hide ((HA.out.alloc _).all hb1)
  have HB1 := hide ((by go_grown : Below w.heap.size w _).trans (hb1.mono (by simp)))
  clear hb1 hp
  go_wp2_with fail
  refine (paSplit_ok _ _ _ F own false _ hn HF.out HG.out HA1.out).mono ?_
  rintro e w2 ⟨rfl, hb2⟩
  simp only [gvN, Bool.false_eq_true, if_false, HP.out]
  have hp2 := HX1.out.all hb2
  have d0 : w2.cell? ⟨w.heap.size, 0, none⟩ = some (.slice (some ⟨g, 0, none⟩) n c) := hp2.cell (by omega)
  have d1 : w2.cell? ⟨w.heap.size, 1, none⟩ = some (.bool own) := hp2.cell (by omega)
  have HX2 := hide hp2
  have HA2 := hide (HA1.out.all hb2)
  have HB2 := hide (HB1.out.trans (hb2.mono HB1.out.size))
  clear hb2 c0 c1 hp2
  go_wp2
  simp only [ef]
  go_loopw [7, 8] (fun ov sv wr => ∃ (k m : Nat) (A : Option Addr) (d : Nat), k ≤ N ∧ sv = .int .i64 k ∧ ov = .slice A m d ∧ Hid ((fndL F n k).length = m) ∧ OL wr w2.heap.size (.slice A m d) (fndL F n k) ∧ Below w2.heap.size w2 wr) (fun _ sv _ => N - (intOf sv).toNat)
  case atStart => exact ⟨0, 0, none, 0, by omega, rfl, rfl, hide (by rw [HZero.out]; rfl), by rw [HZero.out]; exact OL.nil _ _, Below.refl _ _⟩
  case round =>
    obtain ⟨k, m, A, d, hk, rfl, rfl, HM, ho, hb⟩ := hrel
    have hm := HLn.out k
    rw [HM.out] at hm
    have hsz := hb.size
    by_cases hlt : k < N
    · have hkn : k < 2 ^ n := by rw [HNN.out]; exact hlt
      have hk16 : k < 65536 := by omega
      have hs := HSu.out k
      have hand := HAN.out k hkn
      have hxl := HXL.out k hkn
      rw [HZ.out] at hs hand hxl
      obtain ⟨y, hy⟩ : ∃ y, k ^^^ z = y := ⟨_, rfl⟩
      rw [hy] at hs hand hxl
      have hy16 : y < 65536 := by rw [HNN.out] at hxl; omega
      have hp3 := HX2.out.all hb
      have f0 : wr.cell? ⟨w.heap.size, 0, none⟩ = some (.slice (some ⟨g, 0, none⟩) n c) := hp3.cell (by omega)
      have f1 : wr.cell? ⟨w.heap.size, 1, none⟩ = some (.bool own) := hp3.cell (by omega)
      have HXr := hide hp3
      have HAr := hide (HA2.out.all hb)
      have HB := hide hb
      have HO := hide ho
      have hm64 : m ≤ 1048576 := by omega
      clear ho hb hp3 hy hkn hxl
      cases hva : evB F k n
      · have HN1 : Hid (fndL F n (k + 1) = fndL F n k) := hide (by rw [hs, hva]; simp)
        clear hs
        go_wp2_with (first | (go_at_call 50; refine (paAll_any _ _ _ F own k _ hn HF16.out hk16 HAr.out).mono ?_; rintro e w4 ⟨rfl, hb4⟩; simp only [hva]; have e0 : w4.cell? ⟨w.heap.size, 0, none⟩ = some (.slice (some ⟨g, 0, none⟩) n c) := (HXr.out.all hb4).cell (by omega); have e1 : w4.cell? ⟨w.heap.size, 1, none⟩ = some (.bool own) := (HXr.out.all hb4).cell (by omega); have HB4 := hide (HB.out.trans (hb4.mono HB.out.size)); have HO4 := hide (HO.out.all hb4); have HA4 := hide (HAr.out.all hb4); have hz4 := hb4.size; clear hb4))
        go_roundw
        case rel => exact ⟨k + 1, m, A, d, by omega, by go_num, rfl, hide (by rw [HN1.out]; exact HM.out), by rw [HN1.out]; exact HO4.out, HB4.out⟩
        case measure => simp [intOf] <;> omega
      · cases hvb : evB F y n
        · have HN1 : Hid (fndL F n (k + 1) = fndL F n k) := hide (by rw [hs, hva, hvb]; simp)
          clear hs
          go_wp2_with (first | (go_at_call 50; refine (paAll_any _ _ _ F own y _ hn HF16.out hy16 HA4.out).mono ?_; rintro e w5 ⟨rfl, hb5⟩; simp only [hvb]; have HB5 := hide (HB4.out.trans (hb5.mono HB4.out.size)); have HO5 := hide (HO4.out.all hb5); have hz5 := hb5.size; clear hb5) | (go_at_call 50; refine (paAll_any _ _ _ F own k _ hn HF16.out hk16 HAr.out).mono ?_; rintro e w4 ⟨rfl, hb4⟩; simp only [hva]; have e0 : w4.cell? ⟨w.heap.size, 0, none⟩ = some (.slice (some ⟨g, 0, none⟩) n c) := (HXr.out.all hb4).cell (by omega); have e1 : w4.cell? ⟨w.heap.size, 1, none⟩ = some (.bool own) := (HXr.out.all hb4).cell (by omega); have HB4 := hide (HB.out.trans (hb4.mono HB.out.size)); have HO4 := hide (HO.out.all hb4); have HA4 := hide (HAr.out.all hb4); have hz4 := hb4.size; clear hb4))
          go_roundw
          case rel => exact ⟨k + 1, m, A, d, by omega, by go_num, rfl, hide (by rw [HN1.out]; exact HM.out), by rw [HN1.out]; exact HO5.out, HB5.out⟩
          case measure => simp [intOf] <;> omega
        · have HN1 : Hid (fndL F n (k + 1) = fndL F n k ++ [k]) := hide (by rw [hs, hva, hvb]; simp)
          clear hs
          go_wp2_with (first | (go_at_call 50; refine (paAll_any _ _ _ F own y _ hn HF16.out hy16 HA4.out).mono ?_; rintro e w5 ⟨rfl, hb5⟩; simp only [hvb]; have HB5 := hide (HB4.out.trans (hb5.mono HB4.out.size)); have HO5 := hide (HO4.out.all hb5); have hz5 := hb5.size; clear hb5) | (go_at_call 50; refine (paAll_any _ _ _ F own k _ hn HF16.out hk16 HAr.out).mono ?_; rintro e w4 ⟨rfl, hb4⟩; simp only [hva]; have e0 : w4.cell? ⟨w.heap.size, 0, none⟩ = some (.slice (some ⟨g, 0, none⟩) n c) := (HXr.out.all hb4).cell (by omega); have e1 : w4.cell? ⟨w.heap.size, 1, none⟩ = some (.bool own) := (HXr.out.all hb4).cell (by omega); have HB4 := hide (HB.out.trans (hb4.mono HB.out.size)); have HO4 := hide (HO.out.all hb4); have HA4 := hide (HAr.out.all hb4); have hz4 := hb4.size; clear hb4) | (at_builtin; refine wpList_append_nat _ rfl _ _ rfl w2.heap.size A d m (fndL F n k) k w5.heap.size rfl (HO5.out.alloc _) HM.out rfl (by simp [go_sem]) (by omega) (by simp; omega) ?_; intro A6 c6 w6 ho6 hb6; have HO6 := hide ho6; have HB6 := hide ((HB5.out.alloc (by omega) _).trans hb6); clear ho6 hb6))
          go_roundw
          case rel => exact ⟨k + 1, m + 1, A6, c6, by omega, by go_num, rfl, hide (by rw [HN1.out, List.length_append, HM.out]; rfl), by rw [HN1.out]; exact HO6.out, HB6.out⟩
          case measure => simp [intOf] <;> omega
    · have hkN : k = N := by omega
      subst hkN
      have HO := hide ho
      have HB := hide hb
      clear ho hb
      go_wp2
      go_ret2
      refine ⟨A, m, d, rfl, by rw [← HL.out]; exact HM.out, ?_, HB2.out.trans (HB.out.mono HB2.out.size)⟩
      rw [← HL.out]
      exact HO.out.src HM.out
end Go.Proofs.Ytcpbbpgiicakcaa
