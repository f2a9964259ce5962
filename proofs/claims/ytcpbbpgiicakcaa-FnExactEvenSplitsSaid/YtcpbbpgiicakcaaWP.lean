import Derived.Test.YtcpbbpgiicakcaaWO
import Derived.Deep.RegionHeld3
namespace Go.Proofs.Ytcpbbpgiicakcaa
open Go.RowKit
set_option maxHeartbeats 2000000
/-! ### with own lights -/
theorem togglesT_any (g n c : Nat) (F : Nat → Nat) (i : Nat) (w : World) (hn : n ≤ 16) (hi : i < n) (hF : F i < 65536) (ha : Arr w 3 g n (iv (nv F))) :
    Calls Try.prog 98 #[.agg #[.slice (some ⟨g, 0, none⟩) n c, .bool true], .int .i64 i] w fun e w' => e = .returned (.int .i64 (F i ||| 2 ^ i : Nat)) ∧ Below w.heap.size w w' := by
  have hgl := ha.lt
  have h1 : w.cell? ⟨g, i, none⟩ = some (.int .i64 (F i : Nat)) := ha.cell hi
  have e1 := or_wrap (F i) i hF (by omega)
  clear ha
  go_enter Try.func98, Try.ntmps98
  go_wp2
  go_region
  all_goals
    go_wp2
    go_ret
    exact ⟨rfl, by go_grown⟩
theorem allToggles_any (g n c : Nat) (F : Nat → Nat) (w : World) (hn : n ≤ 16) (hF : ∀ k, k < n → F k < 65536) (ha : Arr w 3 g n (iv (nv F))) :
    Calls Try.prog 90 #[.agg #[.slice (some ⟨g, 0, none⟩) n c, .bool true]] w fun e w' => ∃ g', e = .returned (.slice (some ⟨g', 0, none⟩) n n) ∧ Arr w' 3 g' n (iv (nv (spT F (2 ^ n - 1)))) ∧ Below w.heap.size w w' := by
  have hmk := run_make_row' (P := Try.prog) 22 3 (.int .i64 0) 8 Try.underlying22 int_info rfl .i64 .i64 n (by omega) (by omega)
  have HF := hide hF
  have HA := hide (ha.alloc (.cells #[.slice (some ⟨g, 0, none⟩) n c, .bool true] 28))
  have hgl := ha.lt
  have HT : Hid (∀ k, k < n → spT F (2 ^ n - 1) k = F k ||| 2 ^ k) := hide fun k hk => spT_full F hk
  obtain ⟨T, hT⟩ : ∃ T, spT F (2 ^ n - 1) = T := ⟨_, rfl⟩
  rw [hT] at HT ⊢
  clear hF ha hT
  go_enter Try.func90, Try.ntmps90
  go_wp2
  go_loopw [11] (fun i wr => ∃ k : Nat, k ≤ n ∧ i = .int .i64 k ∧ Arr wr 3 (w.heap.size + 1) n (fun j => if j < k then iv (nv T) j else .int .i64 0) ∧ Below (w.heap.size + 1) (w.alloc (.cells #[.slice (some ⟨g, 0, none⟩) n c, .bool true] 28)) wr)
    (fun i _ => n - (intOf i).toNat)
  case atStart => exact ⟨0, Nat.zero_le _, rfl, (Arr.made_at _ _ n 3 (by simp) (fun k hk => by simp)), (by go_grown)⟩
  case round =>
    obtain ⟨k, hk, rfl, ha, hb⟩ := hrel
    have hp := (Arr.box w 28 (.slice (some ⟨g, 0, none⟩) n c) (.bool true)).below hb (by omega)
    by_cases hlt : k < n
    · have c0 : wr.cell? ⟨w.heap.size, 0, none⟩ = some (.slice (some ⟨g, 0, none⟩) n c) := hp.cell (by omega)
      have c1 : wr.cell? ⟨w.heap.size, 1, none⟩ = some (.bool true) := hp.cell (by omega)
      have hlr : w.heap.size < wr.heap.size := hp.lt
      have HAg := hide (HA.out.all (hb.mono (by simp)))
      have hx16 := HF.out k hlt
      have hTk := HT.out k hlt
      obtain ⟨y, hy⟩ : ∃ y, F k ||| 2 ^ k = y := ⟨_, rfl⟩
      rw [hy] at hTk
      have HTk := hide hTk
      have HAr := hide ha
      have HB := hide hb
      have HY := hide hy
      clear ha hb hp hTk hy
      go_wp2_with fail
      refine (togglesT_any _ _ _ F k _ hn hlt hx16 HAg.out).mono ?_
      rintro e w3 ⟨rfl, hb3⟩
      rw [HY.out]
      have ha3 := HAr.out.all hb3
      have hw := ha3.cell hlt
      have hz := ha3.frozen k
      have hl3 : w.heap.size + 1 < w3.heap.size := ha3.lt
      have HA3 := hide ha3
      have HB3 := hide (HB.out.trans (hb3.mono (by omega)))
      clear ha3 hb3 c0 c1
      go_wp2
      go_roundw
      case rel =>
        refine ⟨k + 1, by omega, by go_num, (HA3.out.set k _).congr (fun j hj => ?_), HB3.out.setCell (Nat.le_refl _) _⟩
        by_cases hjk : j = k
        · subst hjk; simp [iv, nv, HTk.out]
        · simp only [hjk, if_false]
          by_cases h2 : j < k
          · rw [if_pos h2, if_pos (by omega)]
          · rw [if_neg h2, if_neg (by omega)]
      case measure => simp [intOf]; omega
    · have HB := hide hb
      have HAr := hide ha
      clear ha hb hp
      go_wp2
      go_ret
      exact ⟨_, rfl, HAr.out.congr (fun j hj => by rw [if_pos (by omega)]), (by go_grown : Below w.heap.size w _).trans (HB.out.mono (by simp))⟩
theorem boardT_no (g n c : Nat) (f : Nat → Int) (s : Int) (w : World) (hn : n ≤ 1048576) (hgd : goodB n f = false) (ha : Arr w 3 g n (iv f)) :
    Calls Try.prog 89 #[.agg #[.slice (some ⟨g, 0, none⟩) n c, .bool true], .int .i64 s] w fun e w' => e = .returned (.bool false) ∧ Below w.heap.size w w' := by
  have HA := hide ha
  have HG := hide hgd
  clear ha hgd
  go_enter Try.func89, Try.ntmps89
  go_wp2_with fail
  refine (isGraph_any _ _ _ f _ _ hn (HA.out.alloc _)).mono ?_
  rintro e w1 ⟨rfl, hb1⟩
  simp only [HG.out]
  have HB := hide ((by go_grown : Below w.heap.size w _).trans (hb1.mono (by simp)))
  clear hb1
  go_wp2
  go_ret
  exact ⟨rfl, HB.out⟩
theorem boardT_ok (g n c : Nat) (F : Nat → Nat) (w : World) (hn : n ≤ 16) (hgd : goodB n (nv F) = true) (ha : Arr w 3 g n (iv (nv F))) (s : Int) (hs : inB s 0 (2 ^ n - 1) = true) :
    Calls Try.prog 89 #[.agg #[.slice (some ⟨g, 0, none⟩) n c, .bool true], .int .i64 s] w fun e w' => e = .returned (.bool true) ∧ Below w.heap.size w w' := by
  have HA := hide ha
  have HG := hide hgd
  have HSs := hide hs
  clear ha hgd hs
  go_enter Try.func89, Try.ntmps89
  go_wp2_with fail
  refine (isGraph_any _ _ _ (nv F) _ _ (by omega) (HA.out.alloc _)).mono ?_
  rintro e w1 ⟨rfl, hb1⟩
  simp only [HG.out]
  have hp := (Arr.box w 28 (.slice (some ⟨g, 0, none⟩) n c) (.bool true)).all hb1
  have c0 : w1.cell? ⟨w.heap.size, 0, none⟩ = some (.slice (some ⟨g, 0, none⟩) n c) := hp.cell (by omega)
  have c1 : w1.cell? ⟨w.heap.size, 1, none⟩ = some (.bool true) := hp.cell (by omega)
  have HA1 := hide ((HA.out.alloc _).all hb1)
  have HB1 := hide ((by go_grown : Below w.heap.size w _).trans (hb1.mono (by simp)))
  clear hb1 hp
  go_wp2_with fail
  refine (isSet_any _ _ _ _ _ _ hn).mono ?_
  rintro e w2 ⟨rfl, hb2⟩
  simp only [HSs.out]
  have HB2 := hide (HB1.out.trans (hb2.mono HB1.out.size))
  clear hb2
  go_wp2
  go_ret
  exact ⟨rfl, HB2.out⟩
theorem solveT_no (g n c : Nat) (f : Nat → Int) (s : Int) (w : World) (hn : n ≤ 1048576) (hgd : goodB n f = false) (ha : Arr w 3 g n (iv f)) :
    Calls Try.prog 77 #[.agg #[.slice (some ⟨g, 0, none⟩) n c, .bool true], .int .i64 s] w (Two w (.int .i64 0) false) := by
  have HA := hide ha
  have HG := hide hgd
  clear ha hgd
  go_enter Try.func77, Try.ntmps77
  go_wp2_with fail
  refine (boardT_no _ _ _ f _ _ hn HG.out (HA.out.alloc _)).mono ?_
  rintro e w1 ⟨rfl, hb1⟩
  have HB := hide ((by go_grown : Below w.heap.size w _).trans (hb1.mono (by simp)))
  clear hb1
  go_wp2
  go_ret2
  exact ⟨rfl, HB.out⟩
theorem full_in (n : Nat) : inB ((2 ^ n - 1 : Nat) : Int) 0 (2 ^ n - 1) = true := by
  have h1 := Nat.two_pow_pos n
  simp only [inB, decide_eq_true_eq]
  rw [← pow_nat]
  omega
theorem solveT_ok (g n c : Nat) (F : Nat → Nat) (w : World) (hn : n ≤ 16) (hF : ∀ j, j < n → F j < 2 ^ n) (hgd : goodB n (nv F) = true) (ha : Arr w 3 g n (iv (nv F))) :
    Calls Try.prog 77 #[.agg #[.slice (some ⟨g, 0, none⟩) n c, .bool true], .int .i64 (2 ^ n - 1 : Nat)] w (Two w (.int .i64 (solV (spT F (2 ^ n - 1)) n (2 ^ n - 1) : Nat)) true) := by
  have HA := hide ha
  have HG := hide hgd
  have HF16 := hide (goodB_F hn hF)
  have HT := hide (spT_lt hF (full_lt n))
  have HY := hide (split_yes hF (full_lt n) hgd)
  have HI := hide (full_in n)
  have HD := hide (full_lt n)
  obtain ⟨z, hz⟩ : ∃ z, 2 ^ n - 1 = z := ⟨_, rfl⟩
  have HZ := hide hz
  rw [hz] at HT HY HI HD ⊢
  clear ha hgd hF hz
  go_enter Try.func77, Try.ntmps77
  go_wp2_with fail
  refine (boardT_ok _ _ _ F _ hn HG.out (HA.out.alloc _) _ HI.out).mono ?_
  rintro e w1 ⟨rfl, hb1⟩
  have hp := (Arr.box w 28 (.slice (some ⟨g, 0, none⟩) n c) (.bool true)).all hb1
  have c0 : w1.cell? ⟨w.heap.size, 0, none⟩ = some (.slice (some ⟨g, 0, none⟩) n c) := hp.cell (by omega)
  have c1 : w1.cell? ⟨w.heap.size, 1, none⟩ = some (.bool true) := hp.cell (by omega)
  have HA1 := hide ((HA.out.alloc _).all hb1)
  have HB1 := hide ((by go_grown : Below w.heap.size w _).trans (hb1.mono (by simp)))
  clear hb1 hp
  go_wp2_with fail
  refine (allToggles_any _ _ _ F _ hn HF16.out HA1.out).mono ?_
  rintro e w2 ⟨g2, rfl, ha2, hb2⟩
  rw [HZ.out] at ha2
  have HA2 := hide ha2
  have HB2 := hide (HB1.out.trans (hb2.mono HB1.out.size))
  clear ha2 hb2 c0 c1
  go_wp2_with fail
  refine (least_any _ _ _ (spT F z) z _ hn HT.out HD.out HA2.out).mono ?_
  rintro e w3 ⟨rfl, hb3⟩
  rw [HY.out]
  have HB3 := hide (HB2.out.trans (hb3.mono HB2.out.size))
  clear hb3
  go_wp2
  go_ret2
  exact ⟨rfl, HB3.out⟩
theorem allOnT_no (g n c : Nat) (f : Nat → Int) (w : World) (hn : n ≤ 1048576) (hgd : goodB n f = false) (ha : Arr w 3 g n (iv f)) :
    Calls Try.prog 54 #[.agg #[.slice (some ⟨g, 0, none⟩) n c, .bool true]] w (Two w (.int .i64 0) false) := by
  have HA := hide ha
  have HG := hide hgd
  have KK : Hid ((w.alloc (.cells #[.slice (some ⟨g, 0, none⟩) n c, .bool true] 28)).drew.cell? ⟨w.heap.size, 0, none⟩ = some (.slice (some ⟨g, 0, none⟩) n c) ∧ (w.alloc (.cells #[.slice (some ⟨g, 0, none⟩) n c, .bool true] 28)).drew.cell? ⟨w.heap.size, 1, none⟩ = some (.bool true)) := hide ⟨by simp [go_sem], by simp [go_sem]⟩
  clear ha hgd
  go_enter Try.func54, Try.ntmps54
  go_wp2
  go_region_held3 (fun w' => w'.cell? ⟨w.heap.size, 0, none⟩ = some (.slice (some ⟨g, 0, none⟩) n c) ∧ w'.cell? ⟨w.heap.size, 1, none⟩ = some (.bool true)) (first | exact KK.out | exact two_below (by assumption) KK.out) ((go_at_call 77; refine (solveT_no _ _ _ f _ _ hn HG.out (by exact (HA.out.alloc _).drew)).mono ?_; rintro e w3 ⟨rfl, hb3⟩))
  have HB3 := hide (((by go_grown : Below w.heap.size w (w.alloc (.cells #[.slice (some ⟨g, 0, none⟩) n c, .bool true] 28))).trans ((Below.drew (Below.refl w.heap.size _)).trans (hb3.mono (by simp)))))
  clear hb3
  go_wp2
  go_ret2
  exact ⟨rfl, HB3.out⟩
theorem solveT_at (g n c : Nat) (F : Nat → Nat) (x : Int) (w : World) (hn : n ≤ 16) (hF : ∀ j, j < n → F j < 2 ^ n) (hgd : goodB n (nv F) = true) (ha : Arr w 3 g n (iv (nv F))) (hx : x = ((2 ^ n - 1 : Nat) : Int)) :
    Calls Try.prog 77 #[.agg #[.slice (some ⟨g, 0, none⟩) n c, .bool true], .int .i64 x] w (Two w (.int .i64 (solV (spT F (2 ^ n - 1)) n (2 ^ n - 1) : Nat)) true) := by
  subst hx; exact solveT_ok g n c F w hn hF hgd ha
theorem allOnT_ok (g n c : Nat) (F : Nat → Nat) (w : World) (hn : n ≤ 16) (hF : ∀ j, j < n → F j < 2 ^ n) (hgd : goodB n (nv F) = true) (ha : Arr w 3 g n (iv (nv F))) :
    Calls Try.prog 54 #[.agg #[.slice (some ⟨g, 0, none⟩) n c, .bool true]] w (Two w (.int .i64 (solV (spT F (2 ^ n - 1)) n (2 ^ n - 1) : Nat)) true) := by
  have HA := hide ha
  have HG := hide hgd
  have HF := hide hF
  have HW := hide (full_bare hn)
  obtain ⟨V, hV⟩ : ∃ V, solV (spT F (2 ^ n - 1)) n (2 ^ n - 1) = V := ⟨_, rfl⟩
  have HV := hide hV
  rw [hV]
  have KK : Hid ((w.alloc (.cells #[.slice (some ⟨g, 0, none⟩) n c, .bool true] 28)).drew.cell? ⟨w.heap.size, 0, none⟩ = some (.slice (some ⟨g, 0, none⟩) n c) ∧ (w.alloc (.cells #[.slice (some ⟨g, 0, none⟩) n c, .bool true] 28)).drew.cell? ⟨w.heap.size, 1, none⟩ = some (.bool true)) := hide ⟨by simp [go_sem], by simp [go_sem]⟩
  clear ha hgd hF hV
  go_enter Try.func54, Try.ntmps54
  go_wp2
  go_region_held3 (fun w' => w'.cell? ⟨w.heap.size, 0, none⟩ = some (.slice (some ⟨g, 0, none⟩) n c) ∧ w'.cell? ⟨w.heap.size, 1, none⟩ = some (.bool true)) (first | exact KK.out | exact two_below (by assumption) KK.out) ((go_at_call 77; refine (solveT_at _ _ _ F _ _ hn HF.out HG.out (by exact (HA.out.alloc _).drew) HW.out).mono ?_; rintro e w3 ⟨rfl, hb3⟩; simp only [HV.out]))
  have HB3 := hide (((by go_grown : Below w.heap.size w (w.alloc (.cells #[.slice (some ⟨g, 0, none⟩) n c, .bool true] 28))).trans ((Below.drew (Below.refl w.heap.size _)).trans (hb3.mono (by simp)))))
  clear hb3
  go_wp2
  go_ret2
  exact ⟨rfl, HB3.out⟩
theorem quietT_no (g n c : Nat) (f : Nat → Int) (w : World) (hn : n ≤ 1048576) (hgd : goodB n f = false) (ha : Arr w 3 g n (iv f)) :
    Calls Try.prog 78 #[.agg #[.slice (some ⟨g, 0, none⟩) n c, .bool true]] w (Two w (.slice none 0 0) false) := by
  have HA := hide ha
  have HG := hide hgd
  clear ha hgd
  go_enter Try.func78, Try.ntmps78
  go_wp2_with fail
  refine (isGraph_any _ _ _ f _ _ hn (HA.out.alloc _)).mono ?_
  rintro e w1 ⟨rfl, hb1⟩
  simp only [HG.out]
  have HB := hide ((by go_grown : Below w.heap.size w _).trans (hb1.mono (by simp)))
  clear hb1
  go_wp2
  go_ret2
  exact ⟨rfl, HB.out⟩
theorem quietT_ok (g n c : Nat) (F : Nat → Nat) (w : World) (hn : n ≤ 16) (hF : ∀ j, j < n → F j < 2 ^ n) (hgd : goodB n (nv F) = true) (ha : Arr w 3 g n (iv (nv F))) :
    Calls Try.prog 78 #[.agg #[.slice (some ⟨g, 0, none⟩) n c, .bool true]] w fun e w' => ∃ A d, e = .returned (.tuple #[.slice A (qS (spT F (2 ^ n - 1)) n n).1.length d, .bool true]) ∧ Below w.heap.size w w' := by
  have HA := hide ha
  have HG := hide hgd
  have HF16 := hide (goodB_F hn hF)
  have HT := hide (spT_lt hF (full_lt n))
  clear ha hgd hF
  go_enter Try.func78, Try.ntmps78
  go_wp2_with fail
  refine (isGraph_any _ _ _ (nv F) _ _ (by omega) (HA.out.alloc _)).mono ?_
  rintro e w1 ⟨rfl, hb1⟩
  simp only [HG.out]
  have hp := (Arr.box w 28 (.slice (some ⟨g, 0, none⟩) n c) (.bool true)).all hb1
  have c0 : w1.cell? ⟨w.heap.size, 0, none⟩ = some (.slice (some ⟨g, 0, none⟩) n c) := hp.cell (by omega)
  have c1 : w1.cell? ⟨w.heap.size, 1, none⟩ = some (.bool true) := hp.cell (by omega)
  have HA1 := hide ((HA.out.alloc _).all hb1)
  have HB1 := hide ((by go_grown : Below w.heap.size w _).trans (hb1.mono (by simp)))
  clear hb1 hp
  go_wp2_with fail
  refine (allToggles_any _ _ _ F _ hn HF16.out HA1.out).mono ?_
  rintro e w2 ⟨g2, rfl, ha2, hb2⟩
  have HA2 := hide ha2
  have HB2 := hide (HB1.out.trans (hb2.mono HB1.out.size))
  clear ha2 hb2 c0 c1
  go_wp2_with fail
  refine (quietAndImage_any _ _ _ (spT F (2 ^ n - 1)) _ hn HT.out HA2.out).mono ?_
  rintro e w3 ⟨A1, A2, n1, n2, d1, d2, rfl, hq1, hq2, _, _, hb3⟩
  have HB3 := hide (HB2.out.trans (hb3.mono HB2.out.size))
  have HQ := hide hq1
  clear hb3 hq2 hq1
  go_wp2
  go_ret2
  exact ⟨A1, d1, by rw [HQ.out]; rfl, HB3.out⟩
theorem nullT_no (g n c : Nat) (f : Nat → Int) (w : World) (hn : n ≤ 1048576) (hgd : goodB n f = false) (ha : Arr w 3 g n (iv f)) :
    Calls Try.prog 56 #[.agg #[.slice (some ⟨g, 0, none⟩) n c, .bool true]] w (Two w (.int .i64 0) false) := by
  have HA := hide ha
  have HG := hide hgd
  clear ha hgd
  go_enter Try.func56, Try.ntmps56
  go_wp2_with fail
  refine (quietT_no _ _ _ f _ hn HG.out (HA.out.alloc _)).mono ?_
  rintro e w1 ⟨rfl, hb1⟩
  have HB := hide ((by go_grown : Below w.heap.size w _).trans (hb1.mono (by simp)))
  clear hb1
  go_wp2
  go_ret2
  exact ⟨rfl, HB.out⟩
theorem nullT_ok (g n c : Nat) (F : Nat → Nat) (w : World) (hn : n ≤ 16) (hF : ∀ j, j < n → F j < 2 ^ n) (hgd : goodB n (nv F) = true) (ha : Arr w 3 g n (iv (nv F))) :
    Calls Try.prog 56 #[.agg #[.slice (some ⟨g, 0, none⟩) n c, .bool true]] w (Two w (.int .i64 ((qS (spT F (2 ^ n - 1)) n n).1.length : Nat)) true) := by
  have HA := hide ha
  have HG := hide hgd
  have HF := hide hF
  clear ha hgd hF
  go_enter Try.func56, Try.ntmps56
  go_wp2_with fail
  refine (quietT_ok _ _ _ F _ hn HF.out HG.out (HA.out.alloc _)).mono ?_
  rintro e w1 ⟨A, d, rfl, hb1⟩
  have HB := hide ((by go_grown : Below w.heap.size w _).trans (hb1.mono (by simp)))
  clear hb1
  go_wp2
  go_ret2
  exact ⟨rfl, HB.out⟩
theorem ownT_any (g n c : Nat) (own : Bool) (w : World) :
    Calls Try.prog 55 #[.agg #[.slice (some ⟨g, 0, none⟩) n c, .bool own]] w fun e w' => e = .returned (.agg #[.slice (some ⟨g, 0, none⟩) n c, .bool true]) ∧ Below w.heap.size w w' := by
  go_enter Try.func55, Try.ntmps55
  go_wp2
  refine bodyPost_ret (v := .agg #[.slice (some ⟨g, 0, none⟩) n c, .bool true]) (by simp [results, Try.results55, go_sem]) rfl ?_
  exact ⟨rfl, by go_grown⟩
theorem imDom_no (g n c : Nat) (f : Nat → Int) (own : Bool) (w : World) (hn : n ≤ 1048576) (hgd : goodB n f = false) (ha : Arr w 3 g n (iv f)) :
    Calls Try.prog 30 #[.agg #[.slice (some ⟨g, 0, none⟩) n c, .bool own]] w (Two w (.int .i64 0) false) := by
  have HA := hide ha
  have HG := hide hgd
  clear ha hgd
  go_enter Try.func30, Try.ntmps30
  go_wp2_with fail
  refine (ownT_any _ _ _ _ _).mono ?_
  rintro e w1 ⟨rfl, hb1⟩
  have HA1 := hide ((HA.out.alloc _).all hb1)
  have HB1 := hide ((by go_grown : Below w.heap.size w _).trans (hb1.mono (by simp)))
  clear hb1
  go_wp2_with fail
  refine (allOnT_no _ _ _ f _ hn HG.out HA1.out).mono ?_
  rintro e w2 ⟨rfl, hb2⟩
  have HB2 := hide (HB1.out.trans (hb2.mono HB1.out.size))
  clear hb2
  go_wp2
  go_ret2
  exact ⟨rfl, HB2.out⟩
theorem imDom_ok (g n c : Nat) (F : Nat → Nat) (own : Bool) (w : World) (hn : n ≤ 16) (hF : ∀ j, j < n → F j < 2 ^ n) (hgd : goodB n (nv F) = true) (ha : Arr w 3 g n (iv (nv F))) :
    Calls Try.prog 30 #[.agg #[.slice (some ⟨g, 0, none⟩) n c, .bool own]] w (Two w (.int .i64 (solV (spT F (2 ^ n - 1)) n (2 ^ n - 1) : Nat)) true) := by
  have HA := hide ha
  have HG := hide hgd
  have HF := hide hF
  have hq := qS_le (spT F (2 ^ n - 1)) n
  obtain ⟨q, hq0⟩ : ∃ q, (qS (spT F (2 ^ n - 1)) n n).1.length = q := ⟨_, rfl⟩
  rw [hq0] at hq
  have HQ := hide hq0
  have hq16 : q ≤ 16 := by omega
  have ew := wrap_pow16 hq16
  try rw [hq0]
  clear ha hgd hF hq0
  go_enter Try.func30, Try.ntmps30
  go_wp2_with fail
  refine (ownT_any _ _ _ _ _).mono ?_
  rintro e w1 ⟨rfl, hb1⟩
  have HA1 := hide ((HA.out.alloc _).all hb1)
  have HB1 := hide ((by go_grown : Below w.heap.size w _).trans (hb1.mono (by simp)))
  clear hb1
  go_wp2_with fail
  refine (allOnT_ok _ _ _ F _ hn HF.out HG.out HA1.out).mono ?_
  rintro e w2 ⟨rfl, hb2⟩
  try simp only [HQ.out]
  have HB2 := hide (HB1.out.trans (hb2.mono HB1.out.size))
  clear hb2
  go_wp2
  go_ret2
  exact ⟨by first | rfl | (rw [← ew]; rfl), HB2.out⟩
theorem imCDom_no (g n c : Nat) (f : Nat → Int) (own : Bool) (w : World) (hn : n ≤ 1048576) (hgd : goodB n f = false) (ha : Arr w 3 g n (iv f)) :
    Calls Try.prog 32 #[.agg #[.slice (some ⟨g, 0, none⟩) n c, .bool own]] w (Two w (.int .i64 0) false) := by
  have HA := hide ha
  have HG := hide hgd
  clear ha hgd
  go_enter Try.func32, Try.ntmps32
  go_wp2_with fail
  refine (ownT_any _ _ _ _ _).mono ?_
  rintro e w1 ⟨rfl, hb1⟩
  have HA1 := hide ((HA.out.alloc _).all hb1)
  have HB1 := hide ((by go_grown : Below w.heap.size w _).trans (hb1.mono (by simp)))
  clear hb1
  go_wp2_with fail
  refine (nullT_no _ _ _ f _ hn HG.out HA1.out).mono ?_
  rintro e w2 ⟨rfl, hb2⟩
  have HB2 := hide (HB1.out.trans (hb2.mono HB1.out.size))
  clear hb2
  go_wp2
  go_ret2
  exact ⟨rfl, HB2.out⟩
theorem imCDom_ok (g n c : Nat) (F : Nat → Nat) (own : Bool) (w : World) (hn : n ≤ 16) (hF : ∀ j, j < n → F j < 2 ^ n) (hgd : goodB n (nv F) = true) (ha : Arr w 3 g n (iv (nv F))) :
    Calls Try.prog 32 #[.agg #[.slice (some ⟨g, 0, none⟩) n c, .bool own]] w (Two w (.int .i64 (2 ^ (qS (spT F (2 ^ n - 1)) n n).1.length : Nat)) true) := by
  have HA := hide ha
  have HG := hide hgd
  have HF := hide hF
  have hq := qS_le (spT F (2 ^ n - 1)) n
  obtain ⟨q, hq0⟩ : ∃ q, (qS (spT F (2 ^ n - 1)) n n).1.length = q := ⟨_, rfl⟩
  rw [hq0] at hq
  have HQ := hide hq0
  have hq16 : q ≤ 16 := by omega
  have ew := wrap_pow16 hq16
  try rw [hq0]
  clear ha hgd hF hq0
  go_enter Try.func32, Try.ntmps32
  go_wp2_with fail
  refine (ownT_any _ _ _ _ _).mono ?_
  rintro e w1 ⟨rfl, hb1⟩
  have HA1 := hide ((HA.out.alloc _).all hb1)
  have HB1 := hide ((by go_grown : Below w.heap.size w _).trans (hb1.mono (by simp)))
  clear hb1
  go_wp2_with fail
  refine (nullT_ok _ _ _ F _ hn HF.out HG.out HA1.out).mono ?_
  rintro e w2 ⟨rfl, hb2⟩
  try simp only [HQ.out]
  have HB2 := hide (HB1.out.trans (hb2.mono HB1.out.size))
  clear hb2
  go_wp2
  go_ret2
  exact ⟨by first | rfl | (rw [← ew]; rfl), HB2.out⟩
end Go.Proofs.Ytcpbbpgiicakcaa
