/-
The law of Fibonacci's polynomials, its walk.
-/
import Derived.Test.YtibikoajejfdeaaDoorLFH
namespace Go.Proofs.YtibikoajejfdeaaDoor
open Go.RowKit
set_option maxHeartbeats 40000000
set_option maxRecDepth 100000
theorem lawFP_no (A A' : Option Addr) (n0 c n' c' : Nat) (f f' : Nat → Int) (w : World) (hn : n0 ≤ 1048576) (hn' : n' ≤ 1048576 - n0) (HS_A : Hid (Src w A n0 (uv f))) (HS_B : Hid (Src w A' n' (uv f'))) (HF_A : Hid (∀ k, k < n0 → 0 ≤ f k ∧ f k < 256)) (HF_B : Hid (∀ k, k < n' → 0 ≤ f' k ∧ f' k < 256)) (HT : Hid (Tab w)) :
    Calls Tryd.prog 3 #[.slice A n0 c, .slice A' n' c'] w fun e w' => e = .returned (.bool true) ∧ Below w.heap.size w w' := by
  go_enter Tryd.func3, Tryd.ntmps3
  go_wp2_with fail
  refine (BW ((big_no A A' n0 c n' c' _ hn hn').mono (fun _ _ h => ⟨h.1, h.2.symm⟩))).mono ?_
  rintro e w1 ⟨rfl, hb1⟩
  have hs1 : Below w.heap.size w w1 := (by go_grown : Below w.heap.size w _).trans (hb1.mono (by go_size))
  have HW1 := hide hs1
  clear hs1 hb1
  go_wp2_with fail
  refine (drawFib_any _ _ _ f _ hn (HS_A.out.below HW1.out) HF_A.out).mono ?_
  rintro e w2 ⟨a1, rfl, hb2⟩
  have hs2 : Below w1.heap.size w1 w2 := (by go_grown : Below w1.heap.size w1 _).trans (hb2.mono (by go_size))
  have HW2 := hide (HW1.out.trans (hs2.mono HW1.out.size))
  clear hs2 hb2
  cases HN1 : inB a1 0 41
  · skip
    have HN1 := hide HN1
    go_wp2_with fail
    refine (fibNoI a1 _ HN1.out).mono ?_
    rintro e w3 ⟨rfl, hb3⟩
    have hs3 : Below w2.heap.size w2 w3 := (by go_grown : Below w2.heap.size w2 _).trans (hb3.mono (by go_size))
    have HW3 := hide (HW2.out.trans (hs3.mono HW2.out.size))
    clear hs3 hb3
    go_wp2_with fail
    refine (fibNoS a1 _ HN1.out).mono ?_
    rintro e w4 ⟨rfl, hb4⟩
    have hs4 : Below w3.heap.size w3 w4 := (by go_grown : Below w3.heap.size w3 _).trans (hb4.mono (by go_size))
    have HW4 := hide (HW3.out.trans (hs4.mono HW3.out.size))
    clear hs4 hb4
    go_wp2_with fail
    refine (drawFib_any _ _ _ f' _ (by omega) (HS_B.out.below HW4.out) HF_B.out).mono ?_
    rintro e w5 ⟨a2, rfl, hb5⟩
    have hs5 : Below w4.heap.size w4 w5 := (by go_grown : Below w4.heap.size w4 _).trans (hb5.mono (by go_size))
    have HW5 := hide (HW4.out.trans (hs5.mono HW4.out.size))
    clear hs5 hb5
    cases HM : inB a2 0 41
    · skip
      have HM := hide HM
      go_wp2_with fail
      refine (fibNoI a2 _ HM.out).mono ?_
      rintro e w6 ⟨rfl, hb6⟩
      have hs6 : Below w5.heap.size w5 w6 := (by go_grown : Below w5.heap.size w5 _).trans (hb6.mono (by go_size))
      have HW6 := hide (HW5.out.trans (hs6.mono HW5.out.size))
      clear hs6 hb6
      go_wp2_with fail
      refine (fibNoS a2 _ HM.out).mono ?_
      rintro e w7 ⟨rfl, hb7⟩
      have hs7 : Below w6.heap.size w6 w7 := (by go_grown : Below w6.heap.size w6 _).trans (hb7.mono (by go_size))
      have HW7 := hide (HW6.out.trans (hs7.mono HW6.out.size))
      clear hs7 hb7
      go_wp2_with fail
      refine (drawFirst_any _ _ _ f' _ (by omega) (HS_B.out.below HW7.out) HF_B.out).mono ?_
      rintro e w8 ⟨p, rfl, hb8⟩
      have hs8 : Below w7.heap.size w7 w8 := (by go_grown : Below w7.heap.size w7 _).trans (hb8.mono (by go_size))
      have HW8 := hide (HW7.out.trans (hs8.mono HW7.out.size))
      clear hs8 hb8
      rcases first_cases p with HN | ⟨P, k, rfl, hp2, hp11, HK⟩
      · skip
        go_wp2_with fail
        refine (HN.out.1 _).mono ?_
        rintro e w9 ⟨rfl, hb9⟩
        have hs9 : Below w8.heap.size w8 w9 := (by go_grown : Below w8.heap.size w8 _).trans (hb9.mono (by go_size))
        have HW9 := hide (HW8.out.trans (hs9.mono HW8.out.size))
        clear hs9 hb9
        go_wp2_with fail
        refine (HN.out.2 _).mono ?_
        rintro e w10 ⟨rfl, hb10⟩
        have hs10 : Below w9.heap.size w9 w10 := (by go_grown : Below w9.heap.size w9 _).trans (hb10.mono (by go_size))
        have HW10 := hide (HW9.out.trans (hs10.mono HW9.out.size))
        clear hs10 hb10
        go_wp2
        go_ret
        exact ⟨rfl, by have h := HW10.out; have hz := h.size; go_grown⟩
      · skip
        go_wp2_with fail
        refine (HK.out.1 _).mono ?_
        rintro e w9 ⟨rfl, hb9⟩
        have hs9 : Below w8.heap.size w8 w9 := (by go_grown : Below w8.heap.size w8 _).trans (hb9.mono (by go_size))
        have HW9 := hide (HW8.out.trans (hs9.mono HW8.out.size))
        clear hs9 hb9
        go_wp2_with fail
        refine (HK.out.2.1 _).mono ?_
        rintro e w10 ⟨rfl, hb10⟩
        have hs10 : Below w9.heap.size w9 w10 := (by go_grown : Below w9.heap.size w9 _).trans (hb10.mono (by go_size))
        have HW10 := hide (HW9.out.trans (hs10.mono HW9.out.size))
        clear hs10 hb10
        obtain ⟨hk1, hk5⟩ := HK.out.2.2.1
        go_wp2
        go_loopw [32] (fun x wr => ∃ j : Nat, x = .int .i64 j ∧ 1 ≤ j ∧ j ≤ 42 ∧ j ≤ k + 1 ∧ Hid (Below w.heap.size w wr)) (fun x _ => 42 - (intOf x).toNat)
        case atStart => exact ⟨1, rfl, by omega, by omega, by omega, hide (by have h := HW10.out; have hz := h.size; go_grown)⟩
        case round =>
          obtain ⟨j, rfl, hj1, hj42, hjk, HWr⟩ := hrel
          by_cases hr : j ≤ k ∧ j ≤ 41
          · obtain ⟨hrk, hr41⟩ := hr
            by_cases hjeq : j = k
            · have hrest : rm (fi j) P = 0 := by rw [hjeq]; exact HK.out.2.2.2.1
              obtain ⟨r, hrr⟩ : ∃ r, rm (fi j) P = r := ⟨_, rfl⟩
              have hq : ((r : Int) == 0) = true := by rw [hrr] at hrest; simp; omega
              have he : ((j : Int) == (k : Int)) = true := by simp; omega
              have HRR := hide hrr
              clear hrest hrr hjeq
              go_wp2_with fail
              refine (fibImpl j _ hr41).mono ?_
              rintro e v1 ⟨rfl, hv1⟩
              have HV1 := hide (HWr.out.trans (hv1.mono HWr.out.size))
              clear hv1
              go_wp2_with fail
              refine (divV (fi j) P r _ (fi_41 hr41) hp2 hp11 HRR.out).mono ?_
              rintro e v2 ⟨rfl, hv2⟩
              have HV2 := hide (HV1.out.trans (hv2.mono HV1.out.size))
              clear hv2
              go_wp2
              go_roundw
              case rel => exact ⟨j + 1, by go_num, by omega, by omega, by omega, HV2⟩
              case measure => simp [intOf]; omega
            · have hrest : rm (fi j) P ≠ 0 := HK.out.2.2.2.2 j hj1 (by omega)
              obtain ⟨r, hrr⟩ : ∃ r, rm (fi j) P = r := ⟨_, rfl⟩
              have hq : ((r : Int) == 0) = false := by rw [hrr] at hrest; simp; omega
              have he : ((j : Int) == (k : Int)) = false := by simp; omega
              have HRR := hide hrr
              clear hrest hrr hjeq
              go_wp2_with fail
              refine (fibImpl j _ hr41).mono ?_
              rintro e v1 ⟨rfl, hv1⟩
              have HV1 := hide (HWr.out.trans (hv1.mono HWr.out.size))
              clear hv1
              go_wp2_with fail
              refine (divV (fi j) P r _ (fi_41 hr41) hp2 hp11 HRR.out).mono ?_
              rintro e v2 ⟨rfl, hv2⟩
              have HV2 := hide (HV1.out.trans (hv2.mono HV1.out.size))
              clear hv2
              go_wp2
              go_roundw
              case rel => exact ⟨j + 1, by go_num, by omega, by omega, by omega, HV2⟩
              case measure => simp [intOf]; omega
          · have hr2 : k < j ∨ (j ≤ k ∧ 41 < j) := by omega
            clear hr
            rcases hr2 with hr2 | ⟨hr2, hr3⟩
            all_goals
              go_wp2
              go_ret
              exact ⟨rfl, by have h := HWr.out; have hz := h.size; go_grown⟩
    · obtain ⟨m, rfl, hm41⟩ := in_nat0 HM
      have HM := hide HM
      go_wp2_with fail
      refine (fibImpl m _ hm41).mono ?_
      rintro e w6 ⟨rfl, hb6⟩
      have hs6 : Below w5.heap.size w5 w6 := (by go_grown : Below w5.heap.size w5 _).trans (hb6.mono (by go_size))
      have HW6 := hide (HW5.out.trans (hs6.mono HW5.out.size))
      clear hs6 hb6
      go_wp2_with fail
      refine (fibSpec m _ hm41).mono ?_
      rintro e w7 ⟨rfl, hb7⟩
      have hs7 : Below w6.heap.size w6 w7 := (by go_grown : Below w6.heap.size w6 _).trans (hb7.mono (by go_size))
      have HW7 := hide (HW6.out.trans (hs7.mono HW6.out.size))
      clear hs7 hb7
      go_wp2_with fail
      refine (drawFirst_any _ _ _ f' _ (by omega) (HS_B.out.below HW7.out) HF_B.out).mono ?_
      rintro e w8 ⟨p, rfl, hb8⟩
      have hs8 : Below w7.heap.size w7 w8 := (by go_grown : Below w7.heap.size w7 _).trans (hb8.mono (by go_size))
      have HW8 := hide (HW7.out.trans (hs8.mono HW7.out.size))
      clear hs8 hb8
      rcases first_cases p with HN | ⟨P, k, rfl, hp2, hp11, HK⟩
      · skip
        go_wp2_with fail
        refine (HN.out.1 _).mono ?_
        rintro e w9 ⟨rfl, hb9⟩
        have hs9 : Below w8.heap.size w8 w9 := (by go_grown : Below w8.heap.size w8 _).trans (hb9.mono (by go_size))
        have HW9 := hide (HW8.out.trans (hs9.mono HW8.out.size))
        clear hs9 hb9
        go_wp2_with fail
        refine (HN.out.2 _).mono ?_
        rintro e w10 ⟨rfl, hb10⟩
        have hs10 : Below w9.heap.size w9 w10 := (by go_grown : Below w9.heap.size w9 _).trans (hb10.mono (by go_size))
        have HW10 := hide (HW9.out.trans (hs10.mono HW9.out.size))
        clear hs10 hb10
        go_wp2
        go_ret
        exact ⟨rfl, by have h := HW10.out; have hz := h.size; go_grown⟩
      · skip
        go_wp2_with fail
        refine (HK.out.1 _).mono ?_
        rintro e w9 ⟨rfl, hb9⟩
        have hs9 : Below w8.heap.size w8 w9 := (by go_grown : Below w8.heap.size w8 _).trans (hb9.mono (by go_size))
        have HW9 := hide (HW8.out.trans (hs9.mono HW8.out.size))
        clear hs9 hb9
        go_wp2_with fail
        refine (HK.out.2.1 _).mono ?_
        rintro e w10 ⟨rfl, hb10⟩
        have hs10 : Below w9.heap.size w9 w10 := (by go_grown : Below w9.heap.size w9 _).trans (hb10.mono (by go_size))
        have HW10 := hide (HW9.out.trans (hs10.mono HW9.out.size))
        clear hs10 hb10
        obtain ⟨hk1, hk5⟩ := HK.out.2.2.1
        go_wp2
        go_loopw [32] (fun x wr => ∃ j : Nat, x = .int .i64 j ∧ 1 ≤ j ∧ j ≤ 42 ∧ j ≤ k + 1 ∧ Hid (Below w.heap.size w wr)) (fun x _ => 42 - (intOf x).toNat)
        case atStart => exact ⟨1, rfl, by omega, by omega, by omega, hide (by have h := HW10.out; have hz := h.size; go_grown)⟩
        case round =>
          obtain ⟨j, rfl, hj1, hj42, hjk, HWr⟩ := hrel
          by_cases hr : j ≤ k ∧ j ≤ 41
          · obtain ⟨hrk, hr41⟩ := hr
            by_cases hjeq : j = k
            · have hrest : rm (fi j) P = 0 := by rw [hjeq]; exact HK.out.2.2.2.1
              obtain ⟨r, hrr⟩ : ∃ r, rm (fi j) P = r := ⟨_, rfl⟩
              have hq : ((r : Int) == 0) = true := by rw [hrr] at hrest; simp; omega
              have he : ((j : Int) == (k : Int)) = true := by simp; omega
              have HRR := hide hrr
              clear hrest hrr hjeq
              go_wp2_with fail
              refine (fibImpl j _ hr41).mono ?_
              rintro e v1 ⟨rfl, hv1⟩
              have HV1 := hide (HWr.out.trans (hv1.mono HWr.out.size))
              clear hv1
              go_wp2_with fail
              refine (divV (fi j) P r _ (fi_41 hr41) hp2 hp11 HRR.out).mono ?_
              rintro e v2 ⟨rfl, hv2⟩
              have HV2 := hide (HV1.out.trans (hv2.mono HV1.out.size))
              clear hv2
              go_wp2
              go_roundw
              case rel => exact ⟨j + 1, by go_num, by omega, by omega, by omega, HV2⟩
              case measure => simp [intOf]; omega
            · have hrest : rm (fi j) P ≠ 0 := HK.out.2.2.2.2 j hj1 (by omega)
              obtain ⟨r, hrr⟩ : ∃ r, rm (fi j) P = r := ⟨_, rfl⟩
              have hq : ((r : Int) == 0) = false := by rw [hrr] at hrest; simp; omega
              have he : ((j : Int) == (k : Int)) = false := by simp; omega
              have HRR := hide hrr
              clear hrest hrr hjeq
              go_wp2_with fail
              refine (fibImpl j _ hr41).mono ?_
              rintro e v1 ⟨rfl, hv1⟩
              have HV1 := hide (HWr.out.trans (hv1.mono HWr.out.size))
              clear hv1
              go_wp2_with fail
              refine (divV (fi j) P r _ (fi_41 hr41) hp2 hp11 HRR.out).mono ?_
              rintro e v2 ⟨rfl, hv2⟩
              have HV2 := hide (HV1.out.trans (hv2.mono HV1.out.size))
              clear hv2
              go_wp2
              go_roundw
              case rel => exact ⟨j + 1, by go_num, by omega, by omega, by omega, HV2⟩
              case measure => simp [intOf]; omega
          · have hr2 : k < j ∨ (j ≤ k ∧ 41 < j) := by omega
            clear hr
            rcases hr2 with hr2 | ⟨hr2, hr3⟩
            all_goals
              go_wp2
              go_ret
              exact ⟨rfl, by have h := HWr.out; have hz := h.size; go_grown⟩
  · obtain ⟨n, rfl, hn41⟩ := in_nat0 HN1
    have HN1 := hide HN1
    go_wp2_with fail
    refine (fibImpl n _ hn41).mono ?_
    rintro e w3 ⟨rfl, hb3⟩
    have hs3 : Below w2.heap.size w2 w3 := (by go_grown : Below w2.heap.size w2 _).trans (hb3.mono (by go_size))
    have HW3 := hide (HW2.out.trans (hs3.mono HW2.out.size))
    clear hs3 hb3
    go_wp2_with fail
    refine (fibSpec n _ hn41).mono ?_
    rintro e w4 ⟨rfl, hb4⟩
    have hs4 : Below w3.heap.size w3 w4 := (by go_grown : Below w3.heap.size w3 _).trans (hb4.mono (by go_size))
    have HW4 := hide (HW3.out.trans (hs4.mono HW3.out.size))
    clear hs4 hb4
    by_cases hz0 : n = 0
    · skip
      subst hz0
      go_wp2_with fail
      refine (drawFib_any _ _ _ f' _ (by omega) (HS_B.out.below HW4.out) HF_B.out).mono ?_
      rintro e w5 ⟨a2, rfl, hb5⟩
      have hs5 : Below w4.heap.size w4 w5 := (by go_grown : Below w4.heap.size w4 _).trans (hb5.mono (by go_size))
      have HW5 := hide (HW4.out.trans (hs5.mono HW4.out.size))
      clear hs5 hb5
      cases HM : inB a2 0 41
      · skip
        have HM := hide HM
        go_wp2_with fail
        refine (fibNoI a2 _ HM.out).mono ?_
        rintro e w6 ⟨rfl, hb6⟩
        have hs6 : Below w5.heap.size w5 w6 := (by go_grown : Below w5.heap.size w5 _).trans (hb6.mono (by go_size))
        have HW6 := hide (HW5.out.trans (hs6.mono HW5.out.size))
        clear hs6 hb6
        go_wp2_with fail
        refine (fibNoS a2 _ HM.out).mono ?_
        rintro e w7 ⟨rfl, hb7⟩
        have hs7 : Below w6.heap.size w6 w7 := (by go_grown : Below w6.heap.size w6 _).trans (hb7.mono (by go_size))
        have HW7 := hide (HW6.out.trans (hs7.mono HW6.out.size))
        clear hs7 hb7
        go_wp2_with fail
        refine (drawFirst_any _ _ _ f' _ (by omega) (HS_B.out.below HW7.out) HF_B.out).mono ?_
        rintro e w8 ⟨p, rfl, hb8⟩
        have hs8 : Below w7.heap.size w7 w8 := (by go_grown : Below w7.heap.size w7 _).trans (hb8.mono (by go_size))
        have HW8 := hide (HW7.out.trans (hs8.mono HW7.out.size))
        clear hs8 hb8
        rcases first_cases p with HN | ⟨P, k, rfl, hp2, hp11, HK⟩
        · skip
          go_wp2_with fail
          refine (HN.out.1 _).mono ?_
          rintro e w9 ⟨rfl, hb9⟩
          have hs9 : Below w8.heap.size w8 w9 := (by go_grown : Below w8.heap.size w8 _).trans (hb9.mono (by go_size))
          have HW9 := hide (HW8.out.trans (hs9.mono HW8.out.size))
          clear hs9 hb9
          go_wp2_with fail
          refine (HN.out.2 _).mono ?_
          rintro e w10 ⟨rfl, hb10⟩
          have hs10 : Below w9.heap.size w9 w10 := (by go_grown : Below w9.heap.size w9 _).trans (hb10.mono (by go_size))
          have HW10 := hide (HW9.out.trans (hs10.mono HW9.out.size))
          clear hs10 hb10
          go_wp2
          go_ret
          exact ⟨rfl, by have h := HW10.out; have hz := h.size; go_grown⟩
        · skip
          go_wp2_with fail
          refine (HK.out.1 _).mono ?_
          rintro e w9 ⟨rfl, hb9⟩
          have hs9 : Below w8.heap.size w8 w9 := (by go_grown : Below w8.heap.size w8 _).trans (hb9.mono (by go_size))
          have HW9 := hide (HW8.out.trans (hs9.mono HW8.out.size))
          clear hs9 hb9
          go_wp2_with fail
          refine (HK.out.2.1 _).mono ?_
          rintro e w10 ⟨rfl, hb10⟩
          have hs10 : Below w9.heap.size w9 w10 := (by go_grown : Below w9.heap.size w9 _).trans (hb10.mono (by go_size))
          have HW10 := hide (HW9.out.trans (hs10.mono HW9.out.size))
          clear hs10 hb10
          obtain ⟨hk1, hk5⟩ := HK.out.2.2.1
          go_wp2
          go_loopw [32] (fun x wr => ∃ j : Nat, x = .int .i64 j ∧ 1 ≤ j ∧ j ≤ 42 ∧ j ≤ k + 1 ∧ Hid (Below w.heap.size w wr)) (fun x _ => 42 - (intOf x).toNat)
          case atStart => exact ⟨1, rfl, by omega, by omega, by omega, hide (by have h := HW10.out; have hz := h.size; go_grown)⟩
          case round =>
            obtain ⟨j, rfl, hj1, hj42, hjk, HWr⟩ := hrel
            by_cases hr : j ≤ k ∧ j ≤ 41
            · obtain ⟨hrk, hr41⟩ := hr
              by_cases hjeq : j = k
              · have hrest : rm (fi j) P = 0 := by rw [hjeq]; exact HK.out.2.2.2.1
                obtain ⟨r, hrr⟩ : ∃ r, rm (fi j) P = r := ⟨_, rfl⟩
                have hq : ((r : Int) == 0) = true := by rw [hrr] at hrest; simp; omega
                have he : ((j : Int) == (k : Int)) = true := by simp; omega
                have HRR := hide hrr
                clear hrest hrr hjeq
                go_wp2_with fail
                refine (fibImpl j _ hr41).mono ?_
                rintro e v1 ⟨rfl, hv1⟩
                have HV1 := hide (HWr.out.trans (hv1.mono HWr.out.size))
                clear hv1
                go_wp2_with fail
                refine (divV (fi j) P r _ (fi_41 hr41) hp2 hp11 HRR.out).mono ?_
                rintro e v2 ⟨rfl, hv2⟩
                have HV2 := hide (HV1.out.trans (hv2.mono HV1.out.size))
                clear hv2
                go_wp2
                go_roundw
                case rel => exact ⟨j + 1, by go_num, by omega, by omega, by omega, HV2⟩
                case measure => simp [intOf]; omega
              · have hrest : rm (fi j) P ≠ 0 := HK.out.2.2.2.2 j hj1 (by omega)
                obtain ⟨r, hrr⟩ : ∃ r, rm (fi j) P = r := ⟨_, rfl⟩
                have hq : ((r : Int) == 0) = false := by rw [hrr] at hrest; simp; omega
                have he : ((j : Int) == (k : Int)) = false := by simp; omega
                have HRR := hide hrr
                clear hrest hrr hjeq
                go_wp2_with fail
                refine (fibImpl j _ hr41).mono ?_
                rintro e v1 ⟨rfl, hv1⟩
                have HV1 := hide (HWr.out.trans (hv1.mono HWr.out.size))
                clear hv1
                go_wp2_with fail
                refine (divV (fi j) P r _ (fi_41 hr41) hp2 hp11 HRR.out).mono ?_
                rintro e v2 ⟨rfl, hv2⟩
                have HV2 := hide (HV1.out.trans (hv2.mono HV1.out.size))
                clear hv2
                go_wp2
                go_roundw
                case rel => exact ⟨j + 1, by go_num, by omega, by omega, by omega, HV2⟩
                case measure => simp [intOf]; omega
            · have hr2 : k < j ∨ (j ≤ k ∧ 41 < j) := by omega
              clear hr
              rcases hr2 with hr2 | ⟨hr2, hr3⟩
              all_goals
                go_wp2
                go_ret
                exact ⟨rfl, by have h := HWr.out; have hz := h.size; go_grown⟩
      · obtain ⟨m, rfl, hm41⟩ := in_nat0 HM
        have HM := hide HM
        go_wp2_with fail
        refine (fibImpl m _ hm41).mono ?_
        rintro e w6 ⟨rfl, hb6⟩
        have hs6 : Below w5.heap.size w5 w6 := (by go_grown : Below w5.heap.size w5 _).trans (hb6.mono (by go_size))
        have HW6 := hide (HW5.out.trans (hs6.mono HW5.out.size))
        clear hs6 hb6
        go_wp2_with fail
        refine (fibSpec m _ hm41).mono ?_
        rintro e w7 ⟨rfl, hb7⟩
        have hs7 : Below w6.heap.size w6 w7 := (by go_grown : Below w6.heap.size w6 _).trans (hb7.mono (by go_size))
        have HW7 := hide (HW6.out.trans (hs7.mono HW6.out.size))
        clear hs7 hb7
        go_wp2_with fail
        refine (gcdV 0 m _ (by omega) hm41).mono ?_
        rintro e w8 ⟨rfl, hb8⟩
        have hs8 : Below w7.heap.size w7 w8 := (by go_grown : Below w7.heap.size w7 _).trans (hb8.mono (by go_size))
        have HW8 := hide (HW7.out.trans (hs8.mono HW7.out.size))
        clear hs8 hb8
        go_wp2_with fail
        refine (vGcd_any 0 m _ (by omega) hm41).mono ?_
        rintro e w9 ⟨rfl, hb9⟩
        have hs9 : Below w8.heap.size w8 w9 := (by go_grown : Below w8.heap.size w8 _).trans (hb9.mono (by go_size))
        have HW9 := hide (HW8.out.trans (hs9.mono HW8.out.size))
        clear hs9 hb9
        go_wp2_with fail
        refine (fibImpl (gn2 m 0 m) _ (gn2_le _ _ _ (by omega) hm41)).mono ?_
        rintro e w10 ⟨rfl, hb10⟩
        have hs10 : Below w9.heap.size w9 w10 := (by go_grown : Below w9.heap.size w9 _).trans (hb10.mono (by go_size))
        have HW10 := hide (HW9.out.trans (hs10.mono HW9.out.size))
        clear hs10 hb10
        go_wp2_with fail
        refine (drawFirst_any _ _ _ f' _ (by omega) (HS_B.out.below HW10.out) HF_B.out).mono ?_
        rintro e w11 ⟨p, rfl, hb11⟩
        have hs11 : Below w10.heap.size w10 w11 := (by go_grown : Below w10.heap.size w10 _).trans (hb11.mono (by go_size))
        have HW11 := hide (HW10.out.trans (hs11.mono HW10.out.size))
        clear hs11 hb11
        rcases first_cases p with HN | ⟨P, k, rfl, hp2, hp11, HK⟩
        · skip
          go_wp2_with fail
          refine (HN.out.1 _).mono ?_
          rintro e w12 ⟨rfl, hb12⟩
          have hs12 : Below w11.heap.size w11 w12 := (by go_grown : Below w11.heap.size w11 _).trans (hb12.mono (by go_size))
          have HW12 := hide (HW11.out.trans (hs12.mono HW11.out.size))
          clear hs12 hb12
          go_wp2_with fail
          refine (HN.out.2 _).mono ?_
          rintro e w13 ⟨rfl, hb13⟩
          have hs13 : Below w12.heap.size w12 w13 := (by go_grown : Below w12.heap.size w12 _).trans (hb13.mono (by go_size))
          have HW13 := hide (HW12.out.trans (hs13.mono HW12.out.size))
          clear hs13 hb13
          go_wp2
          go_ret
          exact ⟨rfl, by have h := HW13.out; have hz := h.size; go_grown⟩
        · skip
          go_wp2_with fail
          refine (HK.out.1 _).mono ?_
          rintro e w12 ⟨rfl, hb12⟩
          have hs12 : Below w11.heap.size w11 w12 := (by go_grown : Below w11.heap.size w11 _).trans (hb12.mono (by go_size))
          have HW12 := hide (HW11.out.trans (hs12.mono HW11.out.size))
          clear hs12 hb12
          go_wp2_with fail
          refine (HK.out.2.1 _).mono ?_
          rintro e w13 ⟨rfl, hb13⟩
          have hs13 : Below w12.heap.size w12 w13 := (by go_grown : Below w12.heap.size w12 _).trans (hb13.mono (by go_size))
          have HW13 := hide (HW12.out.trans (hs13.mono HW12.out.size))
          clear hs13 hb13
          obtain ⟨hk1, hk5⟩ := HK.out.2.2.1
          go_wp2
          go_loopw [32] (fun x wr => ∃ j : Nat, x = .int .i64 j ∧ 1 ≤ j ∧ j ≤ 42 ∧ j ≤ k + 1 ∧ Hid (Below w.heap.size w wr)) (fun x _ => 42 - (intOf x).toNat)
          case atStart => exact ⟨1, rfl, by omega, by omega, by omega, hide (by have h := HW13.out; have hz := h.size; go_grown)⟩
          case round =>
            obtain ⟨j, rfl, hj1, hj42, hjk, HWr⟩ := hrel
            by_cases hr : j ≤ k ∧ j ≤ 41
            · obtain ⟨hrk, hr41⟩ := hr
              by_cases hjeq : j = k
              · have hrest : rm (fi j) P = 0 := by rw [hjeq]; exact HK.out.2.2.2.1
                obtain ⟨r, hrr⟩ : ∃ r, rm (fi j) P = r := ⟨_, rfl⟩
                have hq : ((r : Int) == 0) = true := by rw [hrr] at hrest; simp; omega
                have he : ((j : Int) == (k : Int)) = true := by simp; omega
                have HRR := hide hrr
                clear hrest hrr hjeq
                go_wp2_with fail
                refine (fibImpl j _ hr41).mono ?_
                rintro e v1 ⟨rfl, hv1⟩
                have HV1 := hide (HWr.out.trans (hv1.mono HWr.out.size))
                clear hv1
                go_wp2_with fail
                refine (divV (fi j) P r _ (fi_41 hr41) hp2 hp11 HRR.out).mono ?_
                rintro e v2 ⟨rfl, hv2⟩
                have HV2 := hide (HV1.out.trans (hv2.mono HV1.out.size))
                clear hv2
                go_wp2
                go_roundw
                case rel => exact ⟨j + 1, by go_num, by omega, by omega, by omega, HV2⟩
                case measure => simp [intOf]; omega
              · have hrest : rm (fi j) P ≠ 0 := HK.out.2.2.2.2 j hj1 (by omega)
                obtain ⟨r, hrr⟩ : ∃ r, rm (fi j) P = r := ⟨_, rfl⟩
                have hq : ((r : Int) == 0) = false := by rw [hrr] at hrest; simp; omega
                have he : ((j : Int) == (k : Int)) = false := by simp; omega
                have HRR := hide hrr
                clear hrest hrr hjeq
                go_wp2_with fail
                refine (fibImpl j _ hr41).mono ?_
                rintro e v1 ⟨rfl, hv1⟩
                have HV1 := hide (HWr.out.trans (hv1.mono HWr.out.size))
                clear hv1
                go_wp2_with fail
                refine (divV (fi j) P r _ (fi_41 hr41) hp2 hp11 HRR.out).mono ?_
                rintro e v2 ⟨rfl, hv2⟩
                have HV2 := hide (HV1.out.trans (hv2.mono HV1.out.size))
                clear hv2
                go_wp2
                go_roundw
                case rel => exact ⟨j + 1, by go_num, by omega, by omega, by omega, HV2⟩
                case measure => simp [intOf]; omega
            · have hr2 : k < j ∨ (j ≤ k ∧ 41 < j) := by omega
              clear hr
              rcases hr2 with hr2 | ⟨hr2, hr3⟩
              all_goals
                go_wp2
                go_ret
                exact ⟨rfl, by have h := HWr.out; have hz := h.size; go_grown⟩
    · by_cases hn20 : n ≤ 20
      · have hn1 : 1 ≤ n := by omega
        go_wp2_with fail
        refine (drawFib_any _ _ _ f' _ (by omega) (HS_B.out.below HW4.out) HF_B.out).mono ?_
        rintro e w5 ⟨a2, rfl, hb5⟩
        have hs5 : Below w4.heap.size w4 w5 := (by go_grown : Below w4.heap.size w4 _).trans (hb5.mono (by go_size))
        have HW5 := hide (HW4.out.trans (hs5.mono HW4.out.size))
        clear hs5 hb5
        cases HM : inB a2 0 41
        · skip
          have HM := hide HM
          go_wp2_with fail
          refine (fibNoI a2 _ HM.out).mono ?_
          rintro e w6 ⟨rfl, hb6⟩
          have hs6 : Below w5.heap.size w5 w6 := (by go_grown : Below w5.heap.size w5 _).trans (hb6.mono (by go_size))
          have HW6 := hide (HW5.out.trans (hs6.mono HW5.out.size))
          clear hs6 hb6
          go_wp2_with fail
          refine (fibNoS a2 _ HM.out).mono ?_
          rintro e w7 ⟨rfl, hb7⟩
          have hs7 : Below w6.heap.size w6 w7 := (by go_grown : Below w6.heap.size w6 _).trans (hb7.mono (by go_size))
          have HW7 := hide (HW6.out.trans (hs7.mono HW6.out.size))
          clear hs7 hb7
          go_wp2_with fail
          refine (degV n _ (by omega) hn41).mono ?_
          rintro e w8 ⟨rfl, hb8⟩
          have hs8 : Below w7.heap.size w7 w8 := (by go_grown : Below w7.heap.size w7 _).trans (hb8.mono (by go_size))
          have HW8 := hide (HW7.out.trans (hs8.mono HW7.out.size))
          clear hs8 hb8
          go_wp2_with fail
          refine (sqV n _ (by omega) (by omega) (by first | exact HT.out.below HW8.out | exact Tab.below (HT.out.below HW8.out) (by go_grown))).mono ?_
          rintro e w9 ⟨rfl, hb9⟩
          have hs9 : Below w8.heap.size w8 w9 := (by go_grown : Below w8.heap.size w8 _).trans (hb9.mono (by go_size))
          have HW9 := hide (HW8.out.trans (hs9.mono HW8.out.size))
          clear hs9 hb9
          go_wp2_with fail
          refine (fibImplI (2 * (n : Int)) (2 * n) _ (by omega) (by omega)).mono ?_
          rintro e w10 ⟨rfl, hb10⟩
          have hs10 : Below w9.heap.size w9 w10 := (by go_grown : Below w9.heap.size w9 _).trans (hb10.mono (by go_size))
          have HW10 := hide (HW9.out.trans (hs10.mono HW9.out.size))
          clear hs10 hb10
          go_wp2_with fail
          refine (sq2V n _ (by omega) (by omega) (by first | exact HT.out.below HW10.out | exact Tab.below (HT.out.below HW10.out) (by go_grown))).mono ?_
          rintro e w11 ⟨rfl, hb11⟩
          have hs11 : Below w10.heap.size w10 w11 := (by go_grown : Below w10.heap.size w10 _).trans (hb11.mono (by go_size))
          have HW11 := hide (HW10.out.trans (hs11.mono HW10.out.size))
          clear hs11 hb11
          go_wp2_with fail
          refine (drawFirst_any _ _ _ f' _ (by omega) (HS_B.out.below HW11.out) HF_B.out).mono ?_
          rintro e w12 ⟨p, rfl, hb12⟩
          have hs12 : Below w11.heap.size w11 w12 := (by go_grown : Below w11.heap.size w11 _).trans (hb12.mono (by go_size))
          have HW12 := hide (HW11.out.trans (hs12.mono HW11.out.size))
          clear hs12 hb12
          rcases first_cases p with HN | ⟨P, k, rfl, hp2, hp11, HK⟩
          · skip
            go_wp2_with fail
            refine (HN.out.1 _).mono ?_
            rintro e w13 ⟨rfl, hb13⟩
            have hs13 : Below w12.heap.size w12 w13 := (by go_grown : Below w12.heap.size w12 _).trans (hb13.mono (by go_size))
            have HW13 := hide (HW12.out.trans (hs13.mono HW12.out.size))
            clear hs13 hb13
            go_wp2_with fail
            refine (HN.out.2 _).mono ?_
            rintro e w14 ⟨rfl, hb14⟩
            have hs14 : Below w13.heap.size w13 w14 := (by go_grown : Below w13.heap.size w13 _).trans (hb14.mono (by go_size))
            have HW14 := hide (HW13.out.trans (hs14.mono HW13.out.size))
            clear hs14 hb14
            go_wp2
            go_ret
            exact ⟨rfl, by have h := HW14.out; have hz := h.size; go_grown⟩
          · skip
            go_wp2_with fail
            refine (HK.out.1 _).mono ?_
            rintro e w13 ⟨rfl, hb13⟩
            have hs13 : Below w12.heap.size w12 w13 := (by go_grown : Below w12.heap.size w12 _).trans (hb13.mono (by go_size))
            have HW13 := hide (HW12.out.trans (hs13.mono HW12.out.size))
            clear hs13 hb13
            go_wp2_with fail
            refine (HK.out.2.1 _).mono ?_
            rintro e w14 ⟨rfl, hb14⟩
            have hs14 : Below w13.heap.size w13 w14 := (by go_grown : Below w13.heap.size w13 _).trans (hb14.mono (by go_size))
            have HW14 := hide (HW13.out.trans (hs14.mono HW13.out.size))
            clear hs14 hb14
            obtain ⟨hk1, hk5⟩ := HK.out.2.2.1
            go_wp2
            go_loopw [32] (fun x wr => ∃ j : Nat, x = .int .i64 j ∧ 1 ≤ j ∧ j ≤ 42 ∧ j ≤ k + 1 ∧ Hid (Below w.heap.size w wr)) (fun x _ => 42 - (intOf x).toNat)
            case atStart => exact ⟨1, rfl, by omega, by omega, by omega, hide (by have h := HW14.out; have hz := h.size; go_grown)⟩
            case round =>
              obtain ⟨j, rfl, hj1, hj42, hjk, HWr⟩ := hrel
              by_cases hr : j ≤ k ∧ j ≤ 41
              · obtain ⟨hrk, hr41⟩ := hr
                by_cases hjeq : j = k
                · have hrest : rm (fi j) P = 0 := by rw [hjeq]; exact HK.out.2.2.2.1
                  obtain ⟨r, hrr⟩ : ∃ r, rm (fi j) P = r := ⟨_, rfl⟩
                  have hq : ((r : Int) == 0) = true := by rw [hrr] at hrest; simp; omega
                  have he : ((j : Int) == (k : Int)) = true := by simp; omega
                  have HRR := hide hrr
                  clear hrest hrr hjeq
                  go_wp2_with fail
                  refine (fibImpl j _ hr41).mono ?_
                  rintro e v1 ⟨rfl, hv1⟩
                  have HV1 := hide (HWr.out.trans (hv1.mono HWr.out.size))
                  clear hv1
                  go_wp2_with fail
                  refine (divV (fi j) P r _ (fi_41 hr41) hp2 hp11 HRR.out).mono ?_
                  rintro e v2 ⟨rfl, hv2⟩
                  have HV2 := hide (HV1.out.trans (hv2.mono HV1.out.size))
                  clear hv2
                  go_wp2
                  go_roundw
                  case rel => exact ⟨j + 1, by go_num, by omega, by omega, by omega, HV2⟩
                  case measure => simp [intOf]; omega
                · have hrest : rm (fi j) P ≠ 0 := HK.out.2.2.2.2 j hj1 (by omega)
                  obtain ⟨r, hrr⟩ : ∃ r, rm (fi j) P = r := ⟨_, rfl⟩
                  have hq : ((r : Int) == 0) = false := by rw [hrr] at hrest; simp; omega
                  have he : ((j : Int) == (k : Int)) = false := by simp; omega
                  have HRR := hide hrr
                  clear hrest hrr hjeq
                  go_wp2_with fail
                  refine (fibImpl j _ hr41).mono ?_
                  rintro e v1 ⟨rfl, hv1⟩
                  have HV1 := hide (HWr.out.trans (hv1.mono HWr.out.size))
                  clear hv1
                  go_wp2_with fail
                  refine (divV (fi j) P r _ (fi_41 hr41) hp2 hp11 HRR.out).mono ?_
                  rintro e v2 ⟨rfl, hv2⟩
                  have HV2 := hide (HV1.out.trans (hv2.mono HV1.out.size))
                  clear hv2
                  go_wp2
                  go_roundw
                  case rel => exact ⟨j + 1, by go_num, by omega, by omega, by omega, HV2⟩
                  case measure => simp [intOf]; omega
              · have hr2 : k < j ∨ (j ≤ k ∧ 41 < j) := by omega
                clear hr
                rcases hr2 with hr2 | ⟨hr2, hr3⟩
                all_goals
                  go_wp2
                  go_ret
                  exact ⟨rfl, by have h := HWr.out; have hz := h.size; go_grown⟩
        · obtain ⟨m, rfl, hm41⟩ := in_nat0 HM
          have HM := hide HM
          go_wp2_with fail
          refine (fibImpl m _ hm41).mono ?_
          rintro e w6 ⟨rfl, hb6⟩
          have hs6 : Below w5.heap.size w5 w6 := (by go_grown : Below w5.heap.size w5 _).trans (hb6.mono (by go_size))
          have HW6 := hide (HW5.out.trans (hs6.mono HW5.out.size))
          clear hs6 hb6
          go_wp2_with fail
          refine (fibSpec m _ hm41).mono ?_
          rintro e w7 ⟨rfl, hb7⟩
          have hs7 : Below w6.heap.size w6 w7 := (by go_grown : Below w6.heap.size w6 _).trans (hb7.mono (by go_size))
          have HW7 := hide (HW6.out.trans (hs7.mono HW6.out.size))
          clear hs7 hb7
          go_wp2_with fail
          refine (gcdV n m _ hn41 hm41).mono ?_
          rintro e w8 ⟨rfl, hb8⟩
          have hs8 : Below w7.heap.size w7 w8 := (by go_grown : Below w7.heap.size w7 _).trans (hb8.mono (by go_size))
          have HW8 := hide (HW7.out.trans (hs8.mono HW7.out.size))
          clear hs8 hb8
          go_wp2_with fail
          refine (vGcd_any n m _ hn41 hm41).mono ?_
          rintro e w9 ⟨rfl, hb9⟩
          have hs9 : Below w8.heap.size w8 w9 := (by go_grown : Below w8.heap.size w8 _).trans (hb9.mono (by go_size))
          have HW9 := hide (HW8.out.trans (hs9.mono HW8.out.size))
          clear hs9 hb9
          go_wp2_with fail
          refine (fibImpl (gn2 m n m) _ (gn2_le _ _ _ hn41 hm41)).mono ?_
          rintro e w10 ⟨rfl, hb10⟩
          have hs10 : Below w9.heap.size w9 w10 := (by go_grown : Below w9.heap.size w9 _).trans (hb10.mono (by go_size))
          have HW10 := hide (HW9.out.trans (hs10.mono HW9.out.size))
          clear hs10 hb10
          go_wp2_with fail
          refine (degV n _ (by omega) hn41).mono ?_
          rintro e w11 ⟨rfl, hb11⟩
          have hs11 : Below w10.heap.size w10 w11 := (by go_grown : Below w10.heap.size w10 _).trans (hb11.mono (by go_size))
          have HW11 := hide (HW10.out.trans (hs11.mono HW10.out.size))
          clear hs11 hb11
          go_wp2_with fail
          refine (sqV n _ (by omega) (by omega) (by first | exact HT.out.below HW11.out | exact Tab.below (HT.out.below HW11.out) (by go_grown))).mono ?_
          rintro e w12 ⟨rfl, hb12⟩
          have hs12 : Below w11.heap.size w11 w12 := (by go_grown : Below w11.heap.size w11 _).trans (hb12.mono (by go_size))
          have HW12 := hide (HW11.out.trans (hs12.mono HW11.out.size))
          clear hs12 hb12
          go_wp2_with fail
          refine (fibImplI (2 * (n : Int)) (2 * n) _ (by omega) (by omega)).mono ?_
          rintro e w13 ⟨rfl, hb13⟩
          have hs13 : Below w12.heap.size w12 w13 := (by go_grown : Below w12.heap.size w12 _).trans (hb13.mono (by go_size))
          have HW13 := hide (HW12.out.trans (hs13.mono HW12.out.size))
          clear hs13 hb13
          go_wp2_with fail
          refine (sq2V n _ (by omega) (by omega) (by first | exact HT.out.below HW13.out | exact Tab.below (HT.out.below HW13.out) (by go_grown))).mono ?_
          rintro e w14 ⟨rfl, hb14⟩
          have hs14 : Below w13.heap.size w13 w14 := (by go_grown : Below w13.heap.size w13 _).trans (hb14.mono (by go_size))
          have HW14 := hide (HW13.out.trans (hs14.mono HW13.out.size))
          clear hs14 hb14
          go_wp2_with fail
          refine (drawFirst_any _ _ _ f' _ (by omega) (HS_B.out.below HW14.out) HF_B.out).mono ?_
          rintro e w15 ⟨p, rfl, hb15⟩
          have hs15 : Below w14.heap.size w14 w15 := (by go_grown : Below w14.heap.size w14 _).trans (hb15.mono (by go_size))
          have HW15 := hide (HW14.out.trans (hs15.mono HW14.out.size))
          clear hs15 hb15
          rcases first_cases p with HN | ⟨P, k, rfl, hp2, hp11, HK⟩
          · skip
            go_wp2_with fail
            refine (HN.out.1 _).mono ?_
            rintro e w16 ⟨rfl, hb16⟩
            have hs16 : Below w15.heap.size w15 w16 := (by go_grown : Below w15.heap.size w15 _).trans (hb16.mono (by go_size))
            have HW16 := hide (HW15.out.trans (hs16.mono HW15.out.size))
            clear hs16 hb16
            go_wp2_with fail
            refine (HN.out.2 _).mono ?_
            rintro e w17 ⟨rfl, hb17⟩
            have hs17 : Below w16.heap.size w16 w17 := (by go_grown : Below w16.heap.size w16 _).trans (hb17.mono (by go_size))
            have HW17 := hide (HW16.out.trans (hs17.mono HW16.out.size))
            clear hs17 hb17
            go_wp2
            go_ret
            exact ⟨rfl, by have h := HW17.out; have hz := h.size; go_grown⟩
          · skip
            go_wp2_with fail
            refine (HK.out.1 _).mono ?_
            rintro e w16 ⟨rfl, hb16⟩
            have hs16 : Below w15.heap.size w15 w16 := (by go_grown : Below w15.heap.size w15 _).trans (hb16.mono (by go_size))
            have HW16 := hide (HW15.out.trans (hs16.mono HW15.out.size))
            clear hs16 hb16
            go_wp2_with fail
            refine (HK.out.2.1 _).mono ?_
            rintro e w17 ⟨rfl, hb17⟩
            have hs17 : Below w16.heap.size w16 w17 := (by go_grown : Below w16.heap.size w16 _).trans (hb17.mono (by go_size))
            have HW17 := hide (HW16.out.trans (hs17.mono HW16.out.size))
            clear hs17 hb17
            obtain ⟨hk1, hk5⟩ := HK.out.2.2.1
            go_wp2
            go_loopw [32] (fun x wr => ∃ j : Nat, x = .int .i64 j ∧ 1 ≤ j ∧ j ≤ 42 ∧ j ≤ k + 1 ∧ Hid (Below w.heap.size w wr)) (fun x _ => 42 - (intOf x).toNat)
            case atStart => exact ⟨1, rfl, by omega, by omega, by omega, hide (by have h := HW17.out; have hz := h.size; go_grown)⟩
            case round =>
              obtain ⟨j, rfl, hj1, hj42, hjk, HWr⟩ := hrel
              by_cases hr : j ≤ k ∧ j ≤ 41
              · obtain ⟨hrk, hr41⟩ := hr
                by_cases hjeq : j = k
                · have hrest : rm (fi j) P = 0 := by rw [hjeq]; exact HK.out.2.2.2.1
                  obtain ⟨r, hrr⟩ : ∃ r, rm (fi j) P = r := ⟨_, rfl⟩
                  have hq : ((r : Int) == 0) = true := by rw [hrr] at hrest; simp; omega
                  have he : ((j : Int) == (k : Int)) = true := by simp; omega
                  have HRR := hide hrr
                  clear hrest hrr hjeq
                  go_wp2_with fail
                  refine (fibImpl j _ hr41).mono ?_
                  rintro e v1 ⟨rfl, hv1⟩
                  have HV1 := hide (HWr.out.trans (hv1.mono HWr.out.size))
                  clear hv1
                  go_wp2_with fail
                  refine (divV (fi j) P r _ (fi_41 hr41) hp2 hp11 HRR.out).mono ?_
                  rintro e v2 ⟨rfl, hv2⟩
                  have HV2 := hide (HV1.out.trans (hv2.mono HV1.out.size))
                  clear hv2
                  go_wp2
                  go_roundw
                  case rel => exact ⟨j + 1, by go_num, by omega, by omega, by omega, HV2⟩
                  case measure => simp [intOf]; omega
                · have hrest : rm (fi j) P ≠ 0 := HK.out.2.2.2.2 j hj1 (by omega)
                  obtain ⟨r, hrr⟩ : ∃ r, rm (fi j) P = r := ⟨_, rfl⟩
                  have hq : ((r : Int) == 0) = false := by rw [hrr] at hrest; simp; omega
                  have he : ((j : Int) == (k : Int)) = false := by simp; omega
                  have HRR := hide hrr
                  clear hrest hrr hjeq
                  go_wp2_with fail
                  refine (fibImpl j _ hr41).mono ?_
                  rintro e v1 ⟨rfl, hv1⟩
                  have HV1 := hide (HWr.out.trans (hv1.mono HWr.out.size))
                  clear hv1
                  go_wp2_with fail
                  refine (divV (fi j) P r _ (fi_41 hr41) hp2 hp11 HRR.out).mono ?_
                  rintro e v2 ⟨rfl, hv2⟩
                  have HV2 := hide (HV1.out.trans (hv2.mono HV1.out.size))
                  clear hv2
                  go_wp2
                  go_roundw
                  case rel => exact ⟨j + 1, by go_num, by omega, by omega, by omega, HV2⟩
                  case measure => simp [intOf]; omega
              · have hr2 : k < j ∨ (j ≤ k ∧ 41 < j) := by omega
                clear hr
                rcases hr2 with hr2 | ⟨hr2, hr3⟩
                all_goals
                  go_wp2
                  go_ret
                  exact ⟨rfl, by have h := HWr.out; have hz := h.size; go_grown⟩
      · by_cases hn21 : n ≤ 21
        · have hn1 : 1 ≤ n := by omega
          go_wp2_with fail
          refine (drawFib_any _ _ _ f' _ (by omega) (HS_B.out.below HW4.out) HF_B.out).mono ?_
          rintro e w5 ⟨a2, rfl, hb5⟩
          have hs5 : Below w4.heap.size w4 w5 := (by go_grown : Below w4.heap.size w4 _).trans (hb5.mono (by go_size))
          have HW5 := hide (HW4.out.trans (hs5.mono HW4.out.size))
          clear hs5 hb5
          cases HM : inB a2 0 41
          · skip
            have HM := hide HM
            go_wp2_with fail
            refine (fibNoI a2 _ HM.out).mono ?_
            rintro e w6 ⟨rfl, hb6⟩
            have hs6 : Below w5.heap.size w5 w6 := (by go_grown : Below w5.heap.size w5 _).trans (hb6.mono (by go_size))
            have HW6 := hide (HW5.out.trans (hs6.mono HW5.out.size))
            clear hs6 hb6
            go_wp2_with fail
            refine (fibNoS a2 _ HM.out).mono ?_
            rintro e w7 ⟨rfl, hb7⟩
            have hs7 : Below w6.heap.size w6 w7 := (by go_grown : Below w6.heap.size w6 _).trans (hb7.mono (by go_size))
            have HW7 := hide (HW6.out.trans (hs7.mono HW6.out.size))
            clear hs7 hb7
            go_wp2_with fail
            refine (degV n _ (by omega) hn41).mono ?_
            rintro e w8 ⟨rfl, hb8⟩
            have hs8 : Below w7.heap.size w7 w8 := (by go_grown : Below w7.heap.size w7 _).trans (hb8.mono (by go_size))
            have HW8 := hide (HW7.out.trans (hs8.mono HW7.out.size))
            clear hs8 hb8
            go_wp2_with fail
            refine (sqV n _ (by omega) (by omega) (by first | exact HT.out.below HW8.out | exact Tab.below (HT.out.below HW8.out) (by go_grown))).mono ?_
            rintro e w9 ⟨rfl, hb9⟩
            have hs9 : Below w8.heap.size w8 w9 := (by go_grown : Below w8.heap.size w8 _).trans (hb9.mono (by go_size))
            have HW9 := hide (HW8.out.trans (hs9.mono HW8.out.size))
            clear hs9 hb9
            go_wp2_with fail
            refine (fibNoI (2 * (n : Int)) _ (inB_no (by omega))).mono ?_
            rintro e w10 ⟨rfl, hb10⟩
            have hs10 : Below w9.heap.size w9 w10 := (by go_grown : Below w9.heap.size w9 _).trans (hb10.mono (by go_size))
            have HW10 := hide (HW9.out.trans (hs10.mono HW9.out.size))
            clear hs10 hb10
            go_wp2_with fail
            refine (drawFirst_any _ _ _ f' _ (by omega) (HS_B.out.below HW10.out) HF_B.out).mono ?_
            rintro e w11 ⟨p, rfl, hb11⟩
            have hs11 : Below w10.heap.size w10 w11 := (by go_grown : Below w10.heap.size w10 _).trans (hb11.mono (by go_size))
            have HW11 := hide (HW10.out.trans (hs11.mono HW10.out.size))
            clear hs11 hb11
            rcases first_cases p with HN | ⟨P, k, rfl, hp2, hp11, HK⟩
            · skip
              go_wp2_with fail
              refine (HN.out.1 _).mono ?_
              rintro e w12 ⟨rfl, hb12⟩
              have hs12 : Below w11.heap.size w11 w12 := (by go_grown : Below w11.heap.size w11 _).trans (hb12.mono (by go_size))
              have HW12 := hide (HW11.out.trans (hs12.mono HW11.out.size))
              clear hs12 hb12
              go_wp2_with fail
              refine (HN.out.2 _).mono ?_
              rintro e w13 ⟨rfl, hb13⟩
              have hs13 : Below w12.heap.size w12 w13 := (by go_grown : Below w12.heap.size w12 _).trans (hb13.mono (by go_size))
              have HW13 := hide (HW12.out.trans (hs13.mono HW12.out.size))
              clear hs13 hb13
              go_wp2
              go_ret
              exact ⟨rfl, by have h := HW13.out; have hz := h.size; go_grown⟩
            · skip
              go_wp2_with fail
              refine (HK.out.1 _).mono ?_
              rintro e w12 ⟨rfl, hb12⟩
              have hs12 : Below w11.heap.size w11 w12 := (by go_grown : Below w11.heap.size w11 _).trans (hb12.mono (by go_size))
              have HW12 := hide (HW11.out.trans (hs12.mono HW11.out.size))
              clear hs12 hb12
              go_wp2_with fail
              refine (HK.out.2.1 _).mono ?_
              rintro e w13 ⟨rfl, hb13⟩
              have hs13 : Below w12.heap.size w12 w13 := (by go_grown : Below w12.heap.size w12 _).trans (hb13.mono (by go_size))
              have HW13 := hide (HW12.out.trans (hs13.mono HW12.out.size))
              clear hs13 hb13
              obtain ⟨hk1, hk5⟩ := HK.out.2.2.1
              go_wp2
              go_loopw [32] (fun x wr => ∃ j : Nat, x = .int .i64 j ∧ 1 ≤ j ∧ j ≤ 42 ∧ j ≤ k + 1 ∧ Hid (Below w.heap.size w wr)) (fun x _ => 42 - (intOf x).toNat)
              case atStart => exact ⟨1, rfl, by omega, by omega, by omega, hide (by have h := HW13.out; have hz := h.size; go_grown)⟩
              case round =>
                obtain ⟨j, rfl, hj1, hj42, hjk, HWr⟩ := hrel
                by_cases hr : j ≤ k ∧ j ≤ 41
                · obtain ⟨hrk, hr41⟩ := hr
                  by_cases hjeq : j = k
                  · have hrest : rm (fi j) P = 0 := by rw [hjeq]; exact HK.out.2.2.2.1
                    obtain ⟨r, hrr⟩ : ∃ r, rm (fi j) P = r := ⟨_, rfl⟩
                    have hq : ((r : Int) == 0) = true := by rw [hrr] at hrest; simp; omega
                    have he : ((j : Int) == (k : Int)) = true := by simp; omega
                    have HRR := hide hrr
                    clear hrest hrr hjeq
                    go_wp2_with fail
                    refine (fibImpl j _ hr41).mono ?_
                    rintro e v1 ⟨rfl, hv1⟩
                    have HV1 := hide (HWr.out.trans (hv1.mono HWr.out.size))
                    clear hv1
                    go_wp2_with fail
                    refine (divV (fi j) P r _ (fi_41 hr41) hp2 hp11 HRR.out).mono ?_
                    rintro e v2 ⟨rfl, hv2⟩
                    have HV2 := hide (HV1.out.trans (hv2.mono HV1.out.size))
                    clear hv2
                    go_wp2
                    go_roundw
                    case rel => exact ⟨j + 1, by go_num, by omega, by omega, by omega, HV2⟩
                    case measure => simp [intOf]; omega
                  · have hrest : rm (fi j) P ≠ 0 := HK.out.2.2.2.2 j hj1 (by omega)
                    obtain ⟨r, hrr⟩ : ∃ r, rm (fi j) P = r := ⟨_, rfl⟩
                    have hq : ((r : Int) == 0) = false := by rw [hrr] at hrest; simp; omega
                    have he : ((j : Int) == (k : Int)) = false := by simp; omega
                    have HRR := hide hrr
                    clear hrest hrr hjeq
                    go_wp2_with fail
                    refine (fibImpl j _ hr41).mono ?_
                    rintro e v1 ⟨rfl, hv1⟩
                    have HV1 := hide (HWr.out.trans (hv1.mono HWr.out.size))
                    clear hv1
                    go_wp2_with fail
                    refine (divV (fi j) P r _ (fi_41 hr41) hp2 hp11 HRR.out).mono ?_
                    rintro e v2 ⟨rfl, hv2⟩
                    have HV2 := hide (HV1.out.trans (hv2.mono HV1.out.size))
                    clear hv2
                    go_wp2
                    go_roundw
                    case rel => exact ⟨j + 1, by go_num, by omega, by omega, by omega, HV2⟩
                    case measure => simp [intOf]; omega
                · have hr2 : k < j ∨ (j ≤ k ∧ 41 < j) := by omega
                  clear hr
                  rcases hr2 with hr2 | ⟨hr2, hr3⟩
                  all_goals
                    go_wp2
                    go_ret
                    exact ⟨rfl, by have h := HWr.out; have hz := h.size; go_grown⟩
          · obtain ⟨m, rfl, hm41⟩ := in_nat0 HM
            have HM := hide HM
            go_wp2_with fail
            refine (fibImpl m _ hm41).mono ?_
            rintro e w6 ⟨rfl, hb6⟩
            have hs6 : Below w5.heap.size w5 w6 := (by go_grown : Below w5.heap.size w5 _).trans (hb6.mono (by go_size))
            have HW6 := hide (HW5.out.trans (hs6.mono HW5.out.size))
            clear hs6 hb6
            go_wp2_with fail
            refine (fibSpec m _ hm41).mono ?_
            rintro e w7 ⟨rfl, hb7⟩
            have hs7 : Below w6.heap.size w6 w7 := (by go_grown : Below w6.heap.size w6 _).trans (hb7.mono (by go_size))
            have HW7 := hide (HW6.out.trans (hs7.mono HW6.out.size))
            clear hs7 hb7
            go_wp2_with fail
            refine (gcdV n m _ hn41 hm41).mono ?_
            rintro e w8 ⟨rfl, hb8⟩
            have hs8 : Below w7.heap.size w7 w8 := (by go_grown : Below w7.heap.size w7 _).trans (hb8.mono (by go_size))
            have HW8 := hide (HW7.out.trans (hs8.mono HW7.out.size))
            clear hs8 hb8
            go_wp2_with fail
            refine (vGcd_any n m _ hn41 hm41).mono ?_
            rintro e w9 ⟨rfl, hb9⟩
            have hs9 : Below w8.heap.size w8 w9 := (by go_grown : Below w8.heap.size w8 _).trans (hb9.mono (by go_size))
            have HW9 := hide (HW8.out.trans (hs9.mono HW8.out.size))
            clear hs9 hb9
            go_wp2_with fail
            refine (fibImpl (gn2 m n m) _ (gn2_le _ _ _ hn41 hm41)).mono ?_
            rintro e w10 ⟨rfl, hb10⟩
            have hs10 : Below w9.heap.size w9 w10 := (by go_grown : Below w9.heap.size w9 _).trans (hb10.mono (by go_size))
            have HW10 := hide (HW9.out.trans (hs10.mono HW9.out.size))
            clear hs10 hb10
            go_wp2_with fail
            refine (degV n _ (by omega) hn41).mono ?_
            rintro e w11 ⟨rfl, hb11⟩
            have hs11 : Below w10.heap.size w10 w11 := (by go_grown : Below w10.heap.size w10 _).trans (hb11.mono (by go_size))
            have HW11 := hide (HW10.out.trans (hs11.mono HW10.out.size))
            clear hs11 hb11
            go_wp2_with fail
            refine (sqV n _ (by omega) (by omega) (by first | exact HT.out.below HW11.out | exact Tab.below (HT.out.below HW11.out) (by go_grown))).mono ?_
            rintro e w12 ⟨rfl, hb12⟩
            have hs12 : Below w11.heap.size w11 w12 := (by go_grown : Below w11.heap.size w11 _).trans (hb12.mono (by go_size))
            have HW12 := hide (HW11.out.trans (hs12.mono HW11.out.size))
            clear hs12 hb12
            go_wp2_with fail
            refine (fibNoI (2 * (n : Int)) _ (inB_no (by omega))).mono ?_
            rintro e w13 ⟨rfl, hb13⟩
            have hs13 : Below w12.heap.size w12 w13 := (by go_grown : Below w12.heap.size w12 _).trans (hb13.mono (by go_size))
            have HW13 := hide (HW12.out.trans (hs13.mono HW12.out.size))
            clear hs13 hb13
            go_wp2_with fail
            refine (drawFirst_any _ _ _ f' _ (by omega) (HS_B.out.below HW13.out) HF_B.out).mono ?_
            rintro e w14 ⟨p, rfl, hb14⟩
            have hs14 : Below w13.heap.size w13 w14 := (by go_grown : Below w13.heap.size w13 _).trans (hb14.mono (by go_size))
            have HW14 := hide (HW13.out.trans (hs14.mono HW13.out.size))
            clear hs14 hb14
            rcases first_cases p with HN | ⟨P, k, rfl, hp2, hp11, HK⟩
            · skip
              go_wp2_with fail
              refine (HN.out.1 _).mono ?_
              rintro e w15 ⟨rfl, hb15⟩
              have hs15 : Below w14.heap.size w14 w15 := (by go_grown : Below w14.heap.size w14 _).trans (hb15.mono (by go_size))
              have HW15 := hide (HW14.out.trans (hs15.mono HW14.out.size))
              clear hs15 hb15
              go_wp2_with fail
              refine (HN.out.2 _).mono ?_
              rintro e w16 ⟨rfl, hb16⟩
              have hs16 : Below w15.heap.size w15 w16 := (by go_grown : Below w15.heap.size w15 _).trans (hb16.mono (by go_size))
              have HW16 := hide (HW15.out.trans (hs16.mono HW15.out.size))
              clear hs16 hb16
              go_wp2
              go_ret
              exact ⟨rfl, by have h := HW16.out; have hz := h.size; go_grown⟩
            · skip
              go_wp2_with fail
              refine (HK.out.1 _).mono ?_
              rintro e w15 ⟨rfl, hb15⟩
              have hs15 : Below w14.heap.size w14 w15 := (by go_grown : Below w14.heap.size w14 _).trans (hb15.mono (by go_size))
              have HW15 := hide (HW14.out.trans (hs15.mono HW14.out.size))
              clear hs15 hb15
              go_wp2_with fail
              refine (HK.out.2.1 _).mono ?_
              rintro e w16 ⟨rfl, hb16⟩
              have hs16 : Below w15.heap.size w15 w16 := (by go_grown : Below w15.heap.size w15 _).trans (hb16.mono (by go_size))
              have HW16 := hide (HW15.out.trans (hs16.mono HW15.out.size))
              clear hs16 hb16
              obtain ⟨hk1, hk5⟩ := HK.out.2.2.1
              go_wp2
              go_loopw [32] (fun x wr => ∃ j : Nat, x = .int .i64 j ∧ 1 ≤ j ∧ j ≤ 42 ∧ j ≤ k + 1 ∧ Hid (Below w.heap.size w wr)) (fun x _ => 42 - (intOf x).toNat)
              case atStart => exact ⟨1, rfl, by omega, by omega, by omega, hide (by have h := HW16.out; have hz := h.size; go_grown)⟩
              case round =>
                obtain ⟨j, rfl, hj1, hj42, hjk, HWr⟩ := hrel
                by_cases hr : j ≤ k ∧ j ≤ 41
                · obtain ⟨hrk, hr41⟩ := hr
                  by_cases hjeq : j = k
                  · have hrest : rm (fi j) P = 0 := by rw [hjeq]; exact HK.out.2.2.2.1
                    obtain ⟨r, hrr⟩ : ∃ r, rm (fi j) P = r := ⟨_, rfl⟩
                    have hq : ((r : Int) == 0) = true := by rw [hrr] at hrest; simp; omega
                    have he : ((j : Int) == (k : Int)) = true := by simp; omega
                    have HRR := hide hrr
                    clear hrest hrr hjeq
                    go_wp2_with fail
                    refine (fibImpl j _ hr41).mono ?_
                    rintro e v1 ⟨rfl, hv1⟩
                    have HV1 := hide (HWr.out.trans (hv1.mono HWr.out.size))
                    clear hv1
                    go_wp2_with fail
                    refine (divV (fi j) P r _ (fi_41 hr41) hp2 hp11 HRR.out).mono ?_
                    rintro e v2 ⟨rfl, hv2⟩
                    have HV2 := hide (HV1.out.trans (hv2.mono HV1.out.size))
                    clear hv2
                    go_wp2
                    go_roundw
                    case rel => exact ⟨j + 1, by go_num, by omega, by omega, by omega, HV2⟩
                    case measure => simp [intOf]; omega
                  · have hrest : rm (fi j) P ≠ 0 := HK.out.2.2.2.2 j hj1 (by omega)
                    obtain ⟨r, hrr⟩ : ∃ r, rm (fi j) P = r := ⟨_, rfl⟩
                    have hq : ((r : Int) == 0) = false := by rw [hrr] at hrest; simp; omega
                    have he : ((j : Int) == (k : Int)) = false := by simp; omega
                    have HRR := hide hrr
                    clear hrest hrr hjeq
                    go_wp2_with fail
                    refine (fibImpl j _ hr41).mono ?_
                    rintro e v1 ⟨rfl, hv1⟩
                    have HV1 := hide (HWr.out.trans (hv1.mono HWr.out.size))
                    clear hv1
                    go_wp2_with fail
                    refine (divV (fi j) P r _ (fi_41 hr41) hp2 hp11 HRR.out).mono ?_
                    rintro e v2 ⟨rfl, hv2⟩
                    have HV2 := hide (HV1.out.trans (hv2.mono HV1.out.size))
                    clear hv2
                    go_wp2
                    go_roundw
                    case rel => exact ⟨j + 1, by go_num, by omega, by omega, by omega, HV2⟩
                    case measure => simp [intOf]; omega
                · have hr2 : k < j ∨ (j ≤ k ∧ 41 < j) := by omega
                  clear hr
                  rcases hr2 with hr2 | ⟨hr2, hr3⟩
                  all_goals
                    go_wp2
                    go_ret
                    exact ⟨rfl, by have h := HWr.out; have hz := h.size; go_grown⟩
        · have hn22 : 22 ≤ n := by omega
          go_wp2_with fail
          refine (drawFib_any _ _ _ f' _ (by omega) (HS_B.out.below HW4.out) HF_B.out).mono ?_
          rintro e w5 ⟨a2, rfl, hb5⟩
          have hs5 : Below w4.heap.size w4 w5 := (by go_grown : Below w4.heap.size w4 _).trans (hb5.mono (by go_size))
          have HW5 := hide (HW4.out.trans (hs5.mono HW4.out.size))
          clear hs5 hb5
          cases HM : inB a2 0 41
          · skip
            have HM := hide HM
            go_wp2_with fail
            refine (fibNoI a2 _ HM.out).mono ?_
            rintro e w6 ⟨rfl, hb6⟩
            have hs6 : Below w5.heap.size w5 w6 := (by go_grown : Below w5.heap.size w5 _).trans (hb6.mono (by go_size))
            have HW6 := hide (HW5.out.trans (hs6.mono HW5.out.size))
            clear hs6 hb6
            go_wp2_with fail
            refine (fibNoS a2 _ HM.out).mono ?_
            rintro e w7 ⟨rfl, hb7⟩
            have hs7 : Below w6.heap.size w6 w7 := (by go_grown : Below w6.heap.size w6 _).trans (hb7.mono (by go_size))
            have HW7 := hide (HW6.out.trans (hs7.mono HW6.out.size))
            clear hs7 hb7
            go_wp2_with fail
            refine (degV n _ (by omega) hn41).mono ?_
            rintro e w8 ⟨rfl, hb8⟩
            have hs8 : Below w7.heap.size w7 w8 := (by go_grown : Below w7.heap.size w7 _).trans (hb8.mono (by go_size))
            have HW8 := hide (HW7.out.trans (hs8.mono HW7.out.size))
            clear hs8 hb8
            go_wp2_with fail
            refine (sqNo n _ (by omega) hn41).mono ?_
            rintro e w9 ⟨rfl, hb9⟩
            have hs9 : Below w8.heap.size w8 w9 := (by go_grown : Below w8.heap.size w8 _).trans (hb9.mono (by go_size))
            have HW9 := hide (HW8.out.trans (hs9.mono HW8.out.size))
            clear hs9 hb9
            go_wp2_with fail
            refine (fibNoI (2 * (n : Int)) _ (inB_no (by omega))).mono ?_
            rintro e w10 ⟨rfl, hb10⟩
            have hs10 : Below w9.heap.size w9 w10 := (by go_grown : Below w9.heap.size w9 _).trans (hb10.mono (by go_size))
            have HW10 := hide (HW9.out.trans (hs10.mono HW9.out.size))
            clear hs10 hb10
            go_wp2_with fail
            refine (drawFirst_any _ _ _ f' _ (by omega) (HS_B.out.below HW10.out) HF_B.out).mono ?_
            rintro e w11 ⟨p, rfl, hb11⟩
            have hs11 : Below w10.heap.size w10 w11 := (by go_grown : Below w10.heap.size w10 _).trans (hb11.mono (by go_size))
            have HW11 := hide (HW10.out.trans (hs11.mono HW10.out.size))
            clear hs11 hb11
            rcases first_cases p with HN | ⟨P, k, rfl, hp2, hp11, HK⟩
            · skip
              go_wp2_with fail
              refine (HN.out.1 _).mono ?_
              rintro e w12 ⟨rfl, hb12⟩
              have hs12 : Below w11.heap.size w11 w12 := (by go_grown : Below w11.heap.size w11 _).trans (hb12.mono (by go_size))
              have HW12 := hide (HW11.out.trans (hs12.mono HW11.out.size))
              clear hs12 hb12
              go_wp2_with fail
              refine (HN.out.2 _).mono ?_
              rintro e w13 ⟨rfl, hb13⟩
              have hs13 : Below w12.heap.size w12 w13 := (by go_grown : Below w12.heap.size w12 _).trans (hb13.mono (by go_size))
              have HW13 := hide (HW12.out.trans (hs13.mono HW12.out.size))
              clear hs13 hb13
              go_wp2
              go_ret
              exact ⟨rfl, by have h := HW13.out; have hz := h.size; go_grown⟩
            · skip
              go_wp2_with fail
              refine (HK.out.1 _).mono ?_
              rintro e w12 ⟨rfl, hb12⟩
              have hs12 : Below w11.heap.size w11 w12 := (by go_grown : Below w11.heap.size w11 _).trans (hb12.mono (by go_size))
              have HW12 := hide (HW11.out.trans (hs12.mono HW11.out.size))
              clear hs12 hb12
              go_wp2_with fail
              refine (HK.out.2.1 _).mono ?_
              rintro e w13 ⟨rfl, hb13⟩
              have hs13 : Below w12.heap.size w12 w13 := (by go_grown : Below w12.heap.size w12 _).trans (hb13.mono (by go_size))
              have HW13 := hide (HW12.out.trans (hs13.mono HW12.out.size))
              clear hs13 hb13
              obtain ⟨hk1, hk5⟩ := HK.out.2.2.1
              go_wp2
              go_loopw [32] (fun x wr => ∃ j : Nat, x = .int .i64 j ∧ 1 ≤ j ∧ j ≤ 42 ∧ j ≤ k + 1 ∧ Hid (Below w.heap.size w wr)) (fun x _ => 42 - (intOf x).toNat)
              case atStart => exact ⟨1, rfl, by omega, by omega, by omega, hide (by have h := HW13.out; have hz := h.size; go_grown)⟩
              case round =>
                obtain ⟨j, rfl, hj1, hj42, hjk, HWr⟩ := hrel
                by_cases hr : j ≤ k ∧ j ≤ 41
                · obtain ⟨hrk, hr41⟩ := hr
                  by_cases hjeq : j = k
                  · have hrest : rm (fi j) P = 0 := by rw [hjeq]; exact HK.out.2.2.2.1
                    obtain ⟨r, hrr⟩ : ∃ r, rm (fi j) P = r := ⟨_, rfl⟩
                    have hq : ((r : Int) == 0) = true := by rw [hrr] at hrest; simp; omega
                    have he : ((j : Int) == (k : Int)) = true := by simp; omega
                    have HRR := hide hrr
                    clear hrest hrr hjeq
                    go_wp2_with fail
                    refine (fibImpl j _ hr41).mono ?_
                    rintro e v1 ⟨rfl, hv1⟩
                    have HV1 := hide (HWr.out.trans (hv1.mono HWr.out.size))
                    clear hv1
                    go_wp2_with fail
                    refine (divV (fi j) P r _ (fi_41 hr41) hp2 hp11 HRR.out).mono ?_
                    rintro e v2 ⟨rfl, hv2⟩
                    have HV2 := hide (HV1.out.trans (hv2.mono HV1.out.size))
                    clear hv2
                    go_wp2
                    go_roundw
                    case rel => exact ⟨j + 1, by go_num, by omega, by omega, by omega, HV2⟩
                    case measure => simp [intOf]; omega
                  · have hrest : rm (fi j) P ≠ 0 := HK.out.2.2.2.2 j hj1 (by omega)
                    obtain ⟨r, hrr⟩ : ∃ r, rm (fi j) P = r := ⟨_, rfl⟩
                    have hq : ((r : Int) == 0) = false := by rw [hrr] at hrest; simp; omega
                    have he : ((j : Int) == (k : Int)) = false := by simp; omega
                    have HRR := hide hrr
                    clear hrest hrr hjeq
                    go_wp2_with fail
                    refine (fibImpl j _ hr41).mono ?_
                    rintro e v1 ⟨rfl, hv1⟩
                    have HV1 := hide (HWr.out.trans (hv1.mono HWr.out.size))
                    clear hv1
                    go_wp2_with fail
                    refine (divV (fi j) P r _ (fi_41 hr41) hp2 hp11 HRR.out).mono ?_
                    rintro e v2 ⟨rfl, hv2⟩
                    have HV2 := hide (HV1.out.trans (hv2.mono HV1.out.size))
                    clear hv2
                    go_wp2
                    go_roundw
                    case rel => exact ⟨j + 1, by go_num, by omega, by omega, by omega, HV2⟩
                    case measure => simp [intOf]; omega
                · have hr2 : k < j ∨ (j ≤ k ∧ 41 < j) := by omega
                  clear hr
                  rcases hr2 with hr2 | ⟨hr2, hr3⟩
                  all_goals
                    go_wp2
                    go_ret
                    exact ⟨rfl, by have h := HWr.out; have hz := h.size; go_grown⟩
          · obtain ⟨m, rfl, hm41⟩ := in_nat0 HM
            have HM := hide HM
            go_wp2_with fail
            refine (fibImpl m _ hm41).mono ?_
            rintro e w6 ⟨rfl, hb6⟩
            have hs6 : Below w5.heap.size w5 w6 := (by go_grown : Below w5.heap.size w5 _).trans (hb6.mono (by go_size))
            have HW6 := hide (HW5.out.trans (hs6.mono HW5.out.size))
            clear hs6 hb6
            go_wp2_with fail
            refine (fibSpec m _ hm41).mono ?_
            rintro e w7 ⟨rfl, hb7⟩
            have hs7 : Below w6.heap.size w6 w7 := (by go_grown : Below w6.heap.size w6 _).trans (hb7.mono (by go_size))
            have HW7 := hide (HW6.out.trans (hs7.mono HW6.out.size))
            clear hs7 hb7
            go_wp2_with fail
            refine (gcdV n m _ hn41 hm41).mono ?_
            rintro e w8 ⟨rfl, hb8⟩
            have hs8 : Below w7.heap.size w7 w8 := (by go_grown : Below w7.heap.size w7 _).trans (hb8.mono (by go_size))
            have HW8 := hide (HW7.out.trans (hs8.mono HW7.out.size))
            clear hs8 hb8
            go_wp2_with fail
            refine (vGcd_any n m _ hn41 hm41).mono ?_
            rintro e w9 ⟨rfl, hb9⟩
            have hs9 : Below w8.heap.size w8 w9 := (by go_grown : Below w8.heap.size w8 _).trans (hb9.mono (by go_size))
            have HW9 := hide (HW8.out.trans (hs9.mono HW8.out.size))
            clear hs9 hb9
            go_wp2_with fail
            refine (fibImpl (gn2 m n m) _ (gn2_le _ _ _ hn41 hm41)).mono ?_
            rintro e w10 ⟨rfl, hb10⟩
            have hs10 : Below w9.heap.size w9 w10 := (by go_grown : Below w9.heap.size w9 _).trans (hb10.mono (by go_size))
            have HW10 := hide (HW9.out.trans (hs10.mono HW9.out.size))
            clear hs10 hb10
            go_wp2_with fail
            refine (degV n _ (by omega) hn41).mono ?_
            rintro e w11 ⟨rfl, hb11⟩
            have hs11 : Below w10.heap.size w10 w11 := (by go_grown : Below w10.heap.size w10 _).trans (hb11.mono (by go_size))
            have HW11 := hide (HW10.out.trans (hs11.mono HW10.out.size))
            clear hs11 hb11
            go_wp2_with fail
            refine (sqNo n _ (by omega) hn41).mono ?_
            rintro e w12 ⟨rfl, hb12⟩
            have hs12 : Below w11.heap.size w11 w12 := (by go_grown : Below w11.heap.size w11 _).trans (hb12.mono (by go_size))
            have HW12 := hide (HW11.out.trans (hs12.mono HW11.out.size))
            clear hs12 hb12
            go_wp2_with fail
            refine (fibNoI (2 * (n : Int)) _ (inB_no (by omega))).mono ?_
            rintro e w13 ⟨rfl, hb13⟩
            have hs13 : Below w12.heap.size w12 w13 := (by go_grown : Below w12.heap.size w12 _).trans (hb13.mono (by go_size))
            have HW13 := hide (HW12.out.trans (hs13.mono HW12.out.size))
            clear hs13 hb13
            go_wp2_with fail
            refine (drawFirst_any _ _ _ f' _ (by omega) (HS_B.out.below HW13.out) HF_B.out).mono ?_
            rintro e w14 ⟨p, rfl, hb14⟩
            have hs14 : Below w13.heap.size w13 w14 := (by go_grown : Below w13.heap.size w13 _).trans (hb14.mono (by go_size))
            have HW14 := hide (HW13.out.trans (hs14.mono HW13.out.size))
            clear hs14 hb14
            rcases first_cases p with HN | ⟨P, k, rfl, hp2, hp11, HK⟩
            · skip
              go_wp2_with fail
              refine (HN.out.1 _).mono ?_
              rintro e w15 ⟨rfl, hb15⟩
              have hs15 : Below w14.heap.size w14 w15 := (by go_grown : Below w14.heap.size w14 _).trans (hb15.mono (by go_size))
              have HW15 := hide (HW14.out.trans (hs15.mono HW14.out.size))
              clear hs15 hb15
              go_wp2_with fail
              refine (HN.out.2 _).mono ?_
              rintro e w16 ⟨rfl, hb16⟩
              have hs16 : Below w15.heap.size w15 w16 := (by go_grown : Below w15.heap.size w15 _).trans (hb16.mono (by go_size))
              have HW16 := hide (HW15.out.trans (hs16.mono HW15.out.size))
              clear hs16 hb16
              go_wp2
              go_ret
              exact ⟨rfl, by have h := HW16.out; have hz := h.size; go_grown⟩
            · skip
              go_wp2_with fail
              refine (HK.out.1 _).mono ?_
              rintro e w15 ⟨rfl, hb15⟩
              have hs15 : Below w14.heap.size w14 w15 := (by go_grown : Below w14.heap.size w14 _).trans (hb15.mono (by go_size))
              have HW15 := hide (HW14.out.trans (hs15.mono HW14.out.size))
              clear hs15 hb15
              go_wp2_with fail
              refine (HK.out.2.1 _).mono ?_
              rintro e w16 ⟨rfl, hb16⟩
              have hs16 : Below w15.heap.size w15 w16 := (by go_grown : Below w15.heap.size w15 _).trans (hb16.mono (by go_size))
              have HW16 := hide (HW15.out.trans (hs16.mono HW15.out.size))
              clear hs16 hb16
              obtain ⟨hk1, hk5⟩ := HK.out.2.2.1
              go_wp2
              go_loopw [32] (fun x wr => ∃ j : Nat, x = .int .i64 j ∧ 1 ≤ j ∧ j ≤ 42 ∧ j ≤ k + 1 ∧ Hid (Below w.heap.size w wr)) (fun x _ => 42 - (intOf x).toNat)
              case atStart => exact ⟨1, rfl, by omega, by omega, by omega, hide (by have h := HW16.out; have hz := h.size; go_grown)⟩
              case round =>
                obtain ⟨j, rfl, hj1, hj42, hjk, HWr⟩ := hrel
                by_cases hr : j ≤ k ∧ j ≤ 41
                · obtain ⟨hrk, hr41⟩ := hr
                  by_cases hjeq : j = k
                  · have hrest : rm (fi j) P = 0 := by rw [hjeq]; exact HK.out.2.2.2.1
                    obtain ⟨r, hrr⟩ : ∃ r, rm (fi j) P = r := ⟨_, rfl⟩
                    have hq : ((r : Int) == 0) = true := by rw [hrr] at hrest; simp; omega
                    have he : ((j : Int) == (k : Int)) = true := by simp; omega
                    have HRR := hide hrr
                    clear hrest hrr hjeq
                    go_wp2_with fail
                    refine (fibImpl j _ hr41).mono ?_
                    rintro e v1 ⟨rfl, hv1⟩
                    have HV1 := hide (HWr.out.trans (hv1.mono HWr.out.size))
                    clear hv1
                    go_wp2_with fail
                    refine (divV (fi j) P r _ (fi_41 hr41) hp2 hp11 HRR.out).mono ?_
                    rintro e v2 ⟨rfl, hv2⟩
                    have HV2 := hide (HV1.out.trans (hv2.mono HV1.out.size))
                    clear hv2
                    go_wp2
                    go_roundw
                    case rel => exact ⟨j + 1, by go_num, by omega, by omega, by omega, HV2⟩
                    case measure => simp [intOf]; omega
                  · have hrest : rm (fi j) P ≠ 0 := HK.out.2.2.2.2 j hj1 (by omega)
                    obtain ⟨r, hrr⟩ : ∃ r, rm (fi j) P = r := ⟨_, rfl⟩
                    have hq : ((r : Int) == 0) = false := by rw [hrr] at hrest; simp; omega
                    have he : ((j : Int) == (k : Int)) = false := by simp; omega
                    have HRR := hide hrr
                    clear hrest hrr hjeq
                    go_wp2_with fail
                    refine (fibImpl j _ hr41).mono ?_
                    rintro e v1 ⟨rfl, hv1⟩
                    have HV1 := hide (HWr.out.trans (hv1.mono HWr.out.size))
                    clear hv1
                    go_wp2_with fail
                    refine (divV (fi j) P r _ (fi_41 hr41) hp2 hp11 HRR.out).mono ?_
                    rintro e v2 ⟨rfl, hv2⟩
                    have HV2 := hide (HV1.out.trans (hv2.mono HV1.out.size))
                    clear hv2
                    go_wp2
                    go_roundw
                    case rel => exact ⟨j + 1, by go_num, by omega, by omega, by omega, HV2⟩
                    case measure => simp [intOf]; omega
                · have hr2 : k < j ∨ (j ≤ k ∧ 41 < j) := by omega
                  clear hr
                  rcases hr2 with hr2 | ⟨hr2, hr3⟩
                  all_goals
                    go_wp2
                    go_ret
                    exact ⟨rfl, by have h := HWr.out; have hz := h.size; go_grown⟩
theorem lawFP_big (A A' : Option Addr) (n c n' c' : Nat) (w : World) (hn : n ≤ 9223372036854775807) (hn' : n' ≤ 9223372036854775807) (hb : 1048576 < n ∨ 1048576 - n < n') :
    Calls Tryd.prog 3 #[.slice A n c, .slice A' n' c'] w fun e w' => e = .returned (.bool true) ∧ Below w.heap.size w w' := by
  have HBG := hide hb
  clear hb
  go_enter Tryd.func3, Tryd.ntmps3
  go_wp2_with fail
  refine (big_yes A A' n c n' c' _ hn hn' HBG.out).mono ?_
  rintro e w1 ⟨rfl, rfl⟩
  go_wp2
  go_ret
  exact ⟨rfl, by go_grown⟩
theorem lawFP (A A' : Option Addr) (n c n' c' : Nat) (f f' : Nat → Int) (w : World) (hn : n ≤ 9223372036854775807) (hn' : n' ≤ 9223372036854775807) (hs : Src w A n (uv f)) (hs' : Src w A' n' (uv f')) (hf : ∀ k, k < n → 0 ≤ f k ∧ f k < 256) (hf' : ∀ k, k < n' → 0 ≤ f' k ∧ f' k < 256) (hT : Tab w) :
    Calls Tryd.prog 3 #[.slice A n c, .slice A' n' c'] w fun e w' => e = .returned (.bool true) ∧ Below w.heap.size w w' := by
  by_cases hb : 1048576 < n ∨ 1048576 - n < n'
  · exact lawFP_big A A' n c n' c' w hn hn' hb
  · exact lawFP_no A A' n c n' c' f f' w (by omega) (by omega) (hide hs) (hide hs') (hide hf) (hide hf') (hide hT)
end Go.Proofs.YtibikoajejfdeaaDoor
