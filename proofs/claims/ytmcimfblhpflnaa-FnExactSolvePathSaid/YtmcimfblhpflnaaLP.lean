/-
SolvePath: both sides.
-/
import Derived.Test.YtmcimfblhpflnaaPE
import Derived.Test.YtmcimfblhpflnaaRO
namespace Go.Proofs.Ytmcimfblhpflnaa
open Go.RowKit
set_option maxHeartbeats 2000000
/-- What both sides tell. -/
def SpOut (own : Bool) (L n : Nat) : Value :=
  if prw 1 own L 0 n = 0 then .tuple #[.int .i64 (prs 1 own L 0 n : Nat), .bool true] else if prw 1 own L 1 n = 0 then .tuple #[.int .i64 (prs 1 own L 1 n : Nat), .bool true] else .tuple #[.int .i64 0, .bool false]
theorem spOut_two (own : Bool) (L n : Nat) : ∃ (v : Int) (b : Bool), SpOut own L n = .tuple #[.int .i64 v, .bool b] := by
  unfold SpOut
  split
  · exact ⟨_, _, rfl⟩
  · split
    · exact ⟨_, _, rfl⟩
    · exact ⟨_, _, rfl⟩
theorem effp_lt (own : Bool) (p n : Nat) (h1 : 1 ≤ n) (hn : n ≤ 16) : effN (tog (pathF (n - 1)) own) p n < 65536 := by
  have : effN (tog (pathF (n - 1)) own) p n < 2 ^ 16 := Nat.lt_pow_two_of_testBit _ fun j hj => eff_high own p n j h1 (by omega) n (Nat.le_refl _)
  exact this
theorem spSpec_a (a : Int) (own : Bool) (l : Int) (w : World) (h : inB a 1 16 = false) :
    Calls Try.prog 25 #[.int .i64 a, .bool own, .int .i64 l] w fun e w' => e = .returned (.tuple #[.int .i64 0, .bool false]) ∧ Below w.heap.size w w' := by
  go_enter Try.func25, Try.ntmps25
  go_wp2_with (go_at_call 28; refine (grSize_any _ _).mono ?_; rintro e w' ⟨rfl, rfl⟩; rw [h])
  go_ret2
  exact ⟨rfl, Below.refl _ _⟩
theorem shl_n {n : Nat} (hn : n ≤ 16) : RowKit.wrap64 (RowKit.wrap64 (2 ^ n) - 1) = 2 ^ n - 1 := by
  have h1 : 2 ^ n ≤ 2 ^ 16 := Nat.pow_le_pow_right (by decide) hn
  have h2 : 1 ≤ 2 ^ n := Nat.one_le_two_pow
  rw [← pow_nat]
  generalize 2 ^ n = x at h1 h2
  rw [IntWalk.wrap64_in (x : Int) (by omega)]
  exact IntWalk.wrap64_in _ (by omega)
theorem shl_n1 {n : Nat} (hn : n ≤ 16) : RowKit.wrap64 (2 ^ n) = 2 ^ n := by
  have h1 : 2 ^ n ≤ 2 ^ 16 := Nat.pow_le_pow_right (by decide) hn
  rw [← pow_nat]
  generalize 2 ^ n = x at h1
  exact IntWalk.wrap64_in (x : Int) (by omega)
theorem shl_n2 {n : Nat} (hn : n ≤ 16) : RowKit.wrap64 (2 ^ n - 1) = 2 ^ n - 1 := by
  have h := shl_n hn
  rwa [shl_n1 hn] at h
theorem spSpec_b (n : Nat) (own : Bool) (l : Int) (w : World) (h : inB n 1 16 = true) (hl : inB l 0 (2 ^ n - 1) = false) :
    Calls Try.prog 25 #[.int .i64 n, .bool own, .int .i64 l] w fun e w' => e = .returned (.tuple #[.int .i64 0, .bool false]) ∧ Below w.heap.size w w' := by
  have hn : n ≤ 16 := by simp only [inB, decide_eq_true_eq] at h; omega
  have e1 := shl_n1 hn
  have e2 := shl_n2 hn
  go_enter Try.func25, Try.ntmps25
  go_wp2_with (first | (go_at_call 28; refine (grSize_any _ _).mono ?_; rintro e w' ⟨rfl, rfl⟩; rw [h]) | (go_at_call 27; simp only [e1, e2]; refine (l1InG_any _ _ _ _).mono ?_; rintro e w' ⟨rfl, rfl⟩; rw [hl]))
  go_ret2
  exact ⟨rfl, Below.refl _ _⟩
set_option maxRecDepth 4000 in
theorem spSpec_c (n L : Nat) (own : Bool) (w : World) (h : inB n 1 16 = true) (hl : inB L 0 (2 ^ n - 1) = true) (hL : L < 2 ^ n) :
    Calls Try.prog 25 #[.int .i64 n, .bool own, .int .i64 L] w fun e w' => e = .returned (SpOut own L n) ∧ Below w.heap.size w w' := by
  have hn : n ≤ 16 := by simp only [inB, decide_eq_true_eq] at h; omega
  have hn1 : 1 ≤ n := by simp only [inB, decide_eq_true_eq] at h; omega
  have hL16 : L < 65536 := Nat.lt_of_lt_of_le hL (show 2 ^ n ≤ 2 ^ 16 from Nat.pow_le_pow_right (by decide) hn)
  have e1 := shl_n1 hn
  have e2 := shl_n2 hn
  have HLn := hide hL
  clear hL
  go_enter Try.func25, Try.ntmps25
  go_wp2_with (first | (go_at_call 28; refine (grSize_any _ _).mono ?_; rintro e w' ⟨rfl, hw'⟩; subst w'; rw [h]) | (go_at_call 27; simp only [e1, e2]; refine (l1InG_any _ _ _ _).mono ?_; rintro e w' ⟨rfl, hw'⟩; subst w'; rw [hl]) | (go_at_call 36; refine (grPath_any n own _ hn1 hn).mono ?_; rintro e w1 ⟨g, cg, rfl, hg, ha, hb⟩; have HA := hide ha; have HB := hide hb; clear ha hb))
  have hgl := HA.out.lt
  have hz1 := HB.out.size
  go_loopw [9] (fun f wr => ∃ k : Nat, k ≤ 2 ∧ f = .int .i64 k ∧ Hid (∀ j, j < k → prw 1 own L j n ≠ 0) ∧ Hid (Arr wr 27 w1.heap.size 2 (bx (.slice (some ⟨g, 0, none⟩) n cg) (.bool own))) ∧ Hid (Arr wr 3 g n (iv (nv (pathF (n - 1))))) ∧ Below w.heap.size w wr)
    (fun f _ => 2 - (intOf f).toNat)
  case atStart => exact ⟨0, by omega, rfl, hide (fun j hj => absurd hj (by omega)), hide (Arr.box w1 27 _ _), hide (HA.out.alloc _), HB.out.alloc hz1 _⟩
  case round =>
    obtain ⟨k, hk, rfl, HN, HX, HP, hw⟩ := hrel
    have HW := hide hw
    have hsz := hw.size
    have hxl := HX.out.lt
    clear hw
    by_cases hlt : k < 2
    · have hk2 : (k : Int) < 2 := by omega
      go_wp2
      go_loopw [10, 11] (fun p i wi => ∃ j : Nat, j + 1 ≤ n ∧ i = .int .i64 j ∧ p = .int .i64 (prs 1 own L k (j + 1) : Nat) ∧ Hid (Arr wi 27 w1.heap.size 2 (bx (.slice (some ⟨g, 0, none⟩) n cg) (.bool own))) ∧ Hid (Arr wi 3 g n (iv (nv (pathF (n - 1))))) ∧ Below w.heap.size w wi)
        (fun _ i _ => n - (intOf i).toNat)
      case atStart => exact ⟨0, hn1, rfl, by rw [prs, prs, prw_zero]; simp, HX, HP, HW.out⟩
      case round =>
        obtain ⟨j, hj, rfl, rfl, HX2, HP2, hw2⟩ := hrel
        have HW2 := hide hw2
        have hsz2 := hw2.size
        have hxl2 := HX2.out.lt
        have x0 : wr.cell? ⟨w1.heap.size, 0, none⟩ = some (.slice (some ⟨g, 0, none⟩) n cg) := HX2.out.cell (by omega)
        have x1 : wr.cell? ⟨w1.heap.size, 1, none⟩ = some (.bool own) := HX2.out.cell (by omega)
        have hF16 := pathF_lt (n - 1) (by omega)
        have hp16 : prs 1 own L k (j + 1) < 65536 := by
          have h1 := prs_lt (c := 1) (own := own) (l := L) (f := k) (by simpa using hlt) (j + 1)
          exact Nat.lt_of_lt_of_le h1 (show 2 ^ (1 * (j + 1)) ≤ 2 ^ 16 from Nat.pow_le_pow_right (by decide) (by omega))
        have he16 := effp_lt own (prs 1 own L k (j + 1)) n hn1 hn
        have ex := i64_xor_nat L (effN (tog (pathF (n - 1)) own) (prs 1 own L k (j + 1)) n) (by omega) (by omega)
        clear hw2
        by_cases hjn : j + 1 < n
        · have hjn' : (j : Int) + 1 < (n : Int) := by omega
          have hnb := next_bit (own := own) (l := L) (f := k) hlt hjn
          have e5 := or_wrap (prs 1 own L k (j + 1)) (j + 1) hp16 (by omega)
          have hrr : prs 1 own L k (j + 1 + 1) = prs 1 own L k (j + 1) ||| (rb own L k (j + 1)).toNat * 2 ^ (j + 1) := by rw [prs, Nat.one_mul, prw_two hlt]
          cases hb : rb own L k (j + 1)
          · rw [hb] at hnb hrr
            go_wp2_with (first
              | (go_at_call 38; refine (grEffect_any _ _ _ _ own _ _ hn hp16 (fun i hi => hF16 i (by omega)) HP2.out).mono ?_; rintro e w3 ⟨rfl, hb3⟩; have HB3 := hide hb3; clear hb3; try rw [ex])
              | (go_at_call 37; refine (grInG_any _ _ (by omega) (by omega) (by omega) _).mono ?_; rintro e w4 ⟨rfl, hw4⟩; subst w4; simp only [Int.toNat_natCast, bt_nat, hnb]))
            go_roundw
            case rel => exact ⟨j + 1, by omega, by go_num, by rw [hrr]; simp, hide (HX2.out.all HB3.out), hide (HP2.out.all HB3.out), HW2.out.trans (HB3.out.mono hsz2)⟩
            case measure => simp [intOf]; omega
          · rw [hb] at hnb hrr
            go_wp2_with (first
              | (go_at_call 38; refine (grEffect_any _ _ _ _ own _ _ hn hp16 (fun i hi => hF16 i (by omega)) HP2.out).mono ?_; rintro e w3 ⟨rfl, hb3⟩; have HB3 := hide hb3; clear hb3; try rw [ex])
              | (go_at_call 37; refine (grInG_any _ _ (by omega) (by omega) (by omega) _).mono ?_; rintro e w4 ⟨rfl, hw4⟩; subst w4; simp only [Int.toNat_natCast, bt_nat, hnb]))
            go_roundw
            case rel => exact ⟨j + 1, by omega, by go_num, by rw [hrr]; simp, hide (HX2.out.all HB3.out), hide (HP2.out.all HB3.out), HW2.out.trans (HB3.out.mono hsz2)⟩
            case measure => simp [intOf]; omega
        · have hjn2 : j + 1 = n := by omega
          have hjn' : ¬ (j : Int) + 1 < (n : Int) := by omega
          have hao := all_out (own := own) (l := L) (f := k) hlt hn1 HLn.out
          rw [hjn2] at hp16 he16 ⊢
          by_cases hz : prw 1 own L k n = 0
          · have heq := hao.2 hz
            go_wp2_with (first
              | (go_at_call 38; refine (grEffect_any _ _ _ _ own _ _ hn hp16 (fun i hi => hF16 i (by omega)) HP2.out).mono ?_; rintro e w3 ⟨rfl, hb3⟩; have HB3 := hide hb3; clear hb3; rw [heq]))
            go_ret2
            refine ⟨?_, HW2.out.trans (HB3.out.mono hsz2)⟩
            have hk01 : k = 0 ∨ k = 1 := by omega
            rcases hk01 with rfl | rfl
            · rw [SpOut, if_pos hz]; rfl
            · rw [SpOut, if_neg (HN.out 0 (by omega)), if_pos hz]; rfl
          · have hne : ¬ effN (tog (pathF (n - 1)) own) (prs 1 own L k n) n = L := fun h => hz (hao.1 h)
            have hneq : ((effN (tog (pathF (n - 1)) own) (prs 1 own L k n) n : Nat) : Int) ≠ (L : Int) := by omega
            have hbq : (((effN (tog (pathF (n - 1)) own) (prs 1 own L k n) n : Nat) : Int) == (L : Int)) = false := by simpa using hneq
            go_wp2_with (first
              | (go_at_call 38; refine (grEffect_any _ _ _ _ own _ _ hn hp16 (fun i hi => hF16 i (by omega)) HP2.out).mono ?_; rintro e w3 ⟨rfl, hb3⟩; have HB3 := hide hb3; clear hb3))
            go_roundw
            case rel =>
              refine ⟨k + 1, by omega, by go_num, hide (fun i hi => ?_), hide (HX2.out.all HB3.out), hide (HP2.out.all HB3.out), HW2.out.trans (HB3.out.mono hsz2)⟩
              by_cases e : i = k
              · subst e; exact hz
              · exact HN.out i (by omega)
            case measure => simp [intOf]; omega
    · have hk2 : k = 2 := by omega
      subst hk2
      go_wp2
      go_ret2
      exact ⟨by rw [SpOut, if_neg (HN.out 0 (by omega)), if_neg (HN.out 1 (by omega))]; rfl, HW.out⟩
end Go.Proofs.Ytmcimfblhpflnaa
