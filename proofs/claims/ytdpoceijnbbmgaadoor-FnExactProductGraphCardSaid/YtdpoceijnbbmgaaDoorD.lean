import Derived.Test.YtdpoceijnbbmgaaDoorC
import Derived.Test.YtdpoceijnbbmgaaDoorM
namespace Go.Proofs.YtdpoceijnbbmgaaDoor
open Go.RowKit
set_option maxHeartbeats 400000
theorem l1InG_any (s lo hi : Int) (w : World) :
    Calls Tryd.prog 46 #[.int .i64 s, .int .i64 lo, .int .i64 hi] w fun e w' => e = .returned (.bool (inB s lo hi)) ∧ w' = w := by
  by_cases h1 : lo ≤ s <;> by_cases h2 : s ≤ hi
  all_goals
    go_enter Tryd.func46, Tryd.ntmps46
    go_wp2
    go_ret
    simp [inB, h1, h2]
theorem grSize_any (s : Int) (w : World) :
    Calls Tryd.prog 38 #[.int .i64 s] w fun e w' => e = .returned (.bool (inB s 1 16)) ∧ w' = w := by
  go_enter Tryd.func38, Tryd.ntmps38
  go_wp2_with (go_at_call 46; refine (l1InG_any _ _ _ _).mono ?_; rintro e w' ⟨rfl, rfl⟩)
  go_ret
  exact ⟨rfl, rfl⟩
theorem grInG_any (s : Int) (i : Int) (h : 0 ≤ s) (h0 : 0 ≤ i) (h1 : i < 64) (w : World) :
    Calls Tryd.prog 79 #[.int .i64 s, .int .i64 i] w fun e w' => e = .returned (.bool (bt s i.toNat)) ∧ w' = w := by
  go_enter Tryd.func79, Tryd.ntmps79
  go_wp2
  go_ret
  exact ⟨by simp [grIn_eq _ _ h], rfl⟩
theorem hasG_any (s i : Int) (h0 : 0 ≤ i) (h1 : i < 64) (w : World) :
    Calls Tryd.prog 81 #[.int .i64 s, .int .i64 i] w fun e w' => e = .returned (.bool (bt s i.toNat)) ∧ w' = w := by
  go_enter Tryd.func81, Tryd.ntmps81
  go_wp2
  go_ret
  exact ⟨by simp [has_eq], rfl⟩
theorem isCount_any (s : Int) (w : World) :
    Calls Tryd.prog 42 #[.int .i64 s] w fun e w' => e = .returned (.bool (inB s 1 16)) ∧ w' = w := by
  by_cases h1 : 1 ≤ s <;> by_cases h2 : s ≤ 16
  all_goals
    go_enter Tryd.func42, Tryd.ntmps42
    go_wp2
    go_ret
    simp [inB, h1, h2]
theorem isSetOf_any (n : Nat) (s : Int) (w : World) (h0 : n ≤ 16) :
    Calls Tryd.prog 49 #[.int .i64 n, .int .i64 s] w fun e w' => e = .returned (.bool (inB s 0 (2 ^ n - 1))) ∧ w' = w := by
  go_enter Tryd.func49, Tryd.ntmps49
  go_wp2
  go_ret
  refine ⟨?_, rfl⟩
  rw [← isSet_in]
  simp
theorem isSet_any (A : Option Addr) (n c : Nat) (s : Int) (o : Bool) (w : World) (h0 : n ≤ 16) :
    Calls Tryd.prog 80 #[.agg #[.slice A n c, .bool o], .int .i64 s] w fun e w' => e = .returned (.bool (inB s 0 (2 ^ n - 1))) ∧ Below w.heap.size w w' := by
  go_enter Tryd.func80, Tryd.ntmps80
  go_wp2_with (go_at_call 49; refine (isSetOf_any n _ _ h0).mono ?_; rintro e w' ⟨rfl, rfl⟩)
  go_ret
  exact ⟨rfl, by go_grown⟩
theorem l1All_any (A : Option Addr) (n c : Nat) (f : Nat → Int) (lo hi : Int) (w : World) (hn : n ≤ 1048576) (hs : Src w A n (iv f)) :
    Calls Tryd.prog 78 #[.slice A n c, .int .i64 lo, .int .i64 hi] w fun e w' => e = .returned (.bool (allB n f lo hi)) ∧ w' = w := by
  have HS := hide hs
  clear hs
  go_enter Tryd.func78, Tryd.ntmps78
  go_wp2
  go_loop [11] (fun i => ∃ k : Nat, k ≤ n ∧ i = .int .i64 k ∧ Hid (∀ j, j < k → lo ≤ f j ∧ f j ≤ hi)) (fun i => n - (intOf i).toNat)
  case atStart => exact ⟨0, Nat.zero_le _, rfl, hide (fun j hj => absurd hj (by omega))⟩
  case round =>
    obtain ⟨k, hk, rfl, HK⟩ := hrel
    by_cases hlt : k < n
    · obtain ⟨b, off, hA, hbl, hc0⟩ := HS.out k hlt
      have hc : w.cell? ⟨b, off + k, none⟩ = some (.int .i64 (f k)) := hc0
      clear hc0
      subst hA
      cases hin : inB (f k) lo hi
      · go_wp2_with (go_at_call 46; refine (l1InG_any _ _ _ _).mono ?_; rintro e w' ⟨rfl, rfl⟩)
        go_ret
        refine ⟨?_, rfl⟩
        have : allB n f lo hi = false := by
          simp only [inB, decide_eq_false_iff_not] at hin
          simp only [allB, decide_eq_false_iff_not]
          exact fun h => hin (h k hlt)
        rw [this]; rfl
      · go_wp2_with (go_at_call 46; refine (l1InG_any _ _ _ _).mono ?_; rintro e w' ⟨rfl, rfl⟩)
        go_round
        case rel => 
          refine ⟨k + 1, by omega, by go_num, hide fun j hj => ?_⟩
          by_cases hjk : j = k
          · subst hjk; simpa [inB] using hin
          · exact HK.out j (by omega)
        case measure => simp [intOf]; omega
    · go_wp2
      go_ret
      refine ⟨?_, rfl⟩
      have : allB n f lo hi = true := by
        simp only [allB, decide_eq_true_eq]
        exact fun j hj => HK.out j (by omega)
      rw [this]; rfl

theorem grGood_any (g n c : Nat) (f : Nat → Int) (own : Bool) (w : World) (hn : n ≤ 1048576) (ha : Arr w 3 g n (iv f)) :
    Calls Tryd.prog 37 #[.agg #[.slice (some ⟨g, 0, none⟩) n c, .bool own]] w fun e w' => e = .returned (.bool (goodB n f)) ∧ Below w.heap.size w w' := by
  have hgl := ha.lt
  have hs : Src w (some ⟨g, 0, none⟩) n (iv f) := Src.of_arr ha
  have HS := hide hs
  have HA := hide ha
  clear hs ha
  cases h1 : inB n 1 16
  · go_enter Tryd.func37, Tryd.ntmps37
    go_wp2
    go_quiet ((go_at_call 38; exact Calls.quiet_of_same (grSize_any _ _)))
    go_wp2
    go_ret
    refine ⟨?_, below_drewN (by go_grown) _⟩
    rw [goodB_no (fun h => by have h2 := h.1; have h3 := h.2.1; simp [inB] at h1; omega)]
    rfl
  · have hn16 : 1 ≤ n ∧ n ≤ 16 := by simp [inB] at h1; omega
    have h2n := pow16 hn16.2
    cases h2 : allB n f 0 (2 ^ n - 1)
    · go_enter Tryd.func37, Tryd.ntmps37
      go_wp2
      go_quiet (first | (go_at_call 38; exact Calls.quiet_of_same (grSize_any _ _)) | (go_at_call 78; exact Calls.quiet_of_same (l1All_any _ _ _ f _ _ _ hn (HS.out.alloc _))))
      go_wp2
      go_ret
      refine ⟨?_, below_drewN (by go_grown) _⟩
      rw [goodB_no (fun h => by
        simp only [allB, decide_eq_false_iff_not] at h2
        exact h2 fun k hk => by have := h.2.2.1 k hk; omega)]
      rfl
    · go_enter Tryd.func37, Tryd.ntmps37
      go_wp2
      go_quiet (first | (go_at_call 38; exact Calls.quiet_of_same (grSize_any _ _)) | (go_at_call 78; exact Calls.quiet_of_same (l1All_any _ _ _ f _ _ _ hn (HS.out.alloc _))))
      go_wp2
      have HK2 : Hid (∀ k, k < n → 0 ≤ f k ∧ f k < 2 ^ n) := hide fun k hk => by
        simp only [allB, decide_eq_true_eq] at h2
        have := h2 k hk; omega
      go_loop [25] (fun i => ∃ k : Nat, k ≤ n ∧ i = .int .i64 k ∧ Hid (∀ i, i < k → ∀ j, j < n → bt (f i) j = true → i ≠ j ∧ bt (f j) i = true)) (fun i => n - (intOf i).toNat)
      case atStart => exact ⟨0, Nat.zero_le _, rfl, hide (fun j hj => absurd hj (by omega))⟩
      case round =>
        obtain ⟨k, hk, rfl, HK⟩ := hrel
        by_cases hlt : k < n
        · have hc : w.cell? ⟨g, k, none⟩ = some (.int .i64 (f k)) := HA.out.cell hlt
          obtain ⟨hk0, hk1⟩ := HK2.out k hlt
          go_wp2
          go_loop [33] (fun i => ∃ m : Nat, m ≤ n ∧ i = .int .i64 m ∧ Hid (∀ j, j < m → bt (f k) j = true → k ≠ j ∧ bt (f j) k = true)) (fun i => n - (intOf i).toNat)
          case atStart => exact ⟨0, Nat.zero_le _, rfl, hide (fun j hj => absurd hj (by omega))⟩
          case round =>
            obtain ⟨m, hm, rfl, HM⟩ := hrel
            by_cases hltm : m < n
            · have hc2 : w.cell? ⟨g, m, none⟩ = some (.int .i64 (f m)) := HA.out.cell hltm
              obtain ⟨hm0, hm1⟩ := HK2.out m hltm
              cases hb1 : bt (f k) m
              · go_wp2_with (go_at_call 79; refine (grInG_any _ _ (by assumption) (by omega) (by omega) _).mono ?_; rintro e w' ⟨rfl, rfl⟩; simp only [Int.toNat_natCast])
                go_round
                case rel => exact ⟨m + 1, by omega, by go_num, hide fun j hj => by
                  by_cases hjm : j = m
                  · subst hjm; rw [hb1]; intro h; cases h
                  · exact HM.out j (by omega)⟩
                case measure => simp [intOf]; omega
              · by_cases hkm : k = m
                · subst hkm
                  go_wp2_with (go_at_call 79; refine (grInG_any _ _ (by assumption) (by omega) (by omega) _).mono ?_; rintro e w' ⟨rfl, rfl⟩; simp only [Int.toNat_natCast])
                  go_ret
                  refine ⟨?_, below_drewN (by go_grown) _⟩
                  rw [goodB_no (fun h => (h.2.2.2 k hlt k hlt hb1).1 rfl)]
                  rfl
                · cases hb2 : bt (f m) k
                  · go_wp2_with (go_at_call 79; refine (grInG_any _ _ (by assumption) (by omega) (by omega) _).mono ?_; rintro e w' ⟨rfl, rfl⟩; simp only [Int.toNat_natCast])
                    go_ret
                    refine ⟨?_, below_drewN (by go_grown) _⟩
                    rw [goodB_no (fun h => by have := (h.2.2.2 k hlt m hltm hb1).2; rw [hb2] at this; cases this)]
                    rfl
                  · go_wp2_with (go_at_call 79; refine (grInG_any _ _ (by assumption) (by omega) (by omega) _).mono ?_; rintro e w' ⟨rfl, rfl⟩; simp only [Int.toNat_natCast])
                    go_round
                    case rel => exact ⟨m + 1, by omega, by go_num, hide fun j hj => by
                      by_cases hjm : j = m
                      · subst hjm; exact fun _ => ⟨hkm, hb2⟩
                      · exact HM.out j (by omega)⟩
                    case measure => simp [intOf]; omega
            · go_wp2
              go_round
              case rel => 
                have hrest : Hid (∀ i, i < k + 1 → ∀ j, j < n → bt (f i) j = true → i ≠ j ∧ bt (f j) i = true) := hide fun i hi => by
                  by_cases hik : i = k
                  · subst hik; exact fun j hj => HM.out j (by omega)
                  · exact HK.out i (by omega)
                (repeat apply Exists.intro)
                exact ⟨⟨k + 1, by omega, by go_num, hrest⟩, rfl, rfl, rfl, rfl, rfl⟩
              case measure => simp [intOf]; omega
        · go_wp2
          go_ret
          refine ⟨?_, below_drewN (by go_grown) _⟩
          rw [goodB_yes ⟨hn16.1, hn16.2, HK2.out, fun i hi => HK.out i (by omega)⟩]
          rfl
end Go.Proofs.YtdpoceijnbbmgaaDoor
