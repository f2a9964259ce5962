import Derived.Test.YtibikoajejfdeaaE
namespace Go.Proofs.Ytibikoajejfdeaa
open Go.RowKit
set_option maxHeartbeats 400000
theorem isGraph_any (g n c : Nat) (f : Nat → Int) (own : Bool) (w : World) (hn : n ≤ 1048576) (ha : Arr w 3 g n (iv f)) :
    Calls Try.prog 28 #[.agg #[.slice (some ⟨g, 0, none⟩) n c, .bool own]] w fun e w' => e = .returned (.bool (goodB n f)) ∧ Below w.heap.size w w' := by
  have hgl := ha.lt
  have HA := hide ha
  clear ha
  cases h1 : inB n 1 16
  · go_enter Try.func28, Try.ntmps28
    go_wp2_with (go_at_call 38; refine (isCount_any _ _).mono ?_; rintro e w' ⟨rfl, rfl⟩)
    go_ret
    refine ⟨?_, by go_grown⟩
    rw [goodB_no (fun h => by have h2 := h.1; have h3 := h.2.1; simp [inB] at h1; omega)]
    rfl
  · have hn16 : 1 ≤ n ∧ n ≤ 16 := by simp [inB] at h1; omega
    have h2n := pow16 hn16.2
    go_enter Try.func28, Try.ntmps28
    go_wp2_with (go_at_call 38; refine (isCount_any _ _).mono ?_; rintro e w' ⟨rfl, rfl⟩)
    go_loopw [13] (fun i wr => ∃ k : Nat, k ≤ n ∧ i = .int .i64 k ∧ Below (w.heap.size + 1) (w.alloc (.cells #[.slice (some ⟨g, 0, none⟩) n c, .bool own] 29)) wr ∧ Hid (∀ i, i < k → (0 ≤ f i ∧ f i < 2 ^ n) ∧ bt (f i) i = false)) (fun i _ => n - (intOf i).toNat)
    case atStart => exact ⟨0, Nat.zero_le _, rfl, Below.refl _ _, hide (fun j hj => absurd hj (by omega))⟩
    case round =>
      obtain ⟨k, hk, rfl, hb, HK⟩ := hrel
      have hbx : ∀ o, wr.cell? ⟨w.heap.size, o, none⟩ = (w.alloc (.cells #[.slice (some ⟨g, 0, none⟩) n c, .bool own] 29)).cell? ⟨w.heap.size, o, none⟩ := fun o => hb.cell (p := ⟨w.heap.size, o, none⟩) (by simp)
      have hA : Arr wr 3 g n (iv f) := (HA.out.alloc _).below hb (by omega)
      have hz := hb.size
      simp only [World.size_alloc] at hz
      have HB := hide hb
      clear hb
      by_cases hlt : k < n
      · have hc : wr.cell? ⟨g, k, none⟩ = some (.int .i64 (f k)) := hA.cell hlt
        have HAr := hide hA
        clear hA
        cases hi1 : inB (f k) 0 (2 ^ n - 1)
        · go_wp2_with (go_at_call 39; refine (isSet_any _ _ _ _ _ _ hn16.2).mono ?_; rintro e w2 ⟨rfl, hb2⟩)
          go_ret
          refine ⟨?_, ((by go_grown : Below w.heap.size w _).trans (HB.out.mono (by omega))).trans (hb2.mono (by omega))⟩
          rw [goodB_no (fun h => by have := h.2.2.1 k hlt; simp [inB] at hi1; omega)]
          rfl
        · cases hi2 : bt (f k) k
          · go_wp2_with (first | (go_at_call 39; refine (isSet_any _ _ _ _ _ _ hn16.2).mono ?_; rintro e w2 ⟨rfl, hb2⟩) | (go_at_call 40; refine (hasG_any _ _ (by omega) (by omega) _).mono ?_; rintro e w3 ⟨rfl, rfl⟩; simp only [Int.toNat_natCast]))
            go_roundw
            case rel => 
              have hrest : Hid (∀ i, i < k + 1 → (0 ≤ f i ∧ f i < 2 ^ n) ∧ bt (f i) i = false) := hide fun i hi => by
                by_cases hik : i = k
                · subst hik; refine ⟨?_, hi2⟩; simp [inB] at hi1; omega
                · exact HK.out i (by omega)
              exact ⟨k + 1, by omega, by go_num, HB.out.trans (hb2.mono hz), hrest⟩
            case measure => simp [intOf]; omega
          · go_wp2_with (first | (go_at_call 39; refine (isSet_any _ _ _ _ _ _ hn16.2).mono ?_; rintro e w2 ⟨rfl, hb2⟩) | (go_at_call 40; refine (hasG_any _ _ (by omega) (by omega) _).mono ?_; rintro e w3 ⟨rfl, rfl⟩; simp only [Int.toNat_natCast]))
            go_ret
            refine ⟨?_, ((by go_grown : Below w.heap.size w _).trans (HB.out.mono (by omega))).trans (hb2.mono (by omega))⟩
            rw [goodB_no (fun h => (h.2.2.2 k hlt k hlt hi2).1 rfl)]
            rfl
      · have HAr := hide hA
        clear hA
        go_wp2_with (go_at_call 41; refine (isMutual_any _ _ _ f _ hn16.2 HAr.out).mono ?_; rintro e w2 ⟨rfl, j, rfl⟩)
        go_ret
        refine ⟨?_, below_drewN ((by go_grown : Below w.heap.size w _).trans (HB.out.mono (by omega))) _⟩
        have : mutB n f = goodB n f := by
          cases hm : mutB n f
          · rw [goodB_no]
            intro h
            simp only [mutB, decide_eq_false_iff_not] at hm
            refine hm fun i hi j hj => ?_
            have h1 := h.2.2.2 i hi j (by omega)
            have h2 := h.2.2.2 j (by omega) i hi
            cases e1 : bt (f i) j <;> cases e2 : bt (f j) i <;> simp_all
          · rw [goodB_yes]
            simp only [mutB, decide_eq_true_eq] at hm
            refine ⟨hn16.1, hn16.2, fun i hi => (HK.out i (by omega)).1, fun i hi j hj hb => ?_⟩
            have hij : i ≠ j := by
              rintro rfl
              rw [(HK.out i (by omega)).2] at hb
              cases hb
            refine ⟨hij, ?_⟩
            rcases Nat.lt_or_ge j i with h | h
            · rw [← hm i hi j h]; exact hb
            · rw [hm j hj i (by omega)]; exact hb
        rw [← this]
        rfl
end Go.Proofs.Ytibikoajejfdeaa
