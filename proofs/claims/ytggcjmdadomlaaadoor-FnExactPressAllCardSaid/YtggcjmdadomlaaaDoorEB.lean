import Derived.Test.YtggcjmdadomlaaaDoorEA
namespace Go.Proofs.YtggcjmdadomlaaaDoor
open Go.RowKit
set_option maxHeartbeats 400000
theorem grEffect_any (g n c : Nat) (F : Nat → Nat) (own : Bool) (p : Nat) (w : World) (hn : n ≤ 16) (hp : p < 65536) (hF : ∀ i, i < n → F i < 65536) (ha : Arr w 3 g n (iv (nv F))) :
    Calls Tryd.prog 25 #[.agg #[.slice (some ⟨g, 0, none⟩) n c, .bool own], .int .i64 p] w fun e w' => e = .returned (.int .i64 (effN (tog F own) p n : Nat)) ∧ Below w.heap.size w w' := by
  have hgl := ha.lt
  have HA := hide ha
  have HF := hide hF
  have HE : Hid (∀ k, k ≤ n → effN (tog F own) p k < 65536) := hide fun k hk => by
    have h : ∀ k, k ≤ n → effN (tog F own) p k < 2 ^ 16 := by
      intro k
      induction k with
      | zero => intro _; simp [effN]
      | succ k ih =>
        intro hk
        simp only [effN]
        split
        · exact Nat.xor_lt_two_pow (ih (by omega)) (tog_lt (by omega) (hF k (by omega)))
        · exact ih (by omega)
    exact h k hk
  clear ha hF
  go_enter Tryd.func25, Tryd.ntmps25
  go_wp2
  go_loopw [5, 10] (fun o i wr => ∃ k : Nat, k ≤ n ∧ i = .int .i64 k ∧ o = .int .i64 (effN (tog F own) p k : Nat) ∧ Arr wr 28 w.heap.size 2 (bx (.slice (some ⟨g, 0, none⟩) n c) (.bool own)) ∧ Below w.heap.size w wr) (fun _ i _ => n - (intOf i).toNat)
  case atStart => exact ⟨0, by omega, rfl, rfl, Arr.box w 28 _ _, by go_grown⟩
  case round =>
    obtain ⟨k, hk, rfl, rfl, hbx, hb⟩ := hrel
    have c0 : wr.cell? ⟨w.heap.size, 0, none⟩ = some (.slice (some ⟨g, 0, none⟩) n c) := hbx.cell (by omega)
    have c1 : wr.cell? ⟨w.heap.size, 1, none⟩ = some (.bool own) := hbx.cell (by omega)
    have HB := hide hb
    have HX := hide hbx
    clear hb hbx
    by_cases hlt : k < n
    · have he := HE.out k hk
      have ht := tog_lt (F := F) (own := own) (by omega : k < 16) (HF.out k hlt)
      have hx : bits .xor .i64 (effN (tog F own) p k : Nat) (tog F own k : Nat) = ((effN (tog F own) p k ^^^ tog F own k : Nat) : Int) := i64_xor_nat _ _ (by omega) (by omega)
      cases hbit : p.testBit k
      · go_wp2_with (first | (go_at_call 41; refine (grIn_any _ _ (by omega) (by omega) (by omega) _).mono ?_; rintro e w3 ⟨rfl, rfl⟩; simp only [Int.toNat_natCast, bt_nat, hbit]))
        go_roundw
        case rel => exact ⟨k + 1, by omega, by go_num, by simp [effN, hbit], HX.out, HB.out⟩
        case measure => simp [intOf]; omega
      · go_wp2_with (first | (go_at_call 41; refine (grIn_any _ _ (by omega) (by omega) (by omega) _).mono ?_; rintro e w3 ⟨rfl, rfl⟩; simp only [Int.toNat_natCast, bt_nat, hbit]) | (go_at_call 42; refine (grToggles_any _ _ _ F _ _ _ hn hlt (HF.out k hlt) (HA.out.below HB.out hgl)).mono ?_; rintro e w4 ⟨rfl, hb4⟩))
        go_roundw
        case rel => exact ⟨k + 1, by omega, by go_num, by simp [effN, hbit], HX.out.all hb4, HB.out.trans (hb4.mono HB.out.size)⟩
        case measure => simp [intOf]; omega
    · have hkn : k = n := by omega
      subst hkn
      go_wp2
      go_ret
      exact ⟨rfl, HB.out⟩
end Go.Proofs.YtggcjmdadomlaaaDoor
