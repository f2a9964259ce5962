import Derived.Test.YtibikoajejfdeaaD
namespace Go.Proofs.Ytibikoajejfdeaa
open Go.RowKit
set_option maxHeartbeats 400000
/-- Are neighbours so both ways? -/
def mutB (n : Nat) (f : Nat → Int) : Bool := decide (∀ i, i < n → ∀ j, j < i → bt (f i) j = bt (f j) i)
theorem isMutual_any (g n c : Nat) (f : Nat → Int) (w : World) (hn : n ≤ 16) (ha : Arr w 3 g n (iv f)) :
    Calls Try.prog 41 #[.slice (some ⟨g, 0, none⟩) n c] w fun e w' => e = .returned (.bool (mutB n f)) ∧ ∃ j, w' = w.drewN j := by
  have HA := hide ha
  clear ha
  go_enter Try.func41, Try.ntmps41
  go_wp2
  go_loopw [7] (fun i wr => ∃ k : Nat, k ≤ n ∧ i = .int .i64 k ∧ (∃ d, wr = w.drewN d) ∧ Hid (∀ i, i < k → ∀ j, j < i → bt (f i) j = bt (f j) i)) (fun i _ => n - (intOf i).toNat)
  case atStart => exact ⟨0, Nat.zero_le _, rfl, ⟨0, rfl⟩, hide (fun j hj => absurd hj (by omega))⟩
  case round =>
    obtain ⟨k, hk, rfl, ⟨d, rfl⟩, HK⟩ := hrel
    by_cases hlt : k < n
    · have hc : w.cell? ⟨g, k, none⟩ = some (.int .i64 (f k)) := HA.out.cell hlt
      go_wp2
      go_loopw [11] (fun i wr => ∃ m : Nat, m ≤ k ∧ i = .int .i64 m ∧ (∃ d, wr = w.drewN d) ∧ Hid (∀ j, j < m → bt (f k) j = bt (f j) k)) (fun i _ => k - (intOf i).toNat)
      case atStart => exact ⟨0, Nat.zero_le _, rfl, ⟨_, rfl⟩, hide (fun j hj => absurd hj (by omega))⟩
      case round =>
        obtain ⟨m, hm, rfl, ⟨d2, rfl⟩, HM⟩ := hrel
        by_cases hltm : m < k
        · have hc2 : w.cell? ⟨g, m, none⟩ = some (.int .i64 (f m)) := HA.out.cell (by omega)
          cases hb : (bt (f k) m == bt (f m) k)
          · go_wp2
            go_quiet (first | (go_at_call 40; exact quiet_add_same (hasG_any _ _ (by omega) (by omega) _)))
            go_wp2
            go_ret
            refine ⟨?_, _, World.drewN_drewN _ _ _⟩
            have : mutB n f = false := by
              simp only [mutB, decide_eq_false_iff_not]
              exact fun h => by have := h k hlt m hltm; rw [this] at hb; simp at hb
            rw [this]; rfl
          · go_wp2
            go_quiet (first | (go_at_call 40; exact quiet_add_same (hasG_any _ _ (by omega) (by omega) _)))
            go_wp2
            go_roundw
            case rel => 
              have hrest : Hid (∀ j, j < m + 1 → bt (f k) j = bt (f j) k) := hide fun j hj => by
                by_cases hjm : j = m
                · subst hjm; simpa using hb
                · exact HM.out j (by omega)
              exact ⟨m + 1, by omega, by go_num, ⟨_, rfl⟩, hrest⟩
            case measure => simp [intOf]; omega
        · go_wp2
          go_roundw
          case rel => 
            have hrest : Hid (∀ i, i < k + 1 → ∀ j, j < i → bt (f i) j = bt (f j) i) := hide fun i hi => by
              by_cases hik : i = k
              · subst hik; exact fun j hj => HM.out j (by omega)
              · exact HK.out i (by omega)
            exact ⟨k + 1, by omega, by go_num, ⟨_, rfl⟩, hrest⟩
          case measure => simp [intOf]; omega
    · go_wp2
      go_ret
      refine ⟨?_, _, rfl⟩
      have : mutB n f = true := by
        simp only [mutB, decide_eq_true_eq]
        exact fun i hi => HK.out i (by omega)
      rw [this]; rfl
end Go.Proofs.Ytibikoajejfdeaa
