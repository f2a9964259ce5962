import Derived.Test.YtmcimfblhpflnaaB
import Derived.Handy
namespace Go.Proofs.Ytmcimfblhpflnaa
open Go.RowKit
set_option maxHeartbeats 400000

theorem eqIntS_true (A A' : Option Addr) (n c c' : Nat) (f : Nat → Int) (w : World) (hn : n ≤ 1048576) (hs : Src w A n (iv f)) (hs' : Src w A' n (iv f)) :
    Calls Try.prog 17 #[.slice A n c, .slice A' n c'] w fun e w' => e = .returned (.bool true) ∧ ∃ j, w' = w.drewN j := by
  have HS := hide hs
  have HS' := hide hs'
  clear hs hs'
  go_enter Try.func17, Try.ntmps17
  go_wp2
  go_loopw [5] (fun i wr => ∃ k : Nat, k ≤ n ∧ i = .int .i64 k ∧ ∃ j, wr = w.drewN j)
    (fun i _ => n - (intOf i).toNat)
  case atStart => exact ⟨0, Nat.zero_le _, rfl, 0, rfl⟩
  case round =>
    obtain ⟨k, hk, rfl, j, rfl⟩ := hrel
    by_cases hlt : k < n
    · obtain ⟨b, off, hA, hbl, hc0⟩ := HS.out k hlt
      obtain ⟨b', off', hA', hbl', hc0'⟩ := HS'.out k hlt
      have hc : w.cell? ⟨b, off + k, none⟩ = some (.int .i64 (f k)) := hc0
      have hc' : w.cell? ⟨b', off' + k, none⟩ = some (.int .i64 (f k)) := hc0'
      clear hc0 hc0'
      subst hA hA'
      go_wp2
      go_quiet (fail)
      go_wp2
      go_roundw
      case rel => exact ⟨k + 1, by omega, by go_num, _, rfl⟩
      case measure => simp [intOf]; omega
    · go_wp2
      go_ret
      exact ⟨rfl, _, rfl⟩

/-- What a call that hands back a new graph leaves. -/
def NewGraph (w : World) (n : Nat) (f : Nat → Int) (own : Bool) (e : Ending) (w' : World) : Prop :=
  ∃ g, e = .returned (.agg #[.slice (some ⟨g, 0, none⟩) n n, .bool own]) ∧ w.heap.size ≤ g ∧ Arr w' 3 g n (iv f) ∧ Below w.heap.size w w'

theorem eqGraph_true (A A' : Option Addr) (n c c' : Nat) (f : Nat → Int) (own : Bool) (w : World) (hn : n ≤ 1048576) (hs : Src w A n (iv f)) (hs' : Src w A' n (iv f)) :
    Calls Try.prog 16 #[.agg #[.slice A n c, .bool own], .agg #[.slice A' n c', .bool own]] w fun e w' => e = .returned (.bool true) ∧ Below w.heap.size w w' := by
  have HS := hide hs
  have HS' := hide hs'
  clear hs hs'
  have ho : (own != own) = false := by simp
  go_enter Try.func16, Try.ntmps16
  go_wp2_with (go_at_call 17; refine (eqIntS_true _ _ _ _ _ f _ hn ((HS.out.alloc _).alloc _) ((HS'.out.alloc _).alloc _)).mono ?_; rintro e w1 ⟨rfl, j, rfl⟩)
  go_ret
  exact ⟨rfl, below_drewN (by go_grown) _⟩
end Go.Proofs.Ytmcimfblhpflnaa
