import Derived.Test.YtmkdikoogbedkaaDoorC
import Derived.Test.YtmkdikoogbedkaaDoorK
import Derived.Deep.RegionHeld3
namespace Go.Proofs.YtmkdikoogbedkaaDoor
open Go.RowKit
set_option maxHeartbeats 400000
/-- The marks k, k + 1, .. -/
def marks (k : Int) : Nat → Int := fun j => k + j
/-- What a call that writes into block g alone leaves: the marks. -/
def Marked (w : World) (g n : Nat) (k : Int) (e : Ending) (w' : World) : Prop :=
  e = .returned (.int .i64 (k + n)) ∧ Arr w' 3 g n (iv (marks k)) ∧ w.grownBy w' (some g)

theorem markIntS_arr (g n c : Nat) (f : Nat → Int) (k : Int) (w : World) (hn : n ≤ 1048576) (h0 : 0 ≤ k) (h1 : k ≤ 4611686018427387904) (ha : Arr w 3 g n (iv f)) :
    Calls Tryd.prog 18 #[.slice (some ⟨g, 0, none⟩) n c, .int .i64 k] w (Marked w g n k) := by
  have HA := hide ha
  clear ha
  go_enter Tryd.func18, Tryd.ntmps18
  go_wp2
  go_loopw [1, 5] (fun kk i wr => ∃ m : Nat, m ≤ n ∧ i = .int .i64 m ∧ kk = .int .i64 (k + m) ∧ Arr wr 3 g n (fun j => if j < m then .int .i64 (k + j) else iv f j) ∧ w.grownBy wr (some g)) (fun _ i _ => n - (intOf i).toNat)
  case atStart => exact ⟨0, Nat.zero_le _, rfl, by simp, HA.out.congr (fun j hj => by simp), World.grownBy.refl _ _⟩
  case round =>
    obtain ⟨m, hm, rfl, rfl, ha, hg⟩ := hrel
    by_cases hlt : m < n
    · have hc := ha.cell hlt
      have hz := ha.frozen m
      have HA' := hide ha
      have HG := hide hg
      clear ha hg
      go_wp2
      go_roundw
      case rel =>
        refine ⟨m + 1, by omega, by go_num, by go_num, (HA'.out.set m _).congr (fun j hj => ?_), grownBy_setCell HG.out _⟩
        by_cases hjm : j = m
        · subst hjm; simp
        · simp only [hjm, if_false]
          by_cases h2 : j < m
          · rw [if_pos h2, if_pos (by omega)]
          · rw [if_neg h2, if_neg (by omega)]
      case measure => simp [intOf]; omega
    · go_wp2
      go_ret
      have hmn : m = n := by omega
      subst hmn
      exact ⟨rfl, ha.congr (fun j hj => by rw [if_pos hj]; rfl), hg⟩

theorem markIntS_none (A : Option Addr) (c : Nat) (k : Int) (w : World) :
    Calls Tryd.prog 18 #[.slice A 0 c, .int .i64 k] w fun e w' => e = .returned (.int .i64 k) ∧ w' = w := by
  go_enter Tryd.func18, Tryd.ntmps18
  go_wp2
  refine wp_loop_rounds 1 ?_
  rw [rounds_succ]
  go_wp2
  go_ret
  exact ⟨rfl, rfl⟩

theorem heldIntS_any (A : Option Addr) (n c : Nat) (k : Int) (w : World) (hn : n ≤ 1048576) (h0 : 0 ≤ k) (h1 : k ≤ 4611686018427387904) (hs : Src w A n (iv (marks k))) :
    Calls Tryd.prog 40 #[.slice A n c, .int .i64 k] w fun e w' => e = .returned (.int .i64 (k + n)) ∧ w' = w := by
  have HS := hide hs
  clear hs
  go_enter Tryd.func40, Tryd.ntmps40
  go_wp2
  go_loop [1, 5] (fun kk i => ∃ m : Nat, m ≤ n ∧ i = .int .i64 m ∧ kk = .int .i64 (k + m)) (fun _ i => n - (intOf i).toNat)
  case atStart => exact ⟨0, Nat.zero_le _, rfl, by simp⟩
  case round =>
    obtain ⟨m, hm, rfl, rfl⟩ := hrel
    by_cases hlt : m < n
    · obtain ⟨b, off, hA, hbl, hc0⟩ := HS.out m hlt
      have hc : w.cell? ⟨b, off + m, none⟩ = some (.int .i64 (k + m)) := hc0
      clear hc0
      subst hA
      have hq : (k + (m : Int) != k + m) = false := by simp
      go_wp2
      go_round
      case rel => exact ⟨m + 1, by omega, by go_num, by go_num⟩
      case measure => simp [intOf]; omega
    · have hmn : m = n := by omega
      subst hmn
      go_wp2
      go_ret
      exact ⟨rfl, rfl⟩

theorem markGraph_arr (g n c : Nat) (f : Nat → Int) (own : Bool) (k : Int) (w : World) (hn : n ≤ 1048576) (h0 : 0 ≤ k) (h1 : k ≤ 4611686018427387904) (ha : Arr w 3 g n (iv f)) :
    Calls Tryd.prog 17 #[.agg #[.slice (some ⟨g, 0, none⟩) n c, .bool own], .int .i64 k] w (Marked w g n k) := by
  have HA := hide ha
  clear ha
  go_enter Tryd.func17, Tryd.ntmps17
  go_wp2_with (go_at_call 18; refine (markIntS_arr _ _ _ f _ _ hn h0 h1 (HA.out.alloc _)).mono ?_; rintro e w1 ⟨rfl, ha1, hg1⟩)
  go_ret
  exact ⟨rfl, ha1, grownBy_trans (grownBy_of_below (by go_grown) _) hg1⟩
theorem markGraph_none (A : Option Addr) (c : Nat) (own : Bool) (k : Int) (w : World) :
    Calls Tryd.prog 17 #[.agg #[.slice A 0 c, .bool own], .int .i64 k] w fun e w' => e = .returned (.int .i64 k) ∧ Below w.heap.size w w' := by
  go_enter Tryd.func17, Tryd.ntmps17
  go_wp2_with (go_at_call 18; refine (markIntS_none _ _ _ _).mono ?_; rintro e w1 ⟨rfl, rfl⟩)
  go_ret
  exact ⟨rfl, by go_grown⟩
theorem heldGraph_any (A : Option Addr) (n c : Nat) (own : Bool) (k : Int) (w : World) (hn : n ≤ 1048576) (h0 : 0 ≤ k) (h1 : k ≤ 4611686018427387904) (hs : Src w A n (iv (marks k))) :
    Calls Tryd.prog 19 #[.agg #[.slice A n c, .bool own], .int .i64 k] w fun e w' => e = .returned (.int .i64 (k + n)) ∧ Below w.heap.size w w' := by
  have HS := hide hs
  clear hs
  have hp : ¬ (k + n < 0) := by omega
  go_enter Tryd.func19, Tryd.ntmps19
  go_wp2_with (go_at_call 40; refine (heldIntS_any _ _ _ _ _ hn h0 h1 (HS.out.alloc _)).mono ?_; rintro e w1 ⟨rfl, rfl⟩)
  go_ret
  exact ⟨rfl, by go_grown⟩
end Go.Proofs.YtmkdikoogbedkaaDoor
