import Derived.Test.YtdpoceijnbbmgaaDoorC
import Derived.Deep.RegionHeld3
namespace Go.Proofs.YtdpoceijnbbmgaaDoor
open Go.RowKit
set_option maxHeartbeats 400000
/-- The marks k, k + 1, .. -/
def marks (k : Int) : Nat → Int := fun j => k + j
/-- What a call that writes into block g alone leaves: the marks. -/
def Marked (w : World) (g n : Nat) (k : Int) (e : Ending) (w' : World) : Prop :=
  e = .returned (.int .i64 (k + n)) ∧ Arr w' 3 g n (iv (marks k)) ∧ w.grownBy w' (some g)

theorem grownBy_drewN {w w' : World} {row : Option Nat} (h : w.grownBy w' row) (n : Nat) : w.grownBy (w'.drewN n) row := ⟨h.os, h.tape, h.output, h.size, h.block⟩
theorem grownBy_trans {a b c : World} {row : Option Nat} (h : a.grownBy b row) (k : b.grownBy c row) : a.grownBy c row :=
  ⟨k.os.trans h.os, k.tape.trans h.tape, k.output.trans h.output, Nat.le_trans h.size k.size, fun i hi hne => (k.block i (Nat.lt_of_lt_of_le hi h.size) hne).trans (h.block i hi hne)⟩
theorem grownBy_setCell {w w' : World} {g i : Nat} (h : w.grownBy w' (some g)) (u : Value) : w.grownBy (w'.setCell ⟨g, i, none⟩ u) (some g) :=
  ⟨h.os, h.tape, h.output, by simpa [World.setCell] using h.size, fun k hk hne => (Below.heap_setCell w' ⟨g, i, none⟩ u k (fun e => hne (by rw [e]))).trans (h.block k hk hne)⟩
theorem grownBy_of_below {w w' : World} (h : Below w.heap.size w w') (row : Option Nat) : w.grownBy w' row := ⟨h.os, h.tape, h.output, h.size, fun k hk _ => h.block k hk⟩

theorem markIntS_arr (g n c : Nat) (f : Nat → Int) (k : Int) (w : World) (hn : n ≤ 1048576) (h0 : 0 ≤ k) (h1 : k ≤ 4611686018427387904) (ha : Arr w 3 g n (iv f)) :
    Calls Tryd.prog 24 #[.slice (some ⟨g, 0, none⟩) n c, .int .i64 k] w (Marked w g n k) := by
  have HA := hide ha
  clear ha
  go_enter Tryd.func24, Tryd.ntmps24
  go_wp2
  go_loopw [1, 5] (fun kk i wr => ∃ m : Nat, m ≤ n ∧ i = .int .i64 m ∧ kk = .int .i64 (k + m) ∧ Arr wr 3 g n (fun j => if j < m then .int .i64 (k + j) else iv f j) ∧ w.grownBy wr (some g)) (fun _ i _ => n - (intOf i).toNat)
  case atStart => exact ⟨0, Nat.zero_le _, rfl, by simp, HA.out.congr (fun j hj => by simp), World.grownBy.refl _ _⟩
  case round =>
    obtain ⟨m, hm, rfl, rfl, ha, hg⟩ := hrel
    by_cases hlt : m < n
    · have hc := ha.cell hlt
      have hz := ha.frozen m
      have HA' := hide ha
      have HG := hide hg
      clear ha hg
      go_wp2
      go_roundw
      case rel =>
        refine ⟨m + 1, by omega, by go_num, by go_num, (HA'.out.set m _).congr (fun j hj => ?_), grownBy_setCell HG.out _⟩
        by_cases hjm : j = m
        · subst hjm; simp
        · simp only [hjm, if_false]
          by_cases h2 : j < m
          · rw [if_pos h2, if_pos (by omega)]
          · rw [if_neg h2, if_neg (by omega)]
      case measure => simp [intOf]; omega
    · go_wp2
      go_ret
      have hmn : m = n := by omega
      subst hmn
      exact ⟨rfl, ha.congr (fun j hj => by rw [if_pos hj]; rfl), hg⟩

theorem markIntS_none (A : Option Addr) (c : Nat) (k : Int) (w : World) :
    Calls Tryd.prog 24 #[.slice A 0 c, .int .i64 k] w fun e w' => e = .returned (.int .i64 k) ∧ w' = w := by
  go_enter Tryd.func24, Tryd.ntmps24
  go_wp2
  refine wp_loop_rounds 1 ?_
  rw [rounds_succ]
  go_wp2
  go_ret
  exact ⟨rfl, rfl⟩

theorem heldIntS_any (A : Option Addr) (n c : Nat) (k : Int) (w : World) (hn : n ≤ 1048576) (h0 : 0 ≤ k) (h1 : k ≤ 4611686018427387904) (hs : Src w A n (iv (marks k))) :
    Calls Tryd.prog 25 #[.slice A n c, .int .i64 k] w fun e w' => e = .returned (.int .i64 (k + n)) ∧ w' = w := by
  have HS := hide hs
  clear hs
  go_enter Tryd.func25, Tryd.ntmps25
  go_wp2
  go_loop [1, 5] (fun kk i => ∃ m : Nat, m ≤ n ∧ i = .int .i64 m ∧ kk = .int .i64 (k + m)) (fun _ i => n - (intOf i).toNat)
  case atStart => exact ⟨0, Nat.zero_le _, rfl, by simp⟩
  case round =>
    obtain ⟨m, hm, rfl, rfl⟩ := hrel
    by_cases hlt : m < n
    · obtain ⟨b, off, hA, hbl, hc0⟩ := HS.out m hlt
      have hc : w.cell? ⟨b, off + m, none⟩ = some (.int .i64 (k + m)) := hc0
      clear hc0
      subst hA
      have hq : (k + (m : Int) != k + m) = false := by simp
      go_wp2
      go_round
      case rel => exact ⟨m + 1, by omega, by go_num, by go_num⟩
      case measure => simp [intOf]; omega
    · have hmn : m = n := by omega
      subst hmn
      go_wp2
      go_ret
      exact ⟨rfl, rfl⟩

theorem markGraph_arr (g n c : Nat) (f : Nat → Int) (own : Bool) (k : Int) (w : World) (hn : n ≤ 1048576) (h0 : 0 ≤ k) (h1 : k ≤ 4611686018427387904) (ha : Arr w 3 g n (iv f)) :
    Calls Tryd.prog 16 #[.agg #[.slice (some ⟨g, 0, none⟩) n c, .bool own], .int .i64 k] w (Marked w g n k) := by
  have HA := hide ha
  clear ha
  go_enter Tryd.func16, Tryd.ntmps16
  go_wp2_with (go_at_call 24; refine (markIntS_arr _ _ _ f _ _ hn h0 h1 (HA.out.alloc _)).mono ?_; rintro e w1 ⟨rfl, ha1, hg1⟩)
  go_ret
  exact ⟨rfl, ha1, grownBy_trans (grownBy_of_below (by go_grown) _) hg1⟩
theorem markGraph_none (A : Option Addr) (c : Nat) (own : Bool) (k : Int) (w : World) :
    Calls Tryd.prog 16 #[.agg #[.slice A 0 c, .bool own], .int .i64 k] w fun e w' => e = .returned (.int .i64 k) ∧ Below w.heap.size w w' := by
  go_enter Tryd.func16, Tryd.ntmps16
  go_wp2_with (go_at_call 24; refine (markIntS_none _ _ _ _).mono ?_; rintro e w1 ⟨rfl, rfl⟩)
  go_ret
  exact ⟨rfl, by go_grown⟩
end Go.Proofs.YtdpoceijnbbmgaaDoor
