import Derived.Test.YtdpoceijnbbmgaaDoorB
import Derived.Handy
namespace Go.Proofs.YtdpoceijnbbmgaaDoor
open Go.RowKit
set_option maxHeartbeats 400000

theorem eqIntS_true (A A' : Option Addr) (n c c' : Nat) (f : Nat → Int) (w : World) (hn : n ≤ 1048576) (hs : Src w A n (iv f)) (hs' : Src w A' n (iv f)) :
    Calls Tryd.prog 21 #[.slice A n c, .slice A' n c'] w fun e w' => e = .returned (.bool true) ∧ ∃ j, w' = w.drewN j := by
  have HS := hide hs
  have HS' := hide hs'
  clear hs hs'
  go_enter Tryd.func21, Tryd.ntmps21
  go_wp2
  go_loopw [5] (fun i wr => ∃ k : Nat, k ≤ n ∧ i = .int .i64 k ∧ ∃ j, wr = w.drewN j)
    (fun i _ => n - (intOf i).toNat)
  case atStart => exact ⟨0, Nat.zero_le _, rfl, 0, rfl⟩
  case round =>
    obtain ⟨k, hk, rfl, j, rfl⟩ := hrel
    by_cases hlt : k < n
    · obtain ⟨b, off, hA, hbl, hc0⟩ := HS.out k hlt
      obtain ⟨b', off', hA', hbl', hc0'⟩ := HS'.out k hlt
      have hc : w.cell? ⟨b, off + k, none⟩ = some (.int .i64 (f k)) := hc0
      have hc' : w.cell? ⟨b', off' + k, none⟩ = some (.int .i64 (f k)) := hc0'
      clear hc0 hc0'
      subst hA hA'
      go_wp2
      go_quiet (fail)
      go_wp2
      go_roundw
      case rel => exact ⟨k + 1, by omega, by go_num, _, rfl⟩
      case measure => simp [intOf]; omega
    · go_wp2
      go_ret
      exact ⟨rfl, _, rfl⟩

/-- What a call that hands back a new graph leaves. -/
def NewGraph (w : World) (n : Nat) (f : Nat → Int) (own : Bool) (e : Ending) (w' : World) : Prop :=
  ∃ g, e = .returned (.agg #[.slice (some ⟨g, 0, none⟩) n n, .bool own]) ∧ w.heap.size ≤ g ∧ Arr w' 3 g n (iv f) ∧ Below w.heap.size w w'

theorem toGraph_any (A : Option Addr) (n c : Nat) (f : Nat → Int) (own : Bool) (w : World) (hn : n ≤ 1048576) (hs : Src w A n (iv f)) :
    Calls Tryd.prog 13 #[.agg #[.slice A n c, .bool own]] w (NewGraph w n f own) := by
  have HS := hide hs
  clear hs
  go_enter Tryd.func13, Tryd.ntmps13
  go_wp2_with fail
  refine (toIntS_any _ _ _ f _ hn (((HS.out.alloc _).alloc _).alloc _)).mono ?_
  rintro e w1 ⟨rfl, ha, hb⟩
  obtain ⟨hc, hf⟩ := bcell hb
  have hz := hb.size
  simp only [World.size_alloc] at hc hf hz ha
  have HA := hide ha
  have HB := hide hb
  clear ha hb
  go_wp2
  refine bodyPost_ret (v := .agg #[.slice (some ⟨w.heap.size + 1 + 1 + 1, 0, none⟩) n n, .bool own]) (by simp [results, Tryd.results13, go_sem, hc]) rfl ?_
  refine ⟨_, rfl, by omega, ?_, ?_⟩
  · exact (((HA.out.far (by simp) _).far (by simp) _).far (by simp; omega) _).far (by simp; omega) _
  · have h3 : Below w.heap.size w w1 := (by go_grown : Below w.heap.size w _).trans (HB.out.mono (by simp; omega))
    go_grown
theorem szGraph_any (A : Option Addr) (n c : Nat) (own : Bool) (l : Int) (w : World) (hn : n ≤ 9223372036854775807) (h0 : 0 ≤ l) (h1 : l ≤ 1048576) :
    Calls Tryd.prog 11 #[.agg #[.slice A n c, .bool own], .int .i64 l] w fun e w' => e = .returned (.int .i64 (if l < n then -1 else l - n)) ∧ Below w.heap.size w w' := by
  by_cases h : l < n
  all_goals
    go_enter Tryd.func11, Tryd.ntmps11
    go_wp2_with (go_at_call 36; refine (szIntS_any _ _ _ _ _ hn h0 h1).mono ?_; rintro e w' ⟨rfl, rfl⟩; simp only [h, if_true, if_false])
    go_ret
    exact ⟨by simp [h], (Below.refl _ _).alloc (Nat.le_refl _) _⟩

theorem szGraph_ok (A : Option Addr) (n c : Nat) (own : Bool) (l : Int) (w : World) (hn : (n : Int) ≤ l) (h1 : l ≤ 1048576) :
    Calls Tryd.prog 11 #[.agg #[.slice A n c, .bool own], .int .i64 l] w fun e w' => e = .returned (.int .i64 (l - n)) ∧ Below w.heap.size w w' :=
  (szGraph_any A n c own l w (by omega) (by omega) h1).mono fun e w' h => by rw [if_neg (by omega)] at h; exact h
theorem szGraph_big (A : Option Addr) (n c : Nat) (own : Bool) (l : Int) (w : World) (hn : n ≤ 9223372036854775807) (h : l < n) (h0 : 0 ≤ l) (h1 : l ≤ 1048576) :
    Calls Tryd.prog 11 #[.agg #[.slice A n c, .bool own], .int .i64 l] w fun e w' => e = .returned (.int .i64 (-1)) ∧ Below w.heap.size w w' :=
  (szGraph_any A n c own l w hn h0 h1).mono fun e w' h => by rw [if_pos (by omega)] at h; exact h

theorem eqGraph_true (A A' : Option Addr) (n c c' : Nat) (f : Nat → Int) (own : Bool) (w : World) (hn : n ≤ 1048576) (hs : Src w A n (iv f)) (hs' : Src w A' n (iv f)) :
    Calls Tryd.prog 15 #[.agg #[.slice A n c, .bool own], .agg #[.slice A' n c', .bool own]] w fun e w' => e = .returned (.bool true) ∧ Below w.heap.size w w' := by
  have HS := hide hs
  have HS' := hide hs'
  clear hs hs'
  have ho : (own != own) = false := by simp
  go_enter Tryd.func15, Tryd.ntmps15
  go_wp2_with (go_at_call 21; refine (eqIntS_true _ _ _ _ _ f _ hn ((HS.out.alloc _).alloc _) ((HS'.out.alloc _).alloc _)).mono ?_; rintro e w1 ⟨rfl, j, rfl⟩)
  go_ret
  exact ⟨rfl, below_drewN (by go_grown) _⟩
end Go.Proofs.YtdpoceijnbbmgaaDoor
