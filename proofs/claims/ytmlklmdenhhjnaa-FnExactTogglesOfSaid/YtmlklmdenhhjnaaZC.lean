import Derived.Test.YtmlklmdenhhjnaaZA
import Derived.Test.YtmlklmdenhhjnaaZB
namespace Go.Proofs.Ytmlklmdenhhjnaa
open Go.RowKit
set_option maxHeartbeats 400000
theorem lawToggles_big (A : Option Addr) (n c : Nat) (own : Bool) (i : Int) (w : World) (hn : n ≤ 9223372036854775807) (hbig : 1048576 < n) :
    Calls Try.prog 6 #[.agg #[.slice A n c, .bool own], .int .i64 i] w fun e w' => e = .returned (.bool true) ∧ Below w.heap.size w w' := by
  have hbig' : (1048576 : Int) < n := by omega
  go_enter Try.func6, Try.ntmps6
  go_wp2_with (go_at_call 17; refine (szGraph_big _ _ _ _ _ _ hn hbig' (by omega) (by omega)).mono ?_; rintro e w' ⟨rfl, hb⟩)
  go_ret
  exact ⟨rfl, (by go_grown : Below w.heap.size w _).trans (hb.mono (by simp))⟩

theorem lawToggles (A : Option Addr) (n c : Nat) (f : Nat → Int) (own : Bool) (i : Int) (w : World) (hn : n ≤ 9223372036854775807) (hs : Src w A n (iv f)) :
    Calls Try.prog 6 #[.agg #[.slice A n c, .bool own], .int .i64 i] w fun e w' => e = .returned (.bool true) ∧ Below w.heap.size w w' := by
  by_cases hbig : 1048576 < n
  · exact lawToggles_big A n c own i w hn hbig
  · cases hb : butB n f i
    · exact lawToggles_no A n c f own i w (by omega) (hide hb) (hide hs)
    · simp only [butB, Bool.and_eq_true] at hb
      obtain ⟨hg, hi⟩ := hb
      obtain ⟨F, he, h2, h16, hG⟩ := good_nat (goodB_iff.1 hg)
      have hgn := goodB_yes hG
      simp only [inB, decide_eq_true_eq] at hi
      obtain ⟨k, rfl⟩ : ∃ k : Nat, i = k := ⟨i.toNat, by omega⟩
      exact lawToggles_ok A n c F own k w (by omega) hG.n16 (by omega) (h16 k (by omega)) (hide (by simp [butB, hgn, inB]; omega)) (hide hgn) (hide (hs.nat he))
end Go.Proofs.Ytmlklmdenhhjnaa
