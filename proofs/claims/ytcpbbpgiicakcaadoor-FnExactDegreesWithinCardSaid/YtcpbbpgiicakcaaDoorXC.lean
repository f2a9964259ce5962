import Derived.Test.YtcpbbpgiicakcaaDoorXB
import Derived.Test.YtcpbbpgiicakcaaDoorZB
namespace Go.Proofs.YtcpbbpgiicakcaaDoor
open Go.RowKit
set_option maxHeartbeats 2000000
/-- Is s a set of buttons of a graph? -/
noncomputable def setB (n : Nat) (f : Nat → Int) (s : Int) : Bool := goodB n f && inB s 0 (2 ^ n - 1)
theorem Good.n16 {n : Nat} {f : Nat → Int} (h : Good n f) : n ≤ 16 := h.2.1
theorem grSet_any (g n c : Nat) (f : Nat → Int) (own : Bool) (i : Int) (w : World) (hn : n ≤ 1048576) (ha : Arr w 3 g n (iv f)) :
    Calls Tryd.prog 29 #[.agg #[.slice (some ⟨g, 0, none⟩) n c, .bool own], .int .i64 i] w fun e w' => e = .returned (.bool (setB n f i)) ∧ Below w.heap.size w w' := by
  have HA := hide ha
  clear ha
  cases hgd : goodB n f
  · go_enter Tryd.func29, Tryd.ntmps29
    go_wp2_with fail
    refine (grGood_any _ _ _ f _ _ hn (HA.out.alloc _)).mono ?_
    rintro e w1 ⟨rfl, hb⟩
    go_wp2
    go_ret
    exact ⟨by simp [setB, hgd], (by go_grown : Below w.heap.size w _).trans (hb.mono (by simp))⟩
  · have hn16 := (goodB_iff.1 hgd).n16
    have hp := pow16 hn16
    go_enter Tryd.func29, Tryd.ntmps29
    go_wp2_with fail
    refine (grGood_any _ _ _ f _ _ hn (HA.out.alloc _)).mono ?_
    rintro e w1 ⟨rfl, hb⟩
    obtain ⟨hc, hf⟩ := bcell hb
    have hz := hb.size
    simp only [World.size_alloc] at hc hf hz
    have HB := hide (hb.mono (show w.heap.size ≤ _ by simp))
    clear hb
    go_wp2_with fail
    refine (l1InG_any _ _ _ _).mono ?_
    rintro e w2 ⟨rfl, rfl⟩
    go_wp2
    go_ret
    exact ⟨by simp [setB, hgd], (by go_grown : Below w.heap.size w _).trans HB.out⟩
end Go.Proofs.YtcpbbpgiicakcaaDoor
