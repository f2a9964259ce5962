import Derived.Test.YtggcjmdadomlaaaDoorF
import Derived.Test.YtggcjmdadomlaaaDoorK
import Derived.RegionTactic
namespace Go.Proofs.YtggcjmdadomlaaaDoor
open Go.RowKit
set_option maxHeartbeats 400000
/-- Is i a button of a graph? -/
noncomputable def butB (n : Nat) (f : Nat → Int) (i : Int) : Bool := goodB n f && inB i 0 (n - 1)
/-- Is s a set of buttons of a graph? -/
noncomputable def setB (n : Nat) (f : Nat → Int) (s : Int) : Bool := goodB n f && inB s 0 (2 ^ n - 1)
theorem Good.n16 {n : Nat} {f : Nat → Int} (h : Good n f) : n ≤ 16 := h.2.1
theorem grSet_any (g n c : Nat) (f : Nat → Int) (own : Bool) (i : Int) (w : World) (hn : n ≤ 1048576) (ha : Arr w 3 g n (iv f)) :
    Calls Tryd.prog 24 #[.agg #[.slice (some ⟨g, 0, none⟩) n c, .bool own], .int .i64 i] w fun e w' => e = .returned (.bool (setB n f i)) ∧ Below w.heap.size w w' := by
  have HA := hide ha
  clear ha
  cases hgd : goodB n f
  · go_enter Tryd.func24, Tryd.ntmps24
    go_wp2_with fail
    refine (grGood_any _ _ _ f _ _ hn (HA.out.alloc _)).mono ?_
    rintro e w1 ⟨rfl, hb⟩
    go_wp2
    go_ret
    exact ⟨by simp [setB, hgd], (by go_grown : Below w.heap.size w _).trans (hb.mono (by simp))⟩
  · have hn16 := (goodB_iff.1 hgd).n16
    have hp := pow16 hn16
    go_enter Tryd.func24, Tryd.ntmps24
    go_wp2_with fail
    refine (grGood_any _ _ _ f _ _ hn (HA.out.alloc _)).mono ?_
    rintro e w1 ⟨rfl, hb⟩
    obtain ⟨hc, hf⟩ := bcell hb
    have hz := hb.size
    simp only [World.size_alloc] at hc hf hz
    have HB := hide (hb.mono (show w.heap.size ≤ _ by simp))
    clear hb
    go_wp2_with fail
    refine (l1In_any _ _ _ _).mono ?_
    rintro e w2 ⟨rfl, rfl⟩
    go_wp2
    go_ret
    exact ⟨by simp [setB, hgd], (by go_grown : Below w.heap.size w _).trans HB.out⟩
/-- What the button i toggles. -/
def tog (F : Nat → Nat) (own : Bool) (i : Nat) : Nat := if own then F i ||| 2 ^ i else F i
theorem tog_lt {F : Nat → Nat} {own : Bool} {i : Nat} (hi : i < 16) (h : F i < 65536) : tog F own i < 65536 := by
  unfold tog
  split
  · exact or_lt16 h (pow_lt16 hi)
  · exact h
theorem toggles_any (g n c : Nat) (F : Nat → Nat) (own : Bool) (i : Nat) (w : World) (hn : n ≤ 16) (hi : i < n) (hF : F i < 65536) (ha : Arr w 3 g n (iv (nv F))) :
    Calls Tryd.prog 48 #[.agg #[.slice (some ⟨g, 0, none⟩) n c, .bool own], .int .i64 i] w fun e w' => e = .returned (.int .i64 (tog F own i : Nat)) ∧ Below w.heap.size w w' := by
  have hgl := ha.lt
  have h1 : w.cell? ⟨g, i, none⟩ = some (.int .i64 (F i : Nat)) := ha.cell hi
  have e1 := or_wrap (F i) i hF (by omega)
  clear ha
  cases own
  · go_enter Tryd.func48, Tryd.ntmps48
    go_wp2
    go_ret
    exact ⟨rfl, by go_grown⟩
  · go_enter Tryd.func48, Tryd.ntmps48
    go_wp2
    go_region
    all_goals
      go_wp2
      go_ret
      exact ⟨rfl, by go_grown⟩
theorem grToggles_any (g n c : Nat) (F : Nat → Nat) (own : Bool) (i : Nat) (w : World) (hn : n ≤ 16) (hi : i < n) (hF : F i < 65536) (ha : Arr w 3 g n (iv (nv F))) :
    Calls Tryd.prog 42 #[.agg #[.slice (some ⟨g, 0, none⟩) n c, .bool own], .int .i64 i] w fun e w' => e = .returned (.int .i64 (tog F own i : Nat)) ∧ Below w.heap.size w w' := by
  have hgl := ha.lt
  have h1 : w.cell? ⟨g, i, none⟩ = some (.int .i64 (F i : Nat)) := ha.cell hi
  have e1 := or_wrap (F i) i hF (by omega)
  clear ha
  cases own
  · go_enter Tryd.func42, Tryd.ntmps42
    go_wp2
    go_ret
    exact ⟨rfl, by go_grown⟩
  · go_enter Tryd.func42, Tryd.ntmps42
    go_wp2
    go_region
    all_goals
      go_wp2
      go_ret
      exact ⟨rfl, by go_grown⟩
/-- A pair of a number and a bool. -/
def Pair (w : World) (v : Int) (ok : Bool) (e : Ending) (w' : World) : Prop := e = .returned (.tuple #[.int .i64 v, .bool ok]) ∧ Below w.heap.size w w'
end Go.Proofs.YtggcjmdadomlaaaDoor
