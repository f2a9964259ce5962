import Derived.Test.YtmlklmdenhhjnaaY
namespace Go.Proofs.Ytmlklmdenhhjnaa
open Go.RowKit
set_option maxHeartbeats 400000
theorem togSpec_no (g n c : Nat) (f : Nat → Int) (own : Bool) (i : Int) (w : World) (hn : n ≤ 1048576) (hb : butB n f i = false) (ha : Arr w 3 g n (iv f)) :
    Calls Try.prog 33 #[.agg #[.slice (some ⟨g, 0, none⟩) n c, .bool own], .int .i64 i] w (Pair w 0 false) := by
  have HA := hide ha
  clear ha
  go_enter Try.func33, Try.ntmps33
  go_wp2_with fail
  refine (grButton_any _ _ _ f _ _ _ hn (HA.out.alloc _)).mono ?_
  rintro e w1 ⟨rfl, hb1⟩
  go_wp2
  go_ret2
  exact ⟨rfl, (by go_grown : Below w.heap.size w _).trans (hb1.mono (by simp))⟩
theorem togSpec_ok (g n c : Nat) (F : Nat → Nat) (own : Bool) (i : Nat) (w : World) (hn : n ≤ 16) (hi : i < n) (hF : F i < 65536) (hb : butB n (nv F) i = true) (ha : Arr w 3 g n (iv (nv F))) :
    Calls Try.prog 33 #[.agg #[.slice (some ⟨g, 0, none⟩) n c, .bool own], .int .i64 i] w (Pair w (tog F own i : Nat) true) := by
  have HA := hide ha
  clear ha
  go_enter Try.func33, Try.ntmps33
  go_wp2_with fail
  refine (grButton_any _ _ _ (nv F) _ _ _ (by omega) (HA.out.alloc _)).mono ?_
  rintro e w1 ⟨rfl, hb1⟩
  obtain ⟨hc, hf⟩ := bcell hb1
  have hz := hb1.size
  have HA1 := hide ((HA.out.alloc _).all hb1)
  have HB1 := hide ((by go_grown : Below w.heap.size w _).trans (hb1.mono (by simp)))
  simp only [World.size_alloc] at hc hf hz
  clear hb1
  go_wp2_with fail
  refine (grToggles_any _ _ _ F _ _ _ hn hi hF HA1.out).mono ?_
  rintro e w2 ⟨rfl, hb2⟩
  go_wp2
  go_ret2
  exact ⟨rfl, HB1.out.trans (hb2.mono HB1.out.size)⟩
theorem togImpl_no (g n c : Nat) (f : Nat → Int) (own : Bool) (i : Int) (w : World) (hn : n ≤ 1048576) (hb : butB n f i = false) (ha : Arr w 3 g n (iv f)) :
    Calls Try.prog 34 #[.agg #[.slice (some ⟨g, 0, none⟩) n c, .bool own], .int .i64 i] w (Pair w 0 false) := by
  have HA := hide ha
  clear ha
  cases hgd : goodB n f
  · go_enter Try.func34, Try.ntmps34
    go_wp2_with fail
    refine (isGraph_any _ _ _ f _ _ hn (HA.out.alloc _)).mono ?_
    rintro e w1 ⟨rfl, hb1⟩
    go_wp2
    go_ret2
    exact ⟨rfl, (by go_grown : Below w.heap.size w _).trans (hb1.mono (by simp))⟩
  · have hi : inB i 0 (n - 1) = false := by simpa [butB, hgd] using hb
    go_enter Try.func34, Try.ntmps34
    go_wp2_with fail
    refine (isGraph_any _ _ _ f _ _ hn (HA.out.alloc _)).mono ?_
    rintro e w1 ⟨rfl, hb1⟩
    obtain ⟨hc, hf⟩ := bcell hb1
    have hz := hb1.size
    have HB1 := hide ((by go_grown : Below w.heap.size w _).trans (hb1.mono (by simp)))
    simp only [World.size_alloc] at hc hf hz
    clear hb1
    go_wp2_with fail
    refine (isButton_any _ _ _ _ _ _ hn).mono ?_
    rintro e w2 ⟨rfl, hb2⟩
    go_wp2
    go_ret2
    exact ⟨rfl, HB1.out.trans (hb2.mono HB1.out.size)⟩
theorem togImpl_ok (g n c : Nat) (F : Nat → Nat) (own : Bool) (i : Nat) (w : World) (hn : n ≤ 16) (hi : i < n) (hF : F i < 65536) (hgd : goodB n (nv F) = true) (ha : Arr w 3 g n (iv (nv F))) :
    Calls Try.prog 34 #[.agg #[.slice (some ⟨g, 0, none⟩) n c, .bool own], .int .i64 i] w (Pair w (tog F own i : Nat) true) := by
  have HA := hide ha
  clear ha
  have hib : inB i 0 (n - 1) = true := by simp [inB]; omega
  go_enter Try.func34, Try.ntmps34
  go_wp2_with fail
  refine (isGraph_any _ _ _ (nv F) _ _ (by omega) (HA.out.alloc _)).mono ?_
  rintro e w1 ⟨rfl, hb1⟩
  obtain ⟨hc, hf⟩ := bcell hb1
  have hz := hb1.size
  have hl1 : w.heap.size < w1.heap.size := by simp at hz; omega
  have HA1 := hide ((HA.out.alloc _).all hb1)
  have HB1 := hide ((by go_grown : Below w.heap.size w _).trans (hb1.mono (by simp)))
  simp only [World.size_alloc] at hc hf hz
  clear hb1
  go_wp2_with fail
  refine (isButton_any _ _ _ _ _ _ (by omega)).mono ?_
  rintro e w2 ⟨rfl, hb2⟩
  obtain ⟨hc2, hf2⟩ := bcell hb2
  have hz2 := hb2.size
  have HA2 := hide (HA1.out.all hb2)
  have HB2 := hide (HB1.out.trans (hb2.mono HB1.out.size))
  clear hb2
  go_wp2_with fail
  refine (toggles_any _ _ _ F _ _ _ hn hi hF HA2.out).mono ?_
  rintro e w3 ⟨rfl, hb3⟩
  go_wp2
  go_ret2
  exact ⟨rfl, HB2.out.trans (hb3.mono HB2.out.size)⟩
end Go.Proofs.Ytmlklmdenhhjnaa
