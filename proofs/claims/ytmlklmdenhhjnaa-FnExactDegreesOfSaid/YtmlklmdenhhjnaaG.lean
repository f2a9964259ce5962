import Derived.Test.YtmlklmdenhhjnaaF
import Derived.Deep.RegionHeld3
namespace Go.Proofs.Ytmlklmdenhhjnaa
open Go.RowKit
set_option maxHeartbeats 400000
theorem specIsGraph_any (g n c : Nat) (f : Nat → Int) (own : Bool) (w : World) (hn : n ≤ 1048576) (ha : Arr w 3 g n (iv f)) :
    Calls Try.prog 18 #[.agg #[.slice (some ⟨g, 0, none⟩) n c, .bool own]] w fun e w' => e = .returned (.bool (goodB n f)) ∧ Below w.heap.size w w' := by
  have HA := hide ha
  clear ha
  go_enter Try.func18, Try.ntmps18
  go_wp2_with (go_at_call 60; refine (grGood_any _ _ _ f _ _ hn (HA.out.alloc _)).mono ?_; rintro e w1 ⟨rfl, hb⟩)
  go_ret
  exact ⟨rfl, (by go_grown : Below w.heap.size w _).trans (hb.mono (by simp))⟩
theorem lawIsGraph (A : Option Addr) (n c : Nat) (f : Nat → Int) (own : Bool) (w : World) (hn : n ≤ 9223372036854775807) (hs : Src w A n (iv f)) :
    Calls Try.prog 3 #[.agg #[.slice A n c, .bool own]] w fun e w' => e = .returned (.bool true) ∧ Below w.heap.size w w' := by
  have HS := hide hs
  clear hs
  by_cases hbig : 1048576 < n
  · have hbig' : (1048576 : Int) < n := by omega
    go_enter Try.func3, Try.ntmps3
    go_wp2_with (go_at_call 17; refine (szGraph_big _ _ _ _ _ _ hn hbig' (by omega) (by omega)).mono ?_; rintro e w' ⟨rfl, hb⟩)
    go_ret
    exact ⟨rfl, (by go_grown : Below w.heap.size w _).trans (hb.mono (by simp))⟩
  · have hn2 : n ≤ 1048576 := by omega
    have W0 : World := w
    go_enter Try.func3, Try.ntmps3
    go_wp2_with fail
    refine (szGraph_ok _ _ _ _ _ _ (by omega) (by omega)).mono ?_
    rintro e w1 ⟨rfl, hb1⟩
    obtain ⟨hc1, hf1⟩ := bcell hb1
    have hz1 := hb1.size
    have HS1 := hide ((HS.out.alloc _).below hb1)
    have HB1 := hide (hb1.mono (show w.heap.size ≤ _ by simp))
    clear hb1
    simp only [World.size_alloc] at hc1 hf1 hz1
    have hl1 : w.heap.size < w1.heap.size := by omega
    go_wp2_with fail
    refine (toGraph_any _ _ _ f _ _ hn2 HS1.out).mono ?_
    rintro e w2 ⟨g2, rfl, hg2, ha2, hb2⟩
    obtain ⟨hc2, hf2⟩ := bcell hb2
    have hz2 := hb2.size
    have HS2 := hide (HS1.out.below hb2)
    have HB2 := hide hb2
    have HA2 := hide ha2
    clear hb2 ha2
    have hl2 : w.heap.size < w2.heap.size := by omega
    go_wp2_with fail
    refine (specIsGraph_any _ _ _ f _ _ hn2 HA2.out).mono ?_
    rintro e w3 ⟨rfl, hb3⟩
    obtain ⟨hc3, hf3⟩ := bcell hb3
    have hz3 := hb3.size
    have HS3 := hide (HS2.out.below hb3)
    have HB3 := hide hb3
    clear hb3
    have hl3 : w.heap.size < w3.heap.size := by omega
    go_wp2_with fail
    refine (toGraph_any _ _ _ f _ _ hn2 HS3.out).mono ?_
    rintro e w4 ⟨g4, rfl, hg4, ha4, hb4⟩
    obtain ⟨hc4, hf4⟩ := bcell hb4
    have hz4 := hb4.size
    have HS4 := hide (HS3.out.below hb4)
    have HB4 := hide hb4
    have hgl4 := ha4.lt
    have HA4 := hide ha4
    clear hb4 ha4
    have hl4 : w.heap.size < w4.heap.size := by omega
    go_wp2_with fail
    refine (isGraph_any _ _ _ f _ _ hn2 (HA4.out.alloc _)).mono ?_
    rintro e w5 ⟨rfl, hb5⟩
    obtain ⟨hc5, hf5⟩ := bcell hb5
    have hz5 := hb5.size
    have HS5 := hide ((HS4.out.alloc _).below hb5)
    have HB5 := hide (hb5.mono (show w4.heap.size ≤ _ by simp))
    have HA5 := hide ((HA4.out.alloc _).all hb5)
    clear hb5
    simp only [World.size_alloc] at hc5 hf5 hz5
    have hl5 : w.heap.size < w5.heap.size := by omega
    have hl5' : w4.heap.size < w5.heap.size := by omega
    have hl5'' : w.heap.size < w4.heap.size + 1 := by omega
    have hq : (goodB n f != goodB n f) = false := by simp
    go_wp2
    have k5 : w5.drew.cell? ⟨w4.heap.size, 0, none⟩ = some (.slice (some ⟨g4, 0, none⟩) n n) ∧ w5.drew.cell? ⟨w4.heap.size, 1, none⟩ = some (.bool own) ∧ w5.drew.cell? ⟨w.heap.size, 0, none⟩ = some (.slice A n c) ∧ w5.drew.cell? ⟨w.heap.size, 1, none⟩ = some (.bool own) := by
      refine ⟨?_, ?_, ?_, ?_⟩ <;> simp [go_sem, hc5, hc4, hc3, hc2, hc1, hl1, hl2, hl3, hl4, hl5'']
    have K5 := hide k5
    clear k5
    go_region_held3 (fun w' => w'.cell? ⟨w4.heap.size, 0, none⟩ = some (.slice (some ⟨g4, 0, none⟩) n n) ∧ w'.cell? ⟨w4.heap.size, 1, none⟩ = some (.bool own) ∧ w'.cell? ⟨w.heap.size, 0, none⟩ = some (.slice A n c) ∧ w'.cell? ⟨w.heap.size, 1, none⟩ = some (.bool own)) (first | exact K5.out | exact four_below (by assumption) K5.out | exact four_below (by assumption) (four_below (by assumption) K5.out)) (first | (go_at_call 19; refine (toGraph_any _ _ _ f _ _ hn2 (by exact HS5.out.drew)).mono ?_; rintro e w6 ⟨g6, rfl, hg6, ha6, hb6⟩; have HA6 := hide ha6; clear ha6) | (go_at_call 21; refine (eqGraph_true _ _ _ _ _ f _ _ hn2 (by exact Src.of_arr ((HA5.out.drew).all hb6)) (by exact Src.of_arr HA6.out)).mono ?_; rintro e w7 ⟨rfl, hb7⟩))
    go_wp2
    go_ret
    refine ⟨rfl, ?_⟩
    have e2 : Below w.heap.size w w2 := ((by go_grown : Below w.heap.size w _).trans HB1.out).trans (HB2.out.mono (by omega))
    have e4 : Below w.heap.size w w4 := (e2.trans (HB3.out.mono (by omega))).trans (HB4.out.mono (by omega))
    have e5 : Below w.heap.size w w5 := (by go_grown : Below w.heap.size w _).trans (HB5.out.mono (by omega))
    have e6 : Below w.heap.size w w6 := (by go_grown : Below w.heap.size w _).trans (hb6.mono (by simp; omega))
    exact e6.trans (hb7.mono (by have := hb6.size; simp at this; omega))
end Go.Proofs.Ytmlklmdenhhjnaa
