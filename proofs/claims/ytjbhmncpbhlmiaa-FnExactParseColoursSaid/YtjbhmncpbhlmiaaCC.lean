/-
IsColours: both sides.
-/
import Derived.Test.YtjbhmncpbhlmiaaCB
import Derived.Deep.RegionHeld3
namespace Go.Proofs.Ytjbhmncpbhlmiaa
open Go.RowKit
set_option maxHeartbeats 1000000
theorem box2 {w w1 : World} {v0 v1 : Value} (hb : Below (w.alloc (.cells #[v0, v1] 28)).heap.size (w.alloc (.cells #[v0, v1] 28)) w1) :
    w1.cell? ⟨w.heap.size, 0, none⟩ = some v0 ∧ w1.cell? ⟨w.heap.size, 1, none⟩ = some v1 ∧ w.heap.size < w1.heap.size := by
  have h := (Arr.box w 28 v0 v1).all hb
  exact ⟨h.cell (by omega), h.cell (by omega), h.lt⟩
theorem clList_any (g n c : Nat) (f : Nat → Int) (own : Bool) (m : Int) (A : Option Addr) (l d : Nat) (q : Nat → Int) (w : World) (hn : n ≤ 1048576) (hl : l ≤ 1048576) (ha : Arr w 3 g n (iv f)) (hs : Src w A l (iv q)) :
    Calls Try.prog 21 #[.agg #[.slice (some ⟨g, 0, none⟩) n c, .bool own], .int .i64 m, .slice A l d] w fun e w' => e = .returned (.bool (colB n f m && listB n l q m)) ∧ Below w.heap.size w w' := by
  have HA := hide ha
  have HS := hide hs
  clear ha hs
  cases hc : colB n f m
  · go_enter Try.func21, Try.ntmps21
    go_wp2_with (go_at_call 20; refine (clGood_any _ _ _ f _ _ _ hn (HA.out.alloc _)).mono ?_; rintro e w1 ⟨rfl, hb1⟩; rw [hc])
    go_ret
    exact ⟨rfl, ((by go_grown : Below w.heap.size w _).trans (hb1.mono (by simp)))⟩
  · have h1 : primeB m = true := by simp only [colB, Bool.and_eq_true] at hc; exact hc.2.2
    have hm2 := (primeB_iff m).1 h1
    have hm0 : 2 ≤ m ∧ m ≤ 7 := by omega
    by_cases hln : l = n
    · subst hln
      cases hq : allB l q 0 (m - 1)
      all_goals
        go_enter Try.func21, Try.ntmps21
        go_wp2_with fail
        refine (clGood_any _ _ _ f _ _ _ hn (HA.out.alloc _)).mono ?_
        rintro e w1 ⟨rfl, hb1⟩
        rw [hc]
        obtain ⟨c0, c1, hz⟩ := box2 hb1
        have HB1 := hide ((by go_grown : Below w.heap.size w _).trans (hb1.mono (by simp)))
        clear hb1
        go_wp2_with (go_at_call 25; refine (l1All_any _ _ _ q _ _ _ hl (HS.out.below HB1.out)).mono ?_; rintro e w2 ⟨rfl, rfl⟩; rw [hq])
        go_ret
        exact ⟨by simp [listB, hq], HB1.out⟩
    · have hne : ((l : Int) == (n : Int)) = false := by simp; omega
      have hlb : listB n l q m = false := by simp [listB, hln]
      go_enter Try.func21, Try.ntmps21
      go_wp2_with fail
      refine (clGood_any _ _ _ f _ _ _ hn (HA.out.alloc _)).mono ?_
      rintro e w1 ⟨rfl, hb1⟩
      rw [hc]
      obtain ⟨c0, c1, hz⟩ := box2 hb1
      have HB1 := hide ((by go_grown : Below w.heap.size w _).trans (hb1.mono (by simp)))
      clear hb1
      go_wp2
      go_ret
      exact ⟨by rw [hlb]; first | rfl | (simp; omega), HB1.out⟩
theorem isColoured_any (g n c : Nat) (f : Nat → Int) (own : Bool) (m : Int) (w : World) (hn : n ≤ 1048576) (ha : Arr w 3 g n (iv f)) :
    Calls Try.prog 22 #[.agg #[.slice (some ⟨g, 0, none⟩) n c, .bool own], .int .i64 m] w fun e w' => e = .returned (.bool (colB n f m)) ∧ Below w.heap.size w w' := by
  have HA := hide ha
  clear ha
  cases hg : goodB n f
  · go_enter Try.func22, Try.ntmps22
    go_wp2_with (go_at_call 30; refine (isGraph_any _ _ _ f _ _ hn (HA.out.alloc _)).mono ?_; rintro e w1 ⟨rfl, hb1⟩; rw [hg])
    go_ret
    exact ⟨by rw [colB_no2 hg]; rfl, ((by go_grown : Below w.heap.size w _).trans (hb1.mono (by simp)))⟩
  · by_cases h10 : n ≤ 10
    · have h10' : (n : Int) ≤ 10 := by omega
      have key : ∀ b, primeB m = b → colB n f m = b := fun b hb => by simp [colB, hg, hb, h10]
      cases hp : primeB m
      all_goals
        go_enter Try.func22, Try.ntmps22
        go_wp2_with fail
        refine (isGraph_any _ _ _ f _ _ hn (HA.out.alloc _)).mono ?_
        rintro e w1 ⟨rfl, hb1⟩
        rw [hg]
        obtain ⟨c0, c1, hz⟩ := box2 hb1
        have HB1 := hide ((by go_grown : Below w.heap.size w _).trans (hb1.mono (by simp)))
        clear hb1
        go_wp2_with (go_at_call 31; refine (contains_any _ 4 _ pr4 m _ (by omega) (Src.of_arr (prArr w1))).mono ?_; rintro e w2 ⟨rfl, rfl⟩; rw [show hasB 4 pr4 m = _ from hp])
        go_ret
        exact ⟨by rw [key _ hp]; rfl, by have h := HB1.out; go_grown⟩
    · have h10' : ¬ (n : Int) ≤ 10 := by omega
      go_enter Try.func22, Try.ntmps22
      go_wp2_with fail
      refine (isGraph_any _ _ _ f _ _ hn (HA.out.alloc _)).mono ?_
      rintro e w1 ⟨rfl, hb1⟩
      rw [hg]
      obtain ⟨c0, c1, hz⟩ := box2 hb1
      have HB1 := hide ((by go_grown : Below w.heap.size w _).trans (hb1.mono (by simp)))
      clear hb1
      go_wp2
      go_ret
      exact ⟨by rw [colB_no3 h10]; first | rfl | (simp; omega), HB1.out⟩
/-- What IsColours answers. -/
def IsColOut (n l : Nat) (f q : Nat → Int) (m : Int) (w : World) (e : Ending) (w' : World) : Prop :=
  e = .returned (.tuple #[.bool (colB n f m && listB n l q m), .bool (colB n f m)]) ∧ Below w.heap.size w w'
theorem isColSpec_any (g n c : Nat) (f : Nat → Int) (own : Bool) (m : Int) (A : Option Addr) (l d : Nat) (q : Nat → Int) (w : World) (hn : n ≤ 1048576) (hl : l ≤ 1048576) (ha : Arr w 3 g n (iv f)) (hs : Src w A l (iv q)) :
    Calls Try.prog 7 #[.agg #[.slice (some ⟨g, 0, none⟩) n c, .bool own], .int .i64 m, .slice A l d] w (IsColOut n l f q m w) := by
  have HA := hide ha
  have HS := hide hs
  clear ha hs
  cases hc : colB n f m
  · go_enter Try.func7, Try.ntmps7
    go_wp2_with (go_at_call 20; refine (clGood_any _ _ _ f _ _ _ hn (HA.out.alloc _)).mono ?_; rintro e w1 ⟨rfl, hb1⟩; rw [hc])
    go_ret2
    exact ⟨by rw [hc]; rfl, ((by go_grown : Below w.heap.size w _).trans (hb1.mono (by simp)))⟩
  · go_enter Try.func7, Try.ntmps7
    go_wp2_with fail
    refine (clGood_any _ _ _ f _ _ _ hn (HA.out.alloc _)).mono ?_
    rintro e w1 ⟨rfl, hb1⟩
    rw [hc]
    obtain ⟨c0, c1, hz⟩ := box2 hb1
    have HA1 := hide ((HA.out.alloc _).all hb1)
    have HB1 := hide ((by go_grown : Below w.heap.size w _).trans (hb1.mono (by simp)))
    clear hb1
    go_wp2_with fail
    refine (clList_any _ _ _ f _ _ _ _ _ q _ hn hl HA1.out (HS.out.below HB1.out)).mono ?_
    rintro e w2 ⟨rfl, hb2⟩
    rw [hc]
    have HB2 := hide (HB1.out.trans (hb2.mono HB1.out.size))
    clear hb2 c0 c1
    go_wp2
    go_ret2
    exact ⟨by rw [hc]; rfl, HB2.out⟩
theorem isColImpl_any (g n c : Nat) (f : Nat → Int) (own : Bool) (m : Int) (A : Option Addr) (l d : Nat) (q : Nat → Int) (w : World) (hn : n ≤ 1048576) (hl : l ≤ 1048576) (ha : Arr w 3 g n (iv f)) (hs : Src w A l (iv q)) :
    Calls Try.prog 10 #[.agg #[.slice (some ⟨g, 0, none⟩) n c, .bool own], .int .i64 m, .slice A l d] w (IsColOut n l f q m w) := by
  have HA := hide ha
  have HS := hide hs
  clear ha hs
  cases hc : colB n f m
  · go_enter Try.func10, Try.ntmps10
    go_wp2_with (go_at_call 22; refine (isColoured_any _ _ _ f _ _ _ hn (HA.out.alloc _)).mono ?_; rintro e w1 ⟨rfl, hb1⟩; rw [hc])
    go_ret2
    exact ⟨by rw [hc]; rfl, ((by go_grown : Below w.heap.size w _).trans (hb1.mono (by simp)))⟩
  · have h1 : primeB m = true := by simp only [colB, Bool.and_eq_true] at hc; exact hc.2.2
    have hm2 := (primeB_iff m).1 h1
    have hm0 : 2 ≤ m ∧ m ≤ 7 := by omega
    by_cases hln : l = n
    · subst hln
      cases hq : allB l q 0 (m - 1)
      all_goals
        go_enter Try.func10, Try.ntmps10
        go_wp2_with fail
        refine (isColoured_any _ _ _ f _ _ _ hn (HA.out.alloc _)).mono ?_
        rintro e w1 ⟨rfl, hb1⟩
        rw [hc]
        obtain ⟨c0, c1, hz⟩ := box2 hb1
        have HB1 := hide ((by go_grown : Below w.heap.size w _).trans (hb1.mono (by simp)))
        clear hb1
        go_wp2_with (go_at_call 23; refine (areUpTo_any _ _ _ q _ _ hl (HS.out.below HB1.out)).mono ?_; rintro e w2 ⟨rfl, hb2⟩; rw [hq])
        go_ret2
        exact ⟨by rw [hc]; simp [listB, hq], HB1.out.trans (hb2.mono HB1.out.size)⟩
    · have hne : ((l : Int) == (n : Int)) = false := by simp; omega
      have hlb : listB n l q m = false := by simp [listB, hln]
      go_enter Try.func10, Try.ntmps10
      go_wp2_with fail
      refine (isColoured_any _ _ _ f _ _ _ hn (HA.out.alloc _)).mono ?_
      rintro e w1 ⟨rfl, hb1⟩
      rw [hc]
      obtain ⟨c0, c1, hz⟩ := box2 hb1
      have HB1 := hide ((by go_grown : Below w.heap.size w _).trans (hb1.mono (by simp)))
      clear hb1
      go_wp2
      go_ret2
      exact ⟨by rw [hc, hlb]; first | rfl | (simp; omega), HB1.out⟩
end Go.Proofs.Ytjbhmncpbhlmiaa
