import Derived.Test.YtmlklmdenhhjnaaBY
import Derived.Test.YtmlklmdenhhjnaaWO
namespace Go.Proofs.Ytmlklmdenhhjnaa
open Go.RowKit
set_option maxHeartbeats 400000
theorem Arr.box_one (w : World) (t : TypeId) {f : Nat → Value} (v : Value) {b : Nat} (h : b = w.heap.size) (hf : f 0 = v := by rfl) : Arr (w.alloc (.cells #[v] t)) t b 1 f := by
  subst h
  exact Arr.new w #[v] t f (fun i hi => by
    have : i = 0 := by simp at hi; omega
    subst this
    simp [hf])
theorem toIntS_new (A : Option Addr) (n c : Nat) (f : Nat → Int) (w : World) (hn : n ≤ 1048576) (hs : Src w A n (iv f)) : Calls Try.prog 38 #[.slice A n c] w (NewArr w n f) :=
  (toIntS_any A n c f w hn hs).mono fun e w' h => ⟨_, _, h.1, Nat.le_refl _, h.2.1, h.2.2⟩
theorem eqIntS_below (A A' : Option Addr) (n c c' : Nat) (f : Nat → Int) (w : World) (hn : n ≤ 1048576) (hs : Src w A n (iv f)) (hs' : Src w A' n (iv f)) :
    Calls Try.prog 40 #[.slice A n c, .slice A' n c'] w fun e w' => e = .returned (.bool true) ∧ Below w.heap.size w w' :=
  (eqIntS_true A A' n c c' f w hn hs hs').mono fun e w' ⟨he, j, hj⟩ => ⟨he, by subst hj; exact below_drewN (Below.refl _ _) _⟩
theorem pressSpec_no (g n c : Nat) (f : Nat → Int) (own : Bool) (s i : Int) (w : World) (hn : n ≤ 1048576) (hno : (setB n f s && inB i 0 (n - 1)) = false) (ha : Arr w 3 g n (iv f)) :
    Calls Try.prog 35 #[.agg #[.slice (some ⟨g, 0, none⟩) n c, .bool own], .int .i64 s, .int .i64 i] w (Pair w 0 false) := by
  have HA := hide ha
  clear ha
  cases hset : setB n f s
  · clear hno
    go_enter Try.func35, Try.ntmps35
    go_wp2_with fail
    refine (grSet_any _ _ _ f _ _ _ hn (HA.out.alloc _)).mono ?_
    rintro e w1 ⟨rfl, hb1⟩
    go_wp2
    go_ret2
    exact ⟨rfl, (by go_grown : Below w.heap.size w _).trans (hb1.mono (by simp))⟩
  · have hi : butB n f i = false := by simp [hset] at hno; simp [butB, hno]
    clear hno
    go_enter Try.func35, Try.ntmps35
    go_wp2_with fail
    refine (grSet_any _ _ _ f _ _ _ hn (HA.out.alloc _)).mono ?_
    rintro e w1 ⟨rfl, hb1⟩
    have hp := (Arr.box w 27 (.slice (some ⟨g, 0, none⟩) n c) (.bool own)).all hb1
    have c0 : w1.cell? ⟨w.heap.size, 0, none⟩ = some (.slice (some ⟨g, 0, none⟩) n c) := hp.cell (by omega)
    have c1 : w1.cell? ⟨w.heap.size, 1, none⟩ = some (.bool own) := hp.cell (by omega)
    have HA1 := hide ((HA.out.alloc _).all hb1)
    have HB := hide ((by go_grown : Below w.heap.size w _).trans (hb1.mono (by simp)))
    clear hb1 hp
    go_wp2_with fail
    refine (grButton_any _ _ _ f _ _ _ hn HA1.out).mono ?_
    rintro e w2 ⟨rfl, hb2⟩
    go_wp2
    go_ret2
    exact ⟨rfl, HB.out.trans (hb2.mono HB.out.size)⟩
theorem pressSpec_ok (g n c : Nat) (F : Nat → Nat) (own : Bool) (s i : Nat) (w : World) (hn : n ≤ 16) (hs : s < 2 ^ n) (hi : i < n) (hF : ∀ j, j < n → F j < 2 ^ n) (hset : setB n (nv F) s = true) (hbut : butB n (nv F) i = true) (ha : Arr w 3 g n (iv (nv F))) :
    Calls Try.prog 35 #[.agg #[.slice (some ⟨g, 0, none⟩) n c, .bool own], .int .i64 s, .int .i64 i] w (Pair w (s ^^^ tog F own i : Nat) true) := by
  have h16 : (2 : Nat) ^ n ≤ 65536 := Nat.pow_le_pow_right (n := 2) (by decide) hn
  have hFi := hF i hi
  have e1 := i64_xor_nat s (tog F own i) (by omega) (by have := tog_lt_pow (own := own) hi hFi; omega)
  have HA := hide ha
  clear ha hF
  go_enter Try.func35, Try.ntmps35
  go_wp2_with fail
  refine (grSet_any _ _ _ (nv F) _ _ _ (by omega) (HA.out.alloc _)).mono ?_
  rintro e w1 ⟨rfl, hb1⟩
  have hp := (Arr.box w 27 (.slice (some ⟨g, 0, none⟩) n c) (.bool own)).all hb1
  have c0 : w1.cell? ⟨w.heap.size, 0, none⟩ = some (.slice (some ⟨g, 0, none⟩) n c) := hp.cell (by omega)
  have c1 : w1.cell? ⟨w.heap.size, 1, none⟩ = some (.bool own) := hp.cell (by omega)
  have HX := hide hp
  have HA1 := hide ((HA.out.alloc _).all hb1)
  have HB := hide ((by go_grown : Below w.heap.size w _).trans (hb1.mono (by simp)))
  clear hb1 hp
  go_wp2_with fail
  refine (grButton_any _ _ _ (nv F) _ _ _ (by omega) HA1.out).mono ?_
  rintro e w2 ⟨rfl, hb2⟩
  have hp := HX.out.all hb2
  have d0 : w2.cell? ⟨w.heap.size, 0, none⟩ = some (.slice (some ⟨g, 0, none⟩) n c) := hp.cell (by omega)
  have d1 : w2.cell? ⟨w.heap.size, 1, none⟩ = some (.bool own) := hp.cell (by omega)
  have HA2 := hide (HA1.out.all hb2)
  have HB2 := hide (HB.out.trans (hb2.mono HB.out.size))
  clear hb2 hp c0 c1
  go_wp2_with fail
  refine (grToggles_any _ _ _ F _ _ _ hn hi (by omega) HA2.out).mono ?_
  rintro e w3 ⟨rfl, hb3⟩
  go_wp2
  go_ret2
  exact ⟨rfl, HB2.out.trans (hb3.mono HB2.out.size)⟩
theorem pressImpl_no (g n c : Nat) (f : Nat → Int) (own : Bool) (s i : Int) (w : World) (hn : n ≤ 1048576) (hno : (setB n f s && inB i 0 (n - 1)) = false) (ha : Arr w 3 g n (iv f)) :
    Calls Try.prog 36 #[.agg #[.slice (some ⟨g, 0, none⟩) n c, .bool own], .int .i64 s, .int .i64 i] w (Pair w 0 false) := by
  have HN : Hid ((setB n f s && wordB n 1 (fun _ => i)) = false) := hide (by
    rw [← hno]
    congr 1
    simp only [wordB, allB, inB, show 1 ≤ 200 by omega, decide_true, Bool.true_and, decide_eq_decide]
    exact ⟨fun h => h 0 (by omega), fun h _ _ => h⟩)
  have HA := hide ha
  clear ha hno
  go_enter Try.func36, Try.ntmps36
  go_wp2_with fail
  refine (wordImpl_no _ _ _ f _ _ _ 1 _ (fun _ => i) _ hn (by omega) HN.out ((HA.out.alloc _).alloc _) (by exact Src.of_arr (Arr.box_one _ 3 _ (by simp)))).mono ?_
  rintro e w1 ⟨rfl, hb1⟩
  go_wp2
  go_ret2
  exact ⟨rfl, (by go_grown : Below w.heap.size w _).trans (hb1.mono (by simp; omega))⟩
theorem pressImpl_ok (g n c : Nat) (F : Nat → Nat) (own : Bool) (s i : Nat) (w : World) (hn : n ≤ 16) (hs : s < 2 ^ n) (hi : i < n) (hF : ∀ j, j < n → F j < 2 ^ n) (hgd : goodB n (nv F) = true) (hin : inB s 0 (2 ^ n - 1) = true) (ha : Arr w 3 g n (iv (nv F))) :
    Calls Try.prog 36 #[.agg #[.slice (some ⟨g, 0, none⟩) n c, .bool own], .int .i64 s, .int .i64 i] w (Pair w (s ^^^ tog F own i : Nat) true) := by
  have HW : Hid (wordB n 1 (nv (fun _ => i)) = true) := hide (by
    have h : allB 1 (nv (fun _ => i)) 0 (n - 1) = true := by
      unfold allB
      exact decide_eq_true (fun k _ => by simp only [nv]; omega)
    simp [wordB, h])
  have HA := hide ha
  have HF := hide hF
  clear ha hF
  go_enter Try.func36, Try.ntmps36
  go_wp2_with fail
  refine (wordImpl_ok _ _ _ F _ _ _ 1 _ (fun _ => i) _ hn (by omega) hs HF.out (fun _ _ => hi) hgd hin HW.out ((HA.out.alloc _).alloc _) (by exact Src.of_arr (Arr.box_one _ 3 _ (by simp)))).mono ?_
  rintro e w1 ⟨rfl, hb1⟩
  go_wp2
  go_ret2
  exact ⟨rfl, (by go_grown : Below w.heap.size w _).trans (hb1.mono (by simp; omega))⟩
end Go.Proofs.Ytmlklmdenhhjnaa
