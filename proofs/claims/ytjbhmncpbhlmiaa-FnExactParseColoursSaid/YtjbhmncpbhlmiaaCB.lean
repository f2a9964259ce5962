/-
Which graphs, numbers of colours and lists are good: both sides.
-/
import Derived.Test.YtjbhmncpbhlmiaaF
import Derived.Test.YtjbhmncpbhlmiaaK
import Derived.Test.YtjbhmncpbhlmiaaZB
namespace Go.Proofs.Ytjbhmncpbhlmiaa
open Go.RowKit
set_option maxHeartbeats 1000000
/-- Is x among f 0, .., f (n - 1)? -/
def hasB (n : Nat) (f : Nat → Int) (x : Int) : Bool := decide (∃ k, k < n ∧ f k = x)
/-- 2, 3, 5 and 7. -/
def pr4 : Nat → Int := fun k => if k = 0 then 2 else if k = 1 then 3 else if k = 2 then 5 else 7
def primeB (m : Int) : Bool := hasB 4 pr4 m
theorem primeB_iff (m : Int) : primeB m = true ↔ m = 2 ∨ m = 3 ∨ m = 5 ∨ m = 7 := by
  simp only [primeB, hasB, decide_eq_true_eq]
  constructor
  · rintro ⟨k, hk, rfl⟩
    have : k = 0 ∨ k = 1 ∨ k = 2 ∨ k = 3 := by omega
    rcases this with rfl | rfl | rfl | rfl <;> simp [pr4]
  · rintro (rfl | rfl | rfl | rfl)
    · exact ⟨0, by omega, rfl⟩
    · exact ⟨1, by omega, rfl⟩
    · exact ⟨2, by omega, rfl⟩
    · exact ⟨3, by omega, rfl⟩
noncomputable def colB (n : Nat) (f : Nat → Int) (m : Int) : Bool := goodB n f && (decide (n ≤ 10) && primeB m)
/-- A list of l numbers q for a graph of n buttons and m colours. -/
def listB (n l : Nat) (q : Nat → Int) (m : Int) : Bool := decide (l = n) && allB l q 0 (m - 1)
theorem l1Has_any (A : Option Addr) (n c : Nat) (f : Nat → Int) (x : Int) (w : World) (hn : n ≤ 1048576) (hs : Src w A n (iv f)) :
    Calls Try.prog 34 #[.slice A n c, .int .i64 x] w fun e w' => e = .returned (.bool (hasB n f x)) ∧ w' = w := by
  have HS := hide hs
  clear hs
  go_enter Try.func34, Try.ntmps34
  go_wp2
  go_loop [9] (fun i => ∃ k : Nat, k ≤ n ∧ i = .int .i64 k ∧ Hid (∀ j, j < k → f j ≠ x)) (fun i => n - (intOf i).toNat)
  case atStart => exact ⟨0, Nat.zero_le _, rfl, hide (fun j hj => absurd hj (by omega))⟩
  case round =>
    obtain ⟨k, hk, rfl, HK⟩ := hrel
    by_cases hlt : k < n
    · obtain ⟨b, off, hA, hbl, hc0⟩ := HS.out k hlt
      have hc : w.cell? ⟨b, off + k, none⟩ = some (.int .i64 (f k)) := hc0
      clear hc0
      subst hA
      by_cases hx : f k = x
      · have hb : (f k == x) = true := by simp [hx]
        go_wp2
        go_ret
        refine ⟨?_, rfl⟩
        have : hasB n f x = true := by simp only [hasB, decide_eq_true_eq]; exact ⟨k, hlt, hx⟩
        rw [this]; rfl
      · have hb : (f k == x) = false := by simp [hx]
        go_wp2
        go_round
        case rel =>
          refine ⟨k + 1, by omega, by go_num, hide fun j hj => ?_⟩
          by_cases hjk : j = k
          · subst hjk; exact hx
          · exact HK.out j (by omega)
        case measure => simp [intOf]; omega
    · go_wp2
      go_ret
      refine ⟨?_, rfl⟩
      have : hasB n f x = false := by
        simp only [hasB, decide_eq_false_iff_not]
        rintro ⟨j, hj, he⟩
        exact HK.out j (by omega) he
      rw [this]; rfl
/-- An index that tells whether there is one. -/
def IndexPost (b : Bool) (w : World) (e : Ending) (w' : World) : Prop := ∃ v : Int, e = .returned (.int .i64 v) ∧ decide (0 ≤ v) = b ∧ w' = w
theorem index_any (A : Option Addr) (n c : Nat) (f : Nat → Int) (x : Int) (w : World) (hn : n ≤ 1048576) (hs : Src w A n (iv f)) :
    Calls Try.prog 41 #[.slice A n c, .int .i64 x] w (IndexPost (hasB n f x) w) := by
  have HS := hide hs
  clear hs
  go_enter Try.func41, Try.ntmps41
  go_wp2
  go_loop [8] (fun i => ∃ k : Nat, k ≤ n ∧ i = .int .i64 k ∧ Hid (∀ j, j < k → f j ≠ x)) (fun i => n - (intOf i).toNat)
  case atStart => exact ⟨0, Nat.zero_le _, rfl, hide (fun j hj => absurd hj (by omega))⟩
  case round =>
    obtain ⟨k, hk, rfl, HK⟩ := hrel
    by_cases hlt : k < n
    · obtain ⟨b, off, hA, hbl, hc0⟩ := HS.out k hlt
      have hc : w.cell? ⟨b, off + k, none⟩ = some (.int .i64 (f k)) := hc0
      clear hc0
      subst hA
      by_cases hx : f k = x
      · have hb : (x == f k) = true := by simp [hx]
        go_wp2
        go_ret
        have : hasB n f x = true := by simp only [hasB, decide_eq_true_eq]; exact ⟨k, hlt, hx⟩
        rw [this]
        exact ⟨k, rfl, by simp, rfl⟩
      · have hb : (x == f k) = false := by simp; exact fun h => hx h.symm
        go_wp2
        go_round
        case rel =>
          refine ⟨k + 1, by omega, by go_num, hide fun j hj => ?_⟩
          by_cases hjk : j = k
          · subst hjk; exact hx
          · exact HK.out j (by omega)
        case measure => simp [intOf]; omega
    · go_wp2
      go_ret
      have : hasB n f x = false := by
        simp only [hasB, decide_eq_false_iff_not]
        rintro ⟨j, hj, he⟩
        exact HK.out j (by omega) he
      rw [this]
      exact ⟨-1, rfl, by decide, rfl⟩
theorem contains_any (A : Option Addr) (n c : Nat) (f : Nat → Int) (x : Int) (w : World) (hn : n ≤ 1048576) (hs : Src w A n (iv f)) :
    Calls Try.prog 31 #[.slice A n c, .int .i64 x] w fun e w' => e = .returned (.bool (hasB n f x)) ∧ w' = w := by
  obtain ⟨b, hb⟩ : ∃ b, hasB n f x = b := ⟨_, rfl⟩
  have HI := hide (index_any A n c f x w hn hs)
  rw [hb] at HI ⊢
  clear hs hb
  go_enter Try.func31, Try.ntmps31
  go_wp2_with fail
  refine HI.out.mono ?_
  rintro e w' ⟨v, rfl, hv, rfl⟩
  have HV := hide hv
  clear hv
  go_wp2
  go_ret
  exact ⟨by first | rfl | (rw [HV.out]; rfl), rfl⟩
/-- The number is outside. -/
def outB (most x : Int) : Bool := decide (x < 0) || decide (most < x)
theorem out_any (most x : Int) (b : Nat) (w : World) (hb : w.cell? ⟨b, 0, none⟩ = some (.int .i64 most)) :
    Calls Try.prog 33 #[.int .i64 x, .pointer (some ⟨b, 0, none⟩)] w fun e w' => e = .returned (.bool (outB most x)) ∧ w' = w := by
  go_enter Try.func33, Try.ntmps33
  by_cases h : x < 0
  · go_wp2
    go_ret
    exact ⟨by simp [outB, h], rfl⟩
  · have h0 : 0 ≤ x := by omega
    go_wp2
    go_ret
    exact ⟨by simp [outB, h]; try omega, rfl⟩
theorem indexOut_any (A : Option Addr) (n c : Nat) (f : Nat → Int) (most : Int) (b0 : Nat) (w : World) (hn : n ≤ 1048576) (hs : Src w A n (iv f)) (hb : w.cell? ⟨b0, 0, none⟩ = some (.int .i64 most)) :
    Calls Try.prog 42 #[.slice A n c, .func (.func 33) #[] #[.pointer (some ⟨b0, 0, none⟩)]] w (IndexPost (!allB n f 0 most) w) := by
  have HS := hide hs
  have HB := hide hb
  clear hs hb
  go_enter Try.func42, Try.ntmps42
  go_wp2
  go_loop [8] (fun i => ∃ k : Nat, k ≤ n ∧ i = .int .i64 k ∧ Hid (∀ j, j < k → 0 ≤ f j ∧ f j ≤ most)) (fun i => n - (intOf i).toNat)
  case atStart => exact ⟨0, Nat.zero_le _, rfl, hide (fun j hj => absurd hj (by omega))⟩
  case round =>
    obtain ⟨k, hk, rfl, HK⟩ := hrel
    by_cases hlt : k < n
    · obtain ⟨b, off, hA, hbl, hc0⟩ := HS.out k hlt
      have hc : w.cell? ⟨b, off + k, none⟩ = some (.int .i64 (f k)) := hc0
      clear hc0
      subst hA
      cases hx : outB most (f k)
      · go_wp2_with (go_at_call 33; refine (out_any most _ _ _ HB.out).mono ?_; rintro e w' ⟨rfl, rfl⟩; rw [hx])
        go_round
        case rel =>
          refine ⟨k + 1, by omega, by go_num, hide fun j hj => ?_⟩
          by_cases hjk : j = k
          · subst hjk; simp [outB] at hx; omega
          · exact HK.out j (by omega)
        case measure => simp [intOf]; omega
      · go_wp2_with (go_at_call 33; refine (out_any most _ _ _ HB.out).mono ?_; rintro e w' ⟨rfl, rfl⟩; rw [hx])
        go_ret
        have : allB n f 0 most = false := by
          simp only [allB, decide_eq_false_iff_not]
          intro h
          have := h k hlt
          simp [outB] at hx; omega
        rw [this]
        exact ⟨k, rfl, by simp, rfl⟩
    · go_wp2
      go_ret
      have : allB n f 0 most = true := by
        simp only [allB, decide_eq_true_eq]
        exact fun j hj => HK.out j (by omega)
      rw [this]
      exact ⟨-1, rfl, by decide, rfl⟩
theorem containsOut_any (A : Option Addr) (n c : Nat) (f : Nat → Int) (most : Int) (b0 : Nat) (w : World) (hn : n ≤ 1048576) (hs : Src w A n (iv f)) (hb : w.cell? ⟨b0, 0, none⟩ = some (.int .i64 most)) :
    Calls Try.prog 32 #[.slice A n c, .func (.func 33) #[] #[.pointer (some ⟨b0, 0, none⟩)]] w fun e w' => e = .returned (.bool (!allB n f 0 most)) ∧ w' = w := by
  obtain ⟨b, hbb⟩ : ∃ b, (!allB n f 0 most) = b := ⟨_, rfl⟩
  have HI := hide (indexOut_any A n c f most b0 w hn hs hb)
  rw [hbb] at HI ⊢
  clear hs hb hbb
  go_enter Try.func32, Try.ntmps32
  go_wp2_with fail
  refine HI.out.mono ?_
  rintro e w' ⟨v, rfl, hv, rfl⟩
  have HV := hide hv
  clear hv
  go_wp2
  go_ret
  exact ⟨by first | rfl | (rw [HV.out]; rfl), rfl⟩
theorem areUpTo_any (A : Option Addr) (n c : Nat) (f : Nat → Int) (most : Int) (w : World) (hn : n ≤ 1048576) (hs : Src w A n (iv f)) :
    Calls Try.prog 23 #[.int .i64 most, .slice A n c] w fun e w' => e = .returned (.bool (allB n f 0 most)) ∧ Below w.heap.size w w' := by
  have HS := hide hs
  clear hs
  go_enter Try.func23, Try.ntmps23
  go_wp2_with fail
  refine (containsOut_any A n c f most w.heap.size _ hn (HS.out.alloc _) (by simp [go_sem])).mono ?_
  rintro e w' ⟨rfl, rfl⟩
  go_wp2
  go_ret
  exact ⟨by simp, by go_grown⟩
theorem prArr (w : World) : Arr (w.alloc (.cells #[.int .i64 2, .int .i64 3, .int .i64 5, .int .i64 7] 3)) 3 w.heap.size 4 (iv pr4) :=
  Arr.new w #[.int .i64 2, .int .i64 3, .int .i64 5, .int .i64 7] 3 (iv pr4) (fun i hi => by
      have : i = 0 ∨ i = 1 ∨ i = 2 ∨ i = 3 := by simp at hi; omega
      rcases this with rfl | rfl | rfl | rfl <;> rfl)
theorem clPrime_any (m : Int) (w : World) : Calls Try.prog 28 #[.int .i64 m] w fun e w' => e = .returned (.bool (primeB m)) ∧ Below w.heap.size w w' := by
  go_enter Try.func28, Try.ntmps28
  go_wp2_with fail
  refine (l1Has_any _ 4 _ pr4 m _ (by omega) (Src.of_arr (prArr w))).mono ?_
  rintro e w' ⟨rfl, rfl⟩
  go_wp2
  go_ret
  exact ⟨rfl, by go_grown⟩
/-- What is asked of a graph and a number of colours, in the model's order. -/
theorem colB_no1 {n : Nat} {f : Nat → Int} {m : Int} (h : primeB m = false) : colB n f m = false := by simp [colB, h]
theorem colB_no2 {n : Nat} {f : Nat → Int} {m : Int} (h : goodB n f = false) : colB n f m = false := by simp [colB, h]
theorem colB_no3 {n : Nat} {f : Nat → Int} {m : Int} (h : ¬ n ≤ 10) : colB n f m = false := by simp [colB, h]
theorem colB_yes {n : Nat} {f : Nat → Int} {m : Int} (h1 : primeB m = true) (h2 : goodB n f = true) (h3 : n ≤ 10) : colB n f m = true := by simp [colB, h1, h2, h3]
theorem clGood_any (g n c : Nat) (f : Nat → Int) (own : Bool) (m : Int) (w : World) (hn : n ≤ 1048576) (ha : Arr w 3 g n (iv f)) :
    Calls Try.prog 20 #[.agg #[.slice (some ⟨g, 0, none⟩) n c, .bool own], .int .i64 m] w fun e w' => e = .returned (.bool (colB n f m)) ∧ Below w.heap.size w w' := by
  have HA := hide ha
  clear ha
  cases hp : primeB m
  · rw [colB_no1 hp]
    go_enter Try.func20, Try.ntmps20
    go_wp2_with (go_at_call 28; refine (clPrime_any m _).mono ?_; rintro e w1 ⟨rfl, hb1⟩; rw [hp])
    go_ret
    exact ⟨rfl, ((by go_grown : Below w.heap.size w _).trans (hb1.mono (by simp)))⟩
  · cases hg : goodB n f
    · rw [colB_no2 hg]
      go_enter Try.func20, Try.ntmps20
      go_wp2_with fail
      refine (clPrime_any m _).mono ?_
      rintro e w1 ⟨rfl, hb1⟩
      rw [hp]
      have hpb := (Arr.box w 28 (.slice (some ⟨g, 0, none⟩) n c) (.bool own)).all hb1
      have c0 : w1.cell? ⟨w.heap.size, 0, none⟩ = some (.slice (some ⟨g, 0, none⟩) n c) := hpb.cell (by omega)
      have c1 : w1.cell? ⟨w.heap.size, 1, none⟩ = some (.bool own) := hpb.cell (by omega)
      have HA1 := hide ((HA.out.alloc _).all hb1)
      have HB1 := hide ((by go_grown : Below w.heap.size w _).trans (hb1.mono (by simp)))
      clear hb1 hpb
      go_wp2_with fail
      refine (grGood_any _ _ _ f _ _ hn HA1.out).mono ?_
      rintro e w2 ⟨rfl, hb2⟩
      rw [hg]
      go_wp2
      go_ret
      exact ⟨rfl, HB1.out.trans (hb2.mono HB1.out.size)⟩
    · have key : ∀ (b : Bool), decide (n ≤ 10) = b → colB n f m = b := fun b hb => by simp [colB, hp, hg, hb]
      go_enter Try.func20, Try.ntmps20
      go_wp2_with fail
      refine (clPrime_any m _).mono ?_
      rintro e w1 ⟨rfl, hb1⟩
      rw [hp]
      have hpb := (Arr.box w 28 (.slice (some ⟨g, 0, none⟩) n c) (.bool own)).all hb1
      have c0 : w1.cell? ⟨w.heap.size, 0, none⟩ = some (.slice (some ⟨g, 0, none⟩) n c) := hpb.cell (by omega)
      have c1 : w1.cell? ⟨w.heap.size, 1, none⟩ = some (.bool own) := hpb.cell (by omega)
      have HA1 := hide ((HA.out.alloc _).all hb1)
      have HB1 := hide ((by go_grown : Below w.heap.size w _).trans (hb1.mono (by simp)))
      have hzl : w.heap.size < w1.heap.size := hpb.lt
      clear hb1 hpb
      go_wp2_with fail
      refine (grGood_any _ _ _ f _ _ hn HA1.out).mono ?_
      rintro e w2 ⟨rfl, hb2⟩
      rw [hg]
      have d0 : w2.cell? ⟨w.heap.size, 0, none⟩ = some (.slice (some ⟨g, 0, none⟩) n c) := (hb2.cell (p := ⟨w.heap.size, 0, none⟩) hzl).trans c0
      have HB2 := hide (HB1.out.trans (hb2.mono HB1.out.size))
      clear c0 c1 hb2
      by_cases h10 : n ≤ 10
      · have h10' : (n : Int) ≤ 10 := by omega
        go_wp2
        go_ret
        exact ⟨by rw [key true (by simp [h10])]; first | rfl | (simp; omega), HB2.out⟩
      · have h10' : ¬ (n : Int) ≤ 10 := by omega
        go_wp2
        go_ret
        exact ⟨by rw [key false (by simp [h10])]; first | rfl | (simp; omega), HB2.out⟩
end Go.Proofs.Ytjbhmncpbhlmiaa
