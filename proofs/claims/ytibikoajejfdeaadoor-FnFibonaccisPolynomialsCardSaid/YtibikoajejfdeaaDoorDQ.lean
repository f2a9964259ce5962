/-
What is drawn of Fibonacci's polynomials: some number, some polynomial.
-/
import Derived.Test.YtibikoajejfdeaaDoorDR
import Derived.Test.YtibikoajejfdeaaDoorTQ
namespace Go.Proofs.YtibikoajejfdeaaDoor
open Go.RowKit
set_option maxHeartbeats 2000000
set_option maxRecDepth 100000
theorem big_no (A A' : Option Addr) (n c n' c' : Nat) (w : World) (hn : n ≤ 1048576) (hn' : n' ≤ 1048576 - n) :
    Calls Tryd.prog 4 #[.slice A n c, .slice A' n' c'] w fun e w' => e = .returned (.bool false) ∧ w = w' := by
  have e : (decide (1048576 < (n : Int)) || decide (1048576 - (n : Int) < (n' : Int))) = false := by simp; omega
  go_enter Tryd.func4, Tryd.ntmps4
  go_wp2
  go_ret
  exact ⟨rfl, rfl⟩
theorem big_yes (A A' : Option Addr) (n c n' c' : Nat) (w : World) (hn : n ≤ 9223372036854775807) (hn' : n' ≤ 9223372036854775807) (hb : 1048576 < n ∨ 1048576 - n < n') :
    Calls Tryd.prog 4 #[.slice A n c, .slice A' n' c'] w fun e w' => e = .returned (.bool true) ∧ w = w' := by
  by_cases h1 : 1048576 < n
  · go_enter Tryd.func4, Tryd.ntmps4
    go_wp2
    go_ret
    exact ⟨rfl, rfl⟩
  · have h2 : 1048576 - n < n' := by omega
    clear hb
    have e : (decide (1048576 < (n : Int)) || decide (1048576 - (n : Int) < (n' : Int))) = true := by simp; omega
    go_enter Tryd.func4, Tryd.ntmps4
    go_wp2
    go_ret
    exact ⟨rfl, rfl⟩
theorem among_at (B n c p : Nat) (A : Option Addr) (f : Nat → Int) (k c' g : Nat) (h : Nat → Int) (w : World) (hk : 2 ≤ k) (hk2 : k ≤ 200) (hp : p ≤ 1000) (hn : n ≤ 1048576) (hc : Cur w B A n c p) (hs : Src w A n (uv f)) (hf : ∀ k, k < n → 0 ≤ f k ∧ f k < 256) (hg : Arr w 3 g k (iv h)) :
    Calls Tryd.prog 26 #[.pointer (some ⟨B, 0, none⟩), .slice (some ⟨g, 0, none⟩) k c'] w fun e w' => (∃ v : Nat, v < k ∧ e = .returned (.int .i64 (h v))) ∧ Cur w' B A n c (p + 1) ∧ w.grownBy w' (some B) := by
  have hne : g ≠ B := by
    obtain ⟨s, hb⟩ := hc
    intro e
    subst e
    obtain ⟨cs, h1, _, _⟩ := hg
    have h2 : w.heap[g]? = some (.cells #[.slice A n c, .int .i64 (p : Nat), .int .u64 s] 34 (0, 0)) := hb
    rw [h1] at h2
    injection h2 with h2
    injection h2 with _ h3
    cases h3
  have HC := hide hc
  have HS := hide hs
  have HF := hide hf
  have HG := hide hg
  clear hc hs hf hg
  go_enter Tryd.func26, Tryd.ntmps26
  go_wp2_with fail
  refine (pick_any B n c p A f k _ hk hk2 hp hn HC.out HS.out HF.out).mono ?_
  rintro e w3 ⟨⟨v, hv, rfl⟩, hc3, hg3⟩
  have hcell : w3.cell? ⟨g, v, none⟩ = some (.int .i64 (h v)) := (HG.out.grown hg3 hne).cell hv
  go_wp2
  go_ret
  exact ⟨⟨v, hv, rfl⟩, hc3, hg3⟩
theorem list_arr (w : World) (L : List Int) : Arr (w.alloc (.cells (L.map fun x => Value.int .i64 x).toArray 3)) 3 w.heap.size L.length (iv fun k => L.getD k 0) := by
  refine ⟨_, heap_alloc_new w _, by simp, fun k hk => ?_⟩
  simp [iv, hk]
theorem cur_alloc {w : World} {B n c p : Nat} {A : Option Addr} (h : Cur w B A n c p) (o : Obj) : Cur (w.alloc o) B A n c p := by
  obtain ⟨s, h⟩ := h
  exact ⟨s, h.alloc _⟩
theorem poly_any (B n c p m : Nat) (A : Option Addr) (f : Nat → Int) (w : World) (hm1 : 1 ≤ m) (hm : m ≤ 6) (hp : p ≤ 900) (hn : n ≤ 1048576) (hc : Cur w B A n c p) (hA : 0 < n → ∀ b o, A = some ⟨b, o, none⟩ → b ≠ B) (hs : Src w A n (uv f)) (hf : ∀ k, k < n → 0 ≤ f k ∧ f k < 256) :
    Calls Tryd.prog 25 #[.pointer (some ⟨B, 0, none⟩), .int .i64 (m : Nat)] w fun e w' => (∃ v : Int, e = .returned (.int .i64 v)) ∧ w.grownBy w' (some B) := by
  have HC := hide hc
  have HS := hide hs
  have HF := hide hf
  have HA := hide hA
  have hsrc : ∀ w', w.grownBy w' (some B) → Src w' A n (uv f) := fun w' hg k hk => by
    obtain ⟨b, off, e, hl, hcell⟩ := hs k hk
    exact ⟨b, off, e, Nat.lt_of_lt_of_le hl hg.size, World.grownBy.cell hg hcell (fun e2 => by injection e2 with e2; exact hA (by omega) b off e e2)⟩
  have HSG := hide hsrc
  clear hc hs hf hA hsrc
  go_enter Tryd.func25, Tryd.ntmps25
  go_wp2_with fail
  refine (pick_any B n c p A f 12 _ (by omega) (by omega) (by omega) hn HC.out HS.out HF.out).mono ?_
  rintro e w1 ⟨⟨v, hv, rfl⟩, hc1, hg1⟩
  have HC1 := hide hc1
  have HG1 := hide hg1
  have hbl : B < w1.heap.size := by obtain ⟨s, h⟩ := hc1; exact h.lt
  clear hc1 hg1
  by_cases h0 : v = 0
  · subst h0
    have HA1 := hide (list_arr w1 [-1, 0, 1, 2, 2199023255551, 2199023255552, 4611686018427387904])
    go_wp2_with fail
    refine (among_at B n c (p + 1) A f 7 7 w1.heap.size _ _ (by omega) (by omega) (by omega) hn (cur_alloc HC1.out _) ((HSG.out _ HG1.out).alloc _) HF.out HA1.out).mono ?_
    rintro e w2 ⟨⟨j, hj, rfl⟩, hc2, hg2⟩
    go_wp2
    go_ret
    exact ⟨⟨_, rfl⟩, grownBy_trans HG1.out (grownBy_trans (grownBy_of_below (by go_grown) _) hg2)⟩
  · by_cases h1 : v = 1
    · subst h1
      obtain ⟨m1, e1, hm2, hm7⟩ : ∃ m1 : Nat, (m : Int) + 1 = (m1 : Int) ∧ 2 ≤ m1 ∧ m1 ≤ 7 := ⟨m + 1, by omega, by omega, by omega⟩
      go_wp2_with fail
      refine (pick_any B n c (p + 1) A f m1 _ (by omega) (by omega) (by omega) hn HC1.out (HSG.out _ HG1.out) HF.out).mono ?_
      rintro e w2 ⟨⟨j, hj, rfl⟩, hc2, hg2⟩
      have HG2 := hide (grownBy_trans HG1.out hg2)
      clear hc2 hg2
      go_wp2_with (go_at_call 20; refine (poFibonacci_any j _ (by omega)).mono ?_; rintro e w3 ⟨rfl, rfl⟩)
      go_ret
      exact ⟨⟨_, rfl⟩, HG2.out⟩
    · by_cases h2 : v = 2
      · subst h2
        obtain ⟨m1, e1, hm2, hm7⟩ : ∃ m1 : Nat, (m : Int) + 1 = (m1 : Int) ∧ 2 ≤ m1 ∧ m1 ≤ 7 := ⟨m + 1, by omega, by omega, by omega⟩
        go_wp2_with fail
        refine (pick_any B n c (p + 1) A f m1 _ (by omega) (by omega) (by omega) hn HC1.out (HSG.out _ HG1.out) HF.out).mono ?_
        rintro e w2 ⟨⟨j, hj, rfl⟩, hc2, hg2⟩
        have HG2 := hide (grownBy_trans HG1.out hg2)
        clear hc2 hg2
        go_wp2
        go_ret
        exact ⟨⟨_, rfl⟩, HG2.out⟩
      · have e0 : ((v : Int) == 0) = false := by simp; omega
        have e1 : ((v : Int) == 1) = false := by simp; omega
        have e2 : ((v : Int) == 2) = false := by simp; omega
        go_wp2
        go_loopw [5, 6] (fun x y wr => ∃ (q : Int) (k : Nat), x = .int .i64 q ∧ y = .int .i64 k ∧ k ≤ m + 1 ∧ Hid (Cur wr B A n c (p + 1 + k)) ∧ Hid (w.grownBy wr (some B)))
          (fun _ y _ => m + 1 - (intOf y).toNat)
        case atStart => exact ⟨0, 0, rfl, rfl, by omega, HC1, HG1⟩
        case round =>
          obtain ⟨q, k, rfl, rfl, hk, HCk, HGk⟩ := hrel
          by_cases hkm : k ≤ m
          · go_wp2_with fail
            refine (pick_any B n c (p + 1 + k) A f 2 _ (by omega) (by omega) (by omega) hn HCk.out (HSG.out _ HGk.out) HF.out).mono ?_
            rintro e w2 ⟨⟨j, hj, rfl⟩, hc2, hg2⟩
            have HC2 := hide hc2
            have HG2 := hide (grownBy_trans HGk.out hg2)
            clear hc2 hg2
            go_wp2
            exact ⟨⟨_, k + 1, rfl, by go_num, by omega, HC2, HG2⟩, by simp [intOf]; omega⟩
          · go_wp2
            go_ret
            exact ⟨⟨_, rfl⟩, HGk.out⟩
/-- What a call leaves that draws a number. -/
def DrawnI (w : World) (e : Ending) (w' : World) : Prop := ∃ v : Int, e = .returned (.int .i64 v) ∧ Below w.heap.size w w'
theorem drawFib_any (A : Option Addr) (n c : Nat) (f : Nat → Int) (w : World) (hn : n ≤ 1048576) (hs : Src w A n (uv f)) (hf : ∀ k, k < n → 0 ≤ f k ∧ f k < 256) :
    Calls Tryd.prog 5 #[.slice A n c] w (DrawnI w) := by
  have HS := hide hs
  have HF := hide hf
  clear hs hf
  have HC : Hid (Cur (w.alloc (.cells #[.slice A n c, .int .i64 0, .int .u64 0] 34)) w.heap.size A n c 0) := hide ⟨0, Blk.new w _ _ rfl⟩
  have HB0 : Hid (Below w.heap.size w (w.alloc (.cells #[.slice A n c, .int .i64 0, .int .u64 0] 34))) := hide (by go_grown)
  go_enter Tryd.func5, Tryd.ntmps5
  go_wp2_with fail
  refine (pick_any w.heap.size n c 0 A f 44 _ (by omega) (by omega) (by omega) hn HC.out (HS.out.below HB0.out) HF.out).mono ?_
  rintro e w1 ⟨⟨v, hv, rfl⟩, hc1, hg1⟩
  have HB1 := hide (HB0.out.grown hg1 (by simp) (fun k hk => by injection hk with hk; omega))
  clear hc1 hg1
  go_wp2
  go_ret
  exact ⟨_, rfl, HB1.out⟩
theorem drawFirst_any (A : Option Addr) (n c : Nat) (f : Nat → Int) (w : World) (hn : n ≤ 1048576) (hs : Src w A n (uv f)) (hf : ∀ k, k < n → 0 ≤ f k ∧ f k < 256) :
    Calls Tryd.prog 12 #[.slice A n c] w (DrawnI w) := by
  have hA : ∀ k, k < n → ∀ b o, A = some ⟨b, o, none⟩ → b < w.heap.size := fun k hk b o e => by
    obtain ⟨b', o', e2, hl, _⟩ := hs k hk
    rw [e] at e2
    injection e2 with e2
    injection e2 with e2
    omega
  have HS := hide hs
  have HF := hide hf
  have HA := hide hA
  clear hs hf hA
  have HB0 : Hid (Below w.heap.size w (w.alloc (.cells #[.slice A n c, .int .i64 0, .int .u64 0] 34))) := hide (by go_grown)
  have HC : Hid (Cur (w.alloc (.cells #[.slice A n c, .int .i64 0, .int .u64 0] 34)) w.heap.size A n c 0) := hide ⟨0, Blk.new w _ _ rfl⟩
  have HL := hide (list_arr (w.alloc (.cells #[.slice A n c, .int .i64 0, .int .u64 0] 34)) [1, 2, 3, 4, 6])
  go_enter Tryd.func12, Tryd.ntmps12
  go_wp2_with fail
  refine (among_at w.heap.size n c 0 A f 5 5 (w.heap.size + 1) _ _ (by omega) (by omega) (by omega) hn (cur_alloc HC.out _) ((HS.out.below HB0.out).alloc _) HF.out (by simpa using HL.out)).mono ?_
  rintro e w1 ⟨⟨j, hj, rfl⟩, hc1, hg1⟩
  have HB1 := hide ((HB0.out.alloc (by simp) (.cells (([1, 2, 3, 4, 6] : List Int).map fun x => Value.int .i64 x).toArray 3)).grown hg1 (by simp; omega) (fun k hk => by injection hk with hk; omega))
  have HC1 := hide hc1
  obtain ⟨m, hm1, hm6, hme⟩ : ∃ m : Nat, 1 ≤ m ∧ m ≤ 6 ∧ (([1, 2, 3, 4, 6] : List Int)[j]?).getD 0 = (m : Int) := by
    match j, hj with
    | 0, _ => exact ⟨1, by omega, by omega, rfl⟩
    | 1, _ => exact ⟨2, by omega, by omega, rfl⟩
    | 2, _ => exact ⟨3, by omega, by omega, rfl⟩
    | 3, _ => exact ⟨4, by omega, by omega, rfl⟩
    | 4, _ => exact ⟨6, by omega, by omega, rfl⟩
  rw [hme]
  clear hc1 hg1 hme
  go_wp2_with fail
  refine (poly_any w.heap.size n c 1 m A f _ hm1 hm6 (by omega) hn HC1.out (fun h0 b o e => by have := HA.out 0 h0 b o e; omega) (HS.out.below HB1.out) HF.out).mono ?_
  rintro e w2 ⟨⟨v, rfl⟩, hg2⟩
  have HB2 := hide (HB1.out.grown hg2 HB1.out.size (fun k hk => by injection hk with hk; omega))
  clear hg2
  go_wp2
  go_ret
  exact ⟨_, rfl, HB2.out⟩
end Go.Proofs.YtibikoajejfdeaaDoor
