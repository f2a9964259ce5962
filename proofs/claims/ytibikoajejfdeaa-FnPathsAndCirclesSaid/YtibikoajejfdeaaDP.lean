/-
What is drawn of a path or a circle: some number, and whether its buttons have their own lights.
-/
import Derived.Test.YtibikoajejfdeaaDR
namespace Go.Proofs.Ytibikoajejfdeaa
open Go.RowKit
set_option maxHeartbeats 1000000
theorem big_no (A A' : Option Addr) (n c n' c' : Nat) (w : World) (hn : n ≤ 1048576) (hn' : n' ≤ 1048576 - n) :
    Calls Try.prog 4 #[.slice A n c, .slice A' n' c'] w fun e w' => e = .returned (.bool false) ∧ w = w' := by
  have e : (decide (1048576 < (n : Int)) || decide (1048576 - (n : Int) < (n' : Int))) = false := by simp; omega
  go_enter Try.func4, Try.ntmps4
  go_wp2
  go_ret
  exact ⟨rfl, rfl⟩
theorem big_yes (A A' : Option Addr) (n c n' c' : Nat) (w : World) (hn : n ≤ 9223372036854775807) (hn' : n' ≤ 9223372036854775807) (hb : 1048576 < n ∨ 1048576 - n < n') :
    Calls Try.prog 4 #[.slice A n c, .slice A' n' c'] w fun e w' => e = .returned (.bool true) ∧ w = w' := by
  by_cases h1 : 1048576 < n
  · go_enter Try.func4, Try.ntmps4
    go_wp2
    go_ret
    exact ⟨rfl, rfl⟩
  · have h2 : 1048576 - n < n' := by omega
    clear hb
    have e : (decide (1048576 < (n : Int)) || decide (1048576 - (n : Int) < (n' : Int))) = true := by simp; omega
    go_enter Try.func4, Try.ntmps4
    go_wp2
    go_ret
    exact ⟨rfl, rfl⟩
/-- What a call leaves that draws a number and a bool. -/
def Drawn (w : World) (e : Ending) (w' : World) : Prop := ∃ (v : Int) (b : Bool), e = .returned (.tuple #[.int .i64 v, .bool b]) ∧ Below w.heap.size w w'
theorem drawPath_any (A : Option Addr) (n c : Nat) (f : Nat → Int) (w : World) (hn : n ≤ 1048576) (hs : Src w A n (uv f)) (hf : ∀ k, k < n → 0 ≤ f k ∧ f k < 256) :
    Calls Try.prog 5 #[.slice A n c] w (Drawn w) := by
  have HS := hide hs
  have HF := hide hf
  clear hs hf
  have HC : Hid (Cur (w.alloc (.cells #[.slice A n c, .int .i64 0, .int .u64 0] 37)) w.heap.size A n c 0) := hide ⟨0, Blk.new w _ _ rfl⟩
  have HB0 : Hid (Below w.heap.size w (w.alloc (.cells #[.slice A n c, .int .i64 0, .int .u64 0] 37))) := hide (by go_grown)
  go_enter Try.func5, Try.ntmps5
  go_wp2_with fail
  refine (one_any w.heap.size n c 0 A f 6 _ (by omega) (by omega) (by omega) hn HC.out (HS.out.below HB0.out) HF.out).mono ?_
  rintro e w1 ⟨⟨b, rfl⟩, hc1, hg1⟩
  have HB1 := hide (HB0.out.grown hg1 (by simp) (fun k hk => by injection hk with hk; omega))
  have HC1 := hide hc1
  have hz1 := hg1.size
  simp only [World.size_alloc] at hz1
  clear hc1 hg1
  cases b
  · go_wp2_with fail
    refine (pick_any w.heap.size n c 1 A f 20 _ (by omega) (by omega) (by omega) hn HC1.out (HS.out.below HB1.out) HF.out).mono ?_
    rintro e w2 ⟨⟨v, hv, rfl⟩, hc2, hg2⟩
    have HB2 := hide (HB1.out.grown hg2 HB1.out.size (fun k hk => by injection hk with hk; omega))
    have HC2 := hide hc2
    clear hc2 hg2
    go_wp2_with fail
    refine (one_any w.heap.size n c 2 A f 2 _ (by omega) (by omega) (by omega) hn HC2.out (HS.out.below HB2.out) HF.out).mono ?_
    rintro e w3 ⟨⟨b, rfl⟩, hc3, hg3⟩
    have HB3 := hide (HB2.out.grown hg3 HB2.out.size (fun k hk => by injection hk with hk; omega))
    clear hc3 hg3
    go_wp2
    go_ret2
    exact ⟨_, _, rfl, HB3.out⟩
  · have HA : Hid (Arr (w1.alloc (.cells #[.int .i64 (-1), .int .i64 0, .int .i64 1, .int .i64 2, .int .i64 3, .int .i64 1000000, .int .i64 1000001] 3)) 3 w1.heap.size 7 (iv (fun k => [(-1 : Int), 0, 1, 2, 3, 1000000, 1000001].getD k 0))) :=
      hide (Arr.new w1 #[.int .i64 (-1), .int .i64 0, .int .i64 1, .int .i64 2, .int .i64 3, .int .i64 1000000, .int .i64 1000001] 3 _ (fun i hi => by
        match i, hi with
        | 0, _ => rfl
        | 1, _ => rfl
        | 2, _ => rfl
        | 3, _ => rfl
        | 4, _ => rfl
        | 5, _ => rfl
        | 6, _ => rfl))
    have HB1' : Hid (Below w.heap.size w (w1.alloc (.cells #[.int .i64 (-1), .int .i64 0, .int .i64 1, .int .i64 2, .int .i64 3, .int .i64 1000000, .int .i64 1000001] 3))) := hide (HB1.out.alloc HB1.out.size _)
    have HC1' : Hid (Cur (w1.alloc (.cells #[.int .i64 (-1), .int .i64 0, .int .i64 1, .int .i64 2, .int .i64 3, .int .i64 1000000, .int .i64 1000001] 3)) w.heap.size A n c 1) := hide (by obtain ⟨s, h⟩ := HC1.out; exact ⟨s, h.alloc _⟩)
    go_wp2_with fail
    refine (among_any w.heap.size n c 1 A f 7 7 w1.heap.size _ _ (by omega) (by omega) (by omega) hn HC1'.out (HS.out.below HB1'.out) HF.out HA.out).mono ?_
    rintro e w2 ⟨⟨v, rfl⟩, hc2, hg2⟩
    have HB2 := hide (HB1'.out.grown hg2 HB1'.out.size (fun k hk => by injection hk with hk; omega))
    have HC2 := hide hc2
    clear hc2 hg2
    go_wp2_with fail
    refine (one_any w.heap.size n c 2 A f 2 _ (by omega) (by omega) (by omega) hn HC2.out (HS.out.below HB2.out) HF.out).mono ?_
    rintro e w3 ⟨⟨b, rfl⟩, hc3, hg3⟩
    have HB3 := hide (HB2.out.grown hg3 HB2.out.size (fun k hk => by injection hk with hk; omega))
    clear hc3 hg3
    go_wp2
    go_ret2
    exact ⟨_, _, rfl, HB3.out⟩
theorem drawCircle_any (A : Option Addr) (n c : Nat) (f : Nat → Int) (w : World) (hn : n ≤ 1048576) (hs : Src w A n (uv f)) (hf : ∀ k, k < n → 0 ≤ f k ∧ f k < 256) :
    Calls Try.prog 8 #[.slice A n c] w (Drawn w) := by
  have HS := hide hs
  have HF := hide hf
  clear hs hf
  go_enter Try.func8, Try.ntmps8
  go_wp2_with (go_at_call 5; refine (drawPath_any A n c f _ hn HS.out HF.out).mono ?_; rintro e w1 ⟨v, b, rfl, hb1⟩)
  go_ret2
  exact ⟨_, _, rfl, hb1⟩
end Go.Proofs.Ytibikoajejfdeaa
