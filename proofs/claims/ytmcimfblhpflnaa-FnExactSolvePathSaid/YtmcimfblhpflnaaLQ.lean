import Derived.Test.YtmcimfblhpflnaaLP
namespace Go.Proofs.Ytmcimfblhpflnaa
open Go.RowKit
set_option maxHeartbeats 2000000
theorem sides_a {a : Int} (h : inB a 1 16 = false) : sidesB a 1 1 = false := by
  simp only [inB, decide_eq_false_iff_not] at h
  simp only [sidesB, decide_eq_false_iff_not]
  omega
theorem sides_ok {n : Nat} (h : inB n 1 16 = true) : Sides n 1 := by
  simp only [inB, decide_eq_true_eq] at h
  exact ⟨by omega, by omega, by omega, by omega, by omega⟩
theorem fls_two (own : Bool) (L n : Nat) : fls 1 own L n (2 ^ 1) = (if prw 1 own L 0 n = 0 then [0] else []) ++ (if prw 1 own L 1 n = 0 then [1] else []) := by
  show fls 1 own L n 2 = _
  rw [fls_succ, fls_succ]
  rfl
theorem ch_a (a : Int) (own : Bool) (l : Int) (w : World) (h : inB a 1 16 = false) :
    Calls Try.prog 39 #[.int .i64 a, .int .i64 1, .bool own, .int .i64 l] w fun e w' => e = .returned (.tuple #[.int .i64 0, .bool false]) ∧ Below w.heap.size w w' := scImpl_a a 1 l own w (hide (sides_a h))
theorem ch_b (n : Nat) (own : Bool) (l : Int) (w : World) (h : inB n 1 16 = true) (hl : inB l 0 (2 ^ n - 1) = false) :
    Calls Try.prog 39 #[.int .i64 n, .int .i64 1, .bool own, .int .i64 l] w fun e w' => e = .returned (.tuple #[.int .i64 0, .bool false]) ∧ Below w.heap.size w w' := by
  have := scImpl_b n 1 n l own w (sides_ok h) (hide (Nat.mul_one n)) (hide hl)
  exact this
theorem ch_c (n L : Nat) (own : Bool) (w : World) (h : inB n 1 16 = true) (hl : inB L 0 (2 ^ n - 1) = true) (hL : L < 2 ^ n) :
    Calls Try.prog 39 #[.int .i64 n, .int .i64 1, .bool own, .int .i64 L] w fun e w' => e = .returned (SpOut own L n) ∧ Below w.heap.size w w' := by
  have hn : n ≤ 16 := by simp only [inB, decide_eq_true_eq] at h; omega
  have hL63 : L < 9223372036854775808 := by
    have : 2 ^ n ≤ 2 ^ 16 := Nat.pow_le_pow_right (by decide) hn
    omega
  have hs := sides_ok h
  have hf := fls_two own L n
  by_cases h0 : prw 1 own L 0 n = 0
  · rw [if_pos h0] at hf
    have := scImpl_e n 1 n L 0 own w hs (hide (Nat.mul_one n)) (hide hl) (hide (by decide)) (by decide) hL63 (hide ⟨by rw [hf]; simp, by rw [hf]; rfl⟩) (by decide)
    rw [SpOut, if_pos h0]
    exact this
  · by_cases h1 : prw 1 own L 1 n = 0
    · rw [if_neg h0, if_pos h1] at hf
      have := scImpl_e n 1 n L 1 own w hs (hide (Nat.mul_one n)) (hide hl) (hide (by decide)) (by decide) hL63 (hide ⟨by rw [hf]; simp, by rw [hf]; rfl⟩) (by decide)
      rw [SpOut, if_neg h0, if_pos h1]
      exact this
    · rw [if_neg h0, if_neg h1] at hf
      have := scImpl_d n 1 n L own w hs (hide (Nat.mul_one n)) (hide hl) (by decide) hL63 (hide (by rw [hf]; rfl))
      rw [SpOut, if_neg h0, if_neg h1]
      exact this
theorem spImpl_of (v : Int) (b : Bool) (a : Int) (own : Bool) (l : Int) (w : World) (H : Hid (Calls Try.prog 39 #[.int .i64 a, .int .i64 1, .bool own, .int .i64 l] w fun e w' => e = .returned (.tuple #[.int .i64 v, .bool b]) ∧ Below w.heap.size w w')) :
    Calls Try.prog 26 #[.int .i64 a, .bool own, .int .i64 l] w fun e w' => e = .returned (.tuple #[.int .i64 v, .bool b]) ∧ Below w.heap.size w w' := by
  go_enter Try.func26, Try.ntmps26
  go_wp2_with (go_at_call 39; refine H.out.mono ?_; rintro e w' ⟨rfl, hb⟩)
  go_ret2
  exact ⟨rfl, hb⟩
theorem lawSp_of (v : Int) (b : Bool) (a : Int) (own : Bool) (l : Int) (w : World)
    (H1 : Hid (∀ w, Calls Try.prog 25 #[.int .i64 a, .bool own, .int .i64 l] w fun e w' => e = .returned (.tuple #[.int .i64 v, .bool b]) ∧ Below w.heap.size w w'))
    (H2 : Hid (∀ w, Calls Try.prog 26 #[.int .i64 a, .bool own, .int .i64 l] w fun e w' => e = .returned (.tuple #[.int .i64 v, .bool b]) ∧ Below w.heap.size w w')) :
    Calls Try.prog 8 #[.int .i64 a, .bool own, .int .i64 l] w fun e w' => e = .returned (.bool true) ∧ Below w.heap.size w w' := by
  go_enter Try.func8, Try.ntmps8
  go_wp2_with fail
  refine (H1.out _).mono ?_
  rintro e w1 ⟨rfl, hb1⟩
  have HB1 := hide hb1
  clear hb1
  go_wp2_with fail
  refine (H2.out _).mono ?_
  rintro e w2 ⟨rfl, hb2⟩
  have HB2 := hide (HB1.out.trans (hb2.mono HB1.out.size))
  clear hb2
  go_wp2
  go_ret
  exact ⟨rfl, HB2.out⟩
theorem lawSolvePath (a : Int) (own : Bool) (l : Int) (w : World) :
    Calls Try.prog 8 #[.int .i64 a, .bool own, .int .i64 l] w fun e w' => e = .returned (.bool true) ∧ Below w.heap.size w w' := by
  cases h : inB a 1 16
  · exact lawSp_of 0 false a own l w (hide fun w => spSpec_a a own l w h) (hide fun w => spImpl_of 0 false a own l w (hide (ch_a a own l w h)))
  · obtain ⟨n, rfl⟩ : ∃ n : Nat, a = n := ⟨a.toNat, by simp only [inB, decide_eq_true_eq] at h; omega⟩
    cases hl : inB l 0 (2 ^ n - 1)
    · exact lawSp_of 0 false n own l w (hide fun w => spSpec_b n own l w h hl) (hide fun w => spImpl_of 0 false n own l w (hide (ch_b n own l w h hl)))
    · have hl2 : 0 ≤ l ∧ l ≤ 2 ^ n - 1 := by simpa only [inB, decide_eq_true_eq] using hl
      obtain ⟨L, rfl⟩ : ∃ L : Nat, l = L := ⟨l.toNat, by omega⟩
      have hL : L < 2 ^ n := by have := hl2.2; rw [← pow_nat] at this; omega
      obtain ⟨v, b, hv⟩ := spOut_two own L n
      exact lawSp_of v b n own L w (hide fun w => by rw [← hv]; exact spSpec_c n L own w h hl hL) (hide fun w => spImpl_of v b n own L w (hide (by rw [← hv]; exact ch_c n L own w h hl hL)))
end Go.Proofs.Ytmcimfblhpflnaa
