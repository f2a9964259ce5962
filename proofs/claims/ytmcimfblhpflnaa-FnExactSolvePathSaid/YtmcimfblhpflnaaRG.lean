import Derived.Test.YtmcimfblhpflnaaRF
namespace Go.Proofs.Ytmcimfblhpflnaa
open Go.RowKit
set_option maxHeartbeats 1000000
/-- Are lights and a first row asked for a grid? -/
def taskB (r c l f : Int) : Bool := sidesB r c 1 && (inB l 0 (2 ^ (r * c).toNat - 1) && inB f 0 (2 ^ c.toNat - 1))
theorem task_nat {l f : Int} {R C p : Nat} (hp : R * C = p) (h5 : R * C ≤ 16) (h : (inB l 0 (2 ^ p - 1) && inB f 0 (2 ^ C - 1)) = true) : ∃ L F : Nat, l = L ∧ f = F ∧ L < 2 ^ p ∧ L < 9223372036854775808 ∧ F < 2 ^ C := by
  simp only [inB, Bool.and_eq_true, decide_eq_true_eq] at h
  rw [← pow_nat, ← pow_nat] at h
  have h16 := pow16n (show p ≤ 16 by omega)
  exact ⟨l.toNat, f.toNat, by omega, by omega, by omega, by omega, by omega⟩
theorem chased_press_no (r c l f : Int) (own : Bool) (w : World) (h : sidesB r c 1 = false) :
    Calls Try.prog 45 #[.agg #[.int .i64 r, .int .i64 c, .bool own, .int .i64 l], .int .i64 f, .func (.func 46) #[] #[]] w fun e w' => e = .returned (.tuple #[.int .i64 0, .bool false]) ∧ Below w.heap.size w w' := by
  go_enter Try.func45, Try.ntmps45
  go_wp2_with fail
  refine (isOfGrid_no r c l own _ h).mono ?_
  rintro e w2 ⟨rfl, hb⟩
  have c1 : w2.cell? ⟨w.heap.size, 1, none⟩ = some (.int .i64 c) := (hb.cell (p := ⟨w.heap.size, 1, none⟩) (by simp)).trans (by simp [go_sem])
  have HB := Lib.hid ((by go_grown : Below w.heap.size w _).trans (hb.mono (by simp)))
  clear hb
  go_wp2
  go_ret2
  exact ⟨rfl, HB.out⟩
theorem chased_press_out (R c p : Nat) (l f : Int) (own : Bool) (w : World) (hs : Sides R c) (hp : R * c = p) (h : (inB l 0 (2 ^ p - 1) && inB f 0 (2 ^ c - 1)) = false) :
    Calls Try.prog 45 #[.agg #[.int .i64 R, .int .i64 c, .bool own, .int .i64 l], .int .i64 f, .func (.func 46) #[] #[]] w fun e w' => e = .returned (.tuple #[.int .i64 0, .bool false]) ∧ Below w.heap.size w w' := by
  have hc := hs.2.2.2.1
  cases hl : inB l 0 (2 ^ p - 1)
  · go_enter Try.func45, Try.ntmps45
    go_wp2_with fail
    refine (isOfGrid_ok R c p l own _ hs hp).mono ?_
    rintro e w2 ⟨rfl, hb⟩
    rw [hl]
    have c1 : w2.cell? ⟨w.heap.size, 1, none⟩ = some (.int .i64 c) := (hb.cell (p := ⟨w.heap.size, 1, none⟩) (by simp)).trans (by simp [go_sem])
    have HB := Lib.hid ((by go_grown : Below w.heap.size w _).trans (hb.mono (by simp)))
    clear hb
    go_wp2
    go_ret2
    exact ⟨rfl, HB.out⟩
  · have hf : inB f 0 (2 ^ c - 1) = false := by rw [hl] at h; exact h
    go_enter Try.func45, Try.ntmps45
    go_wp2_with fail
    refine (isOfGrid_ok R c p l own _ hs hp).mono ?_
    rintro e w2 ⟨rfl, hb⟩
    rw [hl]
    have c1 : w2.cell? ⟨w.heap.size, 1, none⟩ = some (.int .i64 c) := (hb.cell (p := ⟨w.heap.size, 1, none⟩) (by simp)).trans (by simp [go_sem])
    have HB := Lib.hid ((by go_grown : Below w.heap.size w _).trans (hb.mono (by simp)))
    clear hb
    go_wp2_with (first | (go_at_call 48; refine (isSetOf_any c _ _ hc).mono ?_; rintro e w' ⟨rfl, rfl⟩; rw [hf]))
    go_ret2
    exact ⟨rfl, HB.out⟩
theorem chased_press (R c p L F : Nat) (own : Bool) (w : World) (hs : Sides R c) (hp : R * c = p) (hL : L < 9223372036854775808) (hF : F < 2 ^ c) (hl : inB L 0 (2 ^ p - 1) = true) (hf : inB F 0 (2 ^ c - 1) = true) :
    Calls Try.prog 45 #[.agg #[.int .i64 R, .int .i64 c, .bool own, .int .i64 L], .int .i64 F, .func (.func 46) #[] #[]] w fun e w' => e = .returned (.tuple #[.int .i64 (prs c own L F R : Nat), .bool true]) ∧ Below w.heap.size w w' := by
  have hc := hs.2.2.2.1
  go_enter Try.func45, Try.ntmps45
  go_wp2_with fail
  refine (isOfGrid_ok R c p L own _ hs hp).mono ?_
  rintro e w2 ⟨rfl, hb⟩
  rw [hl]
  have c0 : w2.cell? ⟨w.heap.size, 0, none⟩ = some (.int .i64 R) := (hb.cell (p := ⟨w.heap.size, 0, none⟩) (by simp)).trans (by simp [go_sem])
  have c1 : w2.cell? ⟨w.heap.size, 1, none⟩ = some (.int .i64 c) := (hb.cell (p := ⟨w.heap.size, 1, none⟩) (by simp)).trans (by simp [go_sem])
  have c2 : w2.cell? ⟨w.heap.size, 2, none⟩ = some (.bool own) := (hb.cell (p := ⟨w.heap.size, 2, none⟩) (by simp)).trans (by simp [go_sem])
  have c3 : w2.cell? ⟨w.heap.size, 3, none⟩ = some (.int .i64 L) := (hb.cell (p := ⟨w.heap.size, 3, none⟩) (by simp)).trans (by simp [go_sem])
  have HB := Lib.hid ((by go_grown : Below w.heap.size w _).trans (hb.mono (by simp)))
  have hz := HB.out.size
  clear hb
  go_wp2_with (first | (go_at_call 48; refine (isSetOf_any c _ _ hc).mono ?_; rintro e w' ⟨rfl, rfl⟩; rw [hf]))
  refine (presses_any R c L F own _ hs hL hF).mono ?_
  rintro e w3 ⟨rfl, hb⟩
  have HB3 := Lib.hid (HB.out.trans (hb.mono hz))
  clear hb
  go_wp2
  go_ret2
  exact ⟨rfl, HB3.out⟩
theorem pressImpl_no (r c l f : Int) (own : Bool) (w : World) (h : sidesB r c 1 = false) :
    Calls Try.prog 42 #[.int .i64 r, .int .i64 c, .bool own, .int .i64 l, .int .i64 f] w fun e w' => e = .returned (.tuple #[.int .i64 0, .bool false]) ∧ Below w.heap.size w w' := by
  go_enter Try.func42, Try.ntmps42
  go_wp2_with (go_at_call 45; refine (chased_press_no r c l f own _ h).mono ?_; rintro e w' ⟨rfl, hb⟩)
  go_ret2
  exact ⟨rfl, hb⟩
theorem pressImpl_out (R c p : Nat) (l f : Int) (own : Bool) (w : World) (hs : Sides R c) (hp : R * c = p) (h : (inB l 0 (2 ^ p - 1) && inB f 0 (2 ^ c - 1)) = false) :
    Calls Try.prog 42 #[.int .i64 R, .int .i64 c, .bool own, .int .i64 l, .int .i64 f] w fun e w' => e = .returned (.tuple #[.int .i64 0, .bool false]) ∧ Below w.heap.size w w' := by
  have H := Lib.hid h
  clear h
  go_enter Try.func42, Try.ntmps42
  go_wp2_with (go_at_call 45; refine (chased_press_out R c p l f own _ hs hp H.out).mono ?_; rintro e w' ⟨rfl, hb⟩)
  go_ret2
  exact ⟨rfl, hb⟩
theorem pressImpl_ok (R c p L F : Nat) (own : Bool) (w : World) (hs : Sides R c) (hp : R * c = p) (hL : L < 9223372036854775808) (hF : F < 2 ^ c) (hl : inB L 0 (2 ^ p - 1) = true) (hf : inB F 0 (2 ^ c - 1) = true) :
    Calls Try.prog 42 #[.int .i64 R, .int .i64 c, .bool own, .int .i64 L, .int .i64 F] w fun e w' => e = .returned (.tuple #[.int .i64 (prs c own L F R : Nat), .bool true]) ∧ Below w.heap.size w w' := by
  have H1 := Lib.hid hl
  have H2 := Lib.hid hf
  clear hl hf
  go_enter Try.func42, Try.ntmps42
  go_wp2_with (go_at_call 45; refine (chased_press R c p L F own _ hs hp hL hF H1.out H2.out).mono ?_; rintro e w' ⟨rfl, hb⟩)
  go_ret2
  exact ⟨rfl, hb⟩
theorem chased_left_no (r c l f : Int) (own : Bool) (w : World) (h : sidesB r c 1 = false) :
    Calls Try.prog 45 #[.agg #[.int .i64 r, .int .i64 c, .bool own, .int .i64 l], .int .i64 f, .func (.func 44) #[] #[]] w fun e w' => e = .returned (.tuple #[.int .i64 0, .bool false]) ∧ Below w.heap.size w w' := by
  go_enter Try.func45, Try.ntmps45
  go_wp2_with fail
  refine (isOfGrid_no r c l own _ h).mono ?_
  rintro e w2 ⟨rfl, hb⟩
  have c1 : w2.cell? ⟨w.heap.size, 1, none⟩ = some (.int .i64 c) := (hb.cell (p := ⟨w.heap.size, 1, none⟩) (by simp)).trans (by simp [go_sem])
  have HB := Lib.hid ((by go_grown : Below w.heap.size w _).trans (hb.mono (by simp)))
  clear hb
  go_wp2
  go_ret2
  exact ⟨rfl, HB.out⟩
theorem chased_left_out (R c p : Nat) (l f : Int) (own : Bool) (w : World) (hs : Sides R c) (hp : R * c = p) (h : (inB l 0 (2 ^ p - 1) && inB f 0 (2 ^ c - 1)) = false) :
    Calls Try.prog 45 #[.agg #[.int .i64 R, .int .i64 c, .bool own, .int .i64 l], .int .i64 f, .func (.func 44) #[] #[]] w fun e w' => e = .returned (.tuple #[.int .i64 0, .bool false]) ∧ Below w.heap.size w w' := by
  have hc := hs.2.2.2.1
  cases hl : inB l 0 (2 ^ p - 1)
  · go_enter Try.func45, Try.ntmps45
    go_wp2_with fail
    refine (isOfGrid_ok R c p l own _ hs hp).mono ?_
    rintro e w2 ⟨rfl, hb⟩
    rw [hl]
    have c1 : w2.cell? ⟨w.heap.size, 1, none⟩ = some (.int .i64 c) := (hb.cell (p := ⟨w.heap.size, 1, none⟩) (by simp)).trans (by simp [go_sem])
    have HB := Lib.hid ((by go_grown : Below w.heap.size w _).trans (hb.mono (by simp)))
    clear hb
    go_wp2
    go_ret2
    exact ⟨rfl, HB.out⟩
  · have hf : inB f 0 (2 ^ c - 1) = false := by rw [hl] at h; exact h
    go_enter Try.func45, Try.ntmps45
    go_wp2_with fail
    refine (isOfGrid_ok R c p l own _ hs hp).mono ?_
    rintro e w2 ⟨rfl, hb⟩
    rw [hl]
    have c1 : w2.cell? ⟨w.heap.size, 1, none⟩ = some (.int .i64 c) := (hb.cell (p := ⟨w.heap.size, 1, none⟩) (by simp)).trans (by simp [go_sem])
    have HB := Lib.hid ((by go_grown : Below w.heap.size w _).trans (hb.mono (by simp)))
    clear hb
    go_wp2_with (first | (go_at_call 48; refine (isSetOf_any c _ _ hc).mono ?_; rintro e w' ⟨rfl, rfl⟩; rw [hf]))
    go_ret2
    exact ⟨rfl, HB.out⟩
theorem chased_left (R c p L F : Nat) (own : Bool) (w : World) (hs : Sides R c) (hp : R * c = p) (hL : L < 9223372036854775808) (hF : F < 2 ^ c) (hl : inB L 0 (2 ^ p - 1) = true) (hf : inB F 0 (2 ^ c - 1) = true) :
    Calls Try.prog 45 #[.agg #[.int .i64 R, .int .i64 c, .bool own, .int .i64 L], .int .i64 F, .func (.func 44) #[] #[]] w fun e w' => e = .returned (.tuple #[.int .i64 (prw c own L F R : Nat), .bool true]) ∧ Below w.heap.size w w' := by
  have hc := hs.2.2.2.1
  go_enter Try.func45, Try.ntmps45
  go_wp2_with fail
  refine (isOfGrid_ok R c p L own _ hs hp).mono ?_
  rintro e w2 ⟨rfl, hb⟩
  rw [hl]
  have c0 : w2.cell? ⟨w.heap.size, 0, none⟩ = some (.int .i64 R) := (hb.cell (p := ⟨w.heap.size, 0, none⟩) (by simp)).trans (by simp [go_sem])
  have c1 : w2.cell? ⟨w.heap.size, 1, none⟩ = some (.int .i64 c) := (hb.cell (p := ⟨w.heap.size, 1, none⟩) (by simp)).trans (by simp [go_sem])
  have c2 : w2.cell? ⟨w.heap.size, 2, none⟩ = some (.bool own) := (hb.cell (p := ⟨w.heap.size, 2, none⟩) (by simp)).trans (by simp [go_sem])
  have c3 : w2.cell? ⟨w.heap.size, 3, none⟩ = some (.int .i64 L) := (hb.cell (p := ⟨w.heap.size, 3, none⟩) (by simp)).trans (by simp [go_sem])
  have HB := Lib.hid ((by go_grown : Below w.heap.size w _).trans (hb.mono (by simp)))
  have hz := HB.out.size
  clear hb
  go_wp2_with (first | (go_at_call 48; refine (isSetOf_any c _ _ hc).mono ?_; rintro e w' ⟨rfl, rfl⟩; rw [hf]))
  refine (left_any R c L F own _ hs.2.2.2.1 hL (by have := hs.2.1; omega) hF).mono ?_
  rintro e w3 ⟨rfl, hb⟩
  have HB3 := Lib.hid (HB.out.trans (hb.mono hz))
  clear hb
  go_wp2
  go_ret2
  exact ⟨rfl, HB3.out⟩
end Go.Proofs.Ytmcimfblhpflnaa
