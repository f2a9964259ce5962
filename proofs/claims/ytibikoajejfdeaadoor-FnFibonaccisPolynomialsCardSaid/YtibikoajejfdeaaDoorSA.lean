import Derived.Test.YtibikoajejfdeaaDoorLA
import Derived.Test.YtibikoajejfdeaaDoorU
import Derived.Test.YtibikoajejfdeaaDoorMB
namespace Go.Proofs.YtibikoajejfdeaaDoor
open Go.RowKit
set_option maxHeartbeats 400000
/-- The cells of a list of sets. -/
def lv (L : List Nat) : Nat → Value := fun k => .int .i64 (L.getD k 0 : Nat)
theorem lv_get {L : List Nat} {k : Nat} (h : k < L.length) : lv L k = .int .i64 (L[k] : Nat) := by
  simp [lv, h]
def M40 (L : List Nat) : Prop := ∀ b ∈ L, b < 1099511627776
def NZ (L : List Nat) : Prop := ∀ b ∈ L, b ≠ 0
theorem p40 : (2 : Nat) ^ 40 = 1099511627776 := rfl
theorem log40 {b : Nat} (h0 : b ≠ 0) (h : b < 1099511627776) : b.log2 < 40 := (Nat.log2_lt h0).2 h
theorem stp40 {a b : Nat} (ha : a < 1099511627776) (hb : b < 1099511627776) : stp a b < 1099511627776 := stp_lt (n := 40) ha hb
theorem rdr40 {L : List Nat} {s : Nat} (hL : M40 L) (hs : s < 1099511627776) : rdr L s < 1099511627776 := by
  induction L with
  | nil => exact hs
  | cons b L ih => exact stp40 (ih (fun c hc => hL c (by simp [hc]))) (hL b (by simp))
theorem rd40 {L : List Nat} {s : Nat} (hL : M40 L) (hs : s < 1099511627776) : rd L s < 1099511627776 := by
  induction L generalizing s with
  | nil => exact hs
  | cons b L ih => exact ih (fun c hc => hL c (by simp [hc])) (stp40 hs (hL b (by simp)))
theorem ret_int {k : IntKind} {a b : Int} (h : a = b) : Ending.returned (.int k a) = .returned (.int k b) := by rw [h]
end Go.Proofs.YtibikoajejfdeaaDoor
