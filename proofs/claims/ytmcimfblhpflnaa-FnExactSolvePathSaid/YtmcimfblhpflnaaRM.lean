import Derived.Test.YtmcimfblhpflnaaRG
namespace Go.Proofs.Ytmcimfblhpflnaa
open Go.RowKit
set_option maxHeartbeats 2000000
/-- The first rows below n that leave no lights. -/
def fls (c : Nat) (own : Bool) (l R n : Nat) : List Nat := (List.range n).filter (fun f => decide (prw c own l f R = 0))
theorem fls_succ (c : Nat) (own : Bool) (l R n : Nat) : fls c own l R (n + 1) = fls c own l R n ++ (if prw c own l n R = 0 then [n] else []) := by
  unfold fls
  rw [List.range_succ, List.filter_append]
  by_cases h : prw c own l n R = 0 <;> simp [h]
theorem fls_len (c : Nat) (own : Bool) (l R n : Nat) : (fls c own l R n).length ≤ n := by
  have h := List.length_filter_le (fun f => decide (prw c own l f R = 0)) (List.range n)
  rw [List.length_range] at h
  exact h
theorem fls_lt {c : Nat} {own : Bool} {l R n f : Nat} (h : f ∈ fls c own l R n) : f < n := by
  simp [fls] at h; exact h.1
end Go.Proofs.Ytmcimfblhpflnaa
