import Derived.Test.YtmcimfblhpflnaaRM
namespace Go.Proofs.Ytmcimfblhpflnaa
open Go.RowKit
def NoRes (w : World) (e : Ending) (w' : World) : Prop := e = .returned (.tuple #[.slice none 0 0, .bool false]) ∧ Below w.heap.size w w'
/-- A list and true. -/
def ListOk (w : World) (L : List Nat) (e : Ending) (w' : World) : Prop :=
  ∃ A m d, e = .returned (.tuple #[.slice A m d, .bool true]) ∧ L.length = m ∧ OL w' w.heap.size (.slice A m d) L ∧ Below w.heap.size w w'
theorem nat_eq {a b : Nat} (h : a = b) : ((a : Int) == (b : Int)) = true := by subst h; simp
theorem nat_neq {a b : Nat} (h : a ≠ b) : ((a : Int) == (b : Int)) = false := by simp; omega
theorem nat_eq0 {a : Nat} (h : a = 0) : ((a : Int) == 0) = true := by subst h; rfl
theorem nat_neq0 {a : Nat} (h : a ≠ 0) : ((a : Int) == 0) = false := by simp; omega
theorem nat_bne {a b : Nat} (h : a = b) : ((a : Int) != (b : Int)) = false := by subst h; simp
theorem nat_bneT {a b : Nat} (h : a ≠ b) : ((a : Int) != (b : Int)) = true := by simp; omega
theorem nat_bne0 {a : Nat} (h : a = 0) : ((a : Int) != 0) = false := by subst h; rfl
theorem nat_bne0T {a : Nat} (h : a ≠ 0) : ((a : Int) != 0) = true := by simp; omega
end Go.Proofs.Ytmcimfblhpflnaa
