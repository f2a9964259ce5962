import Derived.Test.YtodbhokokdckkaaSU
import Derived.Test.YtodbhokokdckkaaDG
namespace Go.Proofs.Ytodbhokokdckkaa
open Go.RowKit
set_option maxHeartbeats 2000000
theorem sizeOf_any (x : Nat) (w : World) (hx : x < 65536) : Calls Try.prog 100 #[.int .i64 x] w fun e w' => e = .returned (.int .i64 (popN 16 x : Nat)) ∧ w' = w := by
  have hp := ones_pop x hx
  have HP := hide hp
  clear hp
  go_enter Try.func100, Try.ntmps100
  go_wp2_with (go_at_call 117; refine (ones_any _ _ hx).mono ?_; rintro e w3 ⟨rfl, rfl⟩; simp only [HP.out])
  go_ret
  exact ⟨rfl, rfl⟩
/-- Do they meet oddly? -/
def oddB (s t : Nat) : Bool := decide (popN 16 (s &&& t) % 2 = 1)
theorem and16 {s t : Nat} (h : s < 65536) : s &&& t < 65536 := Nat.lt_of_le_of_lt Nat.and_le_left h
theorem mod_yes {p : Nat} (h : p % 2 = 1) : ((p : Int) % 2 == 1) = true := by simp; omega
theorem mod_no {p : Nat} (h : ¬ p % 2 = 1) : ((p : Int) % 2 == 1) = false := by simp; omega
theorem meetOddly_any (s t : Nat) (w : World) (hs : s < 65536) (ht : t < 65536) : Calls Try.prog 95 #[.int .i64 s, .int .i64 t] w fun e w' => e = .returned (.bool (oddB s t)) ∧ w' = w := by
  have hx := and16 (t := t) hs
  have e1 := i64_and_nat s t (by omega) (by omega)
  obtain ⟨p, hp⟩ : ∃ p, popN 16 (s &&& t) = p := ⟨_, rfl⟩
  have hp16 : p ≤ 16 := by rw [← hp]; exact pop_le _ _
  have HP := hide hp
  have HO : Hid (oddB s t = decide (p % 2 = 1)) := hide (by rw [oddB, hp])
  clear hp
  by_cases h : p % 2 = 1
  · have e2 := mod_yes h
    have HH := hide h
    clear h
    go_enter Try.func95, Try.ntmps95
    go_wp2_with (go_at_call 100; refine (sizeOf_any _ _ hx).mono ?_; rintro e w3 ⟨rfl, rfl⟩; simp only [HP.out])
    go_ret
    exact ⟨by rw [HO.out, decide_eq_true HH.out]; rfl, rfl⟩
  · have e2 := mod_no h
    have HH := hide h
    clear h
    go_enter Try.func95, Try.ntmps95
    go_wp2_with (go_at_call 100; refine (sizeOf_any _ _ hx).mono ?_; rintro e w3 ⟨rfl, rfl⟩; simp only [HP.out])
    go_ret
    exact ⟨by rw [HO.out, decide_eq_false HH.out]; rfl, rfl⟩
/-- The first set of a list that meets s oddly. -/
def witV (Q : List Nat) (s : Nat) : Nat := (Q.find? (fun b => oddB b s)).getD 0
def witB (Q : List Nat) (s : Nat) : Bool := (Q.find? (fun b => oddB b s)).isSome
theorem wit_hit {Q : List Nat} {s k : Nat} (h : k < Q.length) (hno : ∀ j, (hj : j < k) → oddB (Q[j]'(by omega)) s = false) (hy : oddB Q[k] s = true) : Q.find? (fun b => oddB b s) = some Q[k] := by
  rw [List.find?_eq_some_iff_getElem]
  exact ⟨hy, k, h, rfl, fun j hj => by simpa using hno j hj⟩
theorem wit_miss {Q : List Nat} {s : Nat} (hno : ∀ j, (hj : j < Q.length) → oddB Q[j] s = false) : Q.find? (fun b => oddB b s) = none := by
  rw [List.find?_eq_none]
  intro x hx
  obtain ⟨j, hj, rfl⟩ := List.getElem_of_mem hx
  simpa using hno j hj
theorem qS_lt16 {T : Nat → Nat} {n : Nat} (hn : n ≤ 16) : ∀ b ∈ (qS T n n).1, b < 65536 := fun b hb =>
  Nat.lt_of_lt_of_le ((inv_at T n n (by omega)).low b hb) (pow16n hn)
end Go.Proofs.Ytodbhokokdckkaa
