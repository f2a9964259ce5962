/-
What calls leave that hand back a list, and small contracts of the laws over lists.
-/
import Derived.Test.YtibikoajejfdeaaSB
import Derived.Test.YtibikoajejfdeaaH
import Derived.Test.YtibikoajejfdeaaC
namespace Go.Proofs.Ytibikoajejfdeaa
open Go.RowKit
set_option maxHeartbeats 1000000
/-- What a call leaves that hands back a list of m > 0 elements, an empty one, or none. -/
def ArrRes (w : World) (m : Nat) (F : Nat → Int) (e : Ending) (w' : World) : Prop :=
  ∃ g d, e = .returned (.tuple #[.slice (some ⟨g, 0, none⟩) m d, .bool true]) ∧ w.heap.size ≤ g ∧ Arr w' 3 g m (iv F) ∧ Below w.heap.size w w'
def NilRes (w : World) (e : Ending) (w' : World) : Prop := ∃ A d, e = .returned (.tuple #[.slice A 0 d, .bool true]) ∧ Below w.heap.size w w'
def NoRes (w : World) (e : Ending) (w' : World) : Prop := e = .returned (.tuple #[.slice none 0 0, .bool false]) ∧ Below w.heap.size w w'
/-- A list and true. -/
def ListOk (w : World) (L : List Nat) (e : Ending) (w' : World) : Prop :=
  ∃ A m d, e = .returned (.tuple #[.slice A m d, .bool true]) ∧ L.length = m ∧ OL w' w.heap.size (.slice A m d) L ∧ Below w.heap.size w w'
/-- The elements of a list, as a function of the index. -/
def ln (L : List Nat) : Nat → Int := fun k => ((L.getD k 0 : Nat) : Int)
theorem ListOk.arr {w : World} {L : List Nat} {m : Nat} (hL : L.length = m) (hm : 0 < m) {e : Ending} {w' : World} (h : ListOk w L e w') : ArrRes w m (ln L) e w' := by
  obtain ⟨A, m', d, rfl, hm', ho, hb⟩ := h
  have e1 : m' = m := by omega
  subst e1
  subst hm'
  obtain ⟨h0, h | ⟨g, cap, cur, h1, h2, h3, h4, h5, h6, h7⟩⟩ := ho
  · omega
  · injection h1 with a b e
    subst a e
    refine ⟨g, d, rfl, h2, ⟨cur, h3, by omega, fun k hk => ?_⟩, hb⟩
    have h8 : (cur.toList.take (L.length * 1))[k]? = (rowL L.length (lv L))[k]? := by rw [h7, vl_row]
    rw [rowL_get _ _ _ hk, List.getElem?_take_of_lt (by omega)] at h8
    have h9 : cur[k]? = some (lv L k) := by simpa using h8
    exact h9
theorem ListOk.nil {w : World} {L : List Nat} (hL : L.length = 0) {e : Ending} {w' : World} (h : ListOk w L e w') : NilRes w e w' := by
  obtain ⟨A, m', d, rfl, hm', ho, hb⟩ := h
  have e1 : m' = 0 := by omega
  subst e1
  exact ⟨A, d, rfl, hb⟩
end Go.Proofs.Ytibikoajejfdeaa
