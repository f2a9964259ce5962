import Derived.Test.YtibikoajejfdeaaDoorQ0
namespace Go.Proofs.YtibikoajejfdeaaDoor
theorem and_of {a b : Bool} (ha : a = true) (hb : b = true) : (a && b) = true := by rw [ha, hb]; rfl
theorem make_of (P : Program) (X : List (List Char)) (h : behindMainWord (wordsSigns P.initOrder.toList) = wC :: X) : P.make = some Make.cut := by
  have h1 : (wC == "gc".toList || wC == "spec".toList) = false := by kernel_rfl
  have h2 : (wC == "cut".toList) = true := by kernel_rfl
  unfold Program.make
  rw [h]
  simp only [h1, h2, Bool.false_eq_true, if_false, Bool.true_or, if_true]
theorem enter_of (P : Program) (X : List (List Char)) (h : behindMainWord (wordsSigns P.initOrder.toList) = wC :: X) (h1 : P.laysLater = false) (h2 : P.bearsReflect = false) (h3 : P.doorFits [] = true) : P.mayEnter = true := by
  have h4 : (wC == "cut".toList) = true := by kernel_rfl
  unfold Program.mayEnter
  rw [h]
  simp only [strip_words, h1, h2, h3, List.head?_cons, Bool.not_false, Bool.or_true, Bool.and_true, List.contains_nil]
  have h5 : (some wC == some "cut".toList) = (wC == "cut".toList) := rfl
  rw [h5, h4]
  simp
theorem x_make : Tryd.pinned.checked.prog.make = some Make.cut := make_of _ _ behind
theorem x_enter : Tryd.pinned.checked.prog.mayEnter = true := enter_of _ _ behind x_later x_refl x_door
end Go.Proofs.YtibikoajejfdeaaDoor
