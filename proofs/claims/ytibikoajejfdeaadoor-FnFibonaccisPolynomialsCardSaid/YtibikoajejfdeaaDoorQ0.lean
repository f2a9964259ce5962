/-
The words of the translation's head, and the facts that lean on them.
-/
import Derived.Test.YtibikoajejfdeaaDoorRows
import Derived.JoinedOf
namespace Go.Proofs.YtibikoajejfdeaaDoor
set_option maxRecDepth 100000
theorem ws_step (c : Char) (l : List Char) (h : c ≠ Char.ofNat 32) : wordsSigns (c :: l) = match wordsSigns l with | w :: ws => (c :: w) :: ws | [] => [[c]] := by
  have h2 : c ≠ ' ' := h
  rw [wordsSigns]
  · rfl
  · exact fun e => h2 e
theorem ws_ne (l : List Char) : ∃ w ws, wordsSigns l = w :: ws := by
  induction l with
  | nil => exact ⟨_, _, rfl⟩
  | cons c l ih =>
    obtain ⟨w, ws, h⟩ := ih
    by_cases hc : c = Char.ofNat 32
    · subst hc; exact ⟨_, _, rfl⟩
    · rw [ws_step c l hc, h]; exact ⟨_, _, rfl⟩
theorem ws_word (w r : List Char) (h : (w.all fun c => decide (c ≠ Char.ofNat 32)) = true) : wordsSigns (w ++ Char.ofNat 32 :: r) = w :: wordsSigns r := by
  induction w with
  | nil => rfl
  | cons c w ih =>
    simp only [List.all_cons, Bool.and_eq_true, decide_eq_true_eq] at h
    rw [List.cons_append, ws_step c _ h.1, ih h.2]
def wA : List Char := [Char.ofNat 104, Char.ofNat 97, Char.ofNat 114, Char.ofNat 110, Char.ofNat 101, Char.ofNat 115, Char.ofNat 115]
def wB : List Char := [Char.ofNat 50, Char.ofNat 51, Char.ofNat 50, Char.ofNat 101, Char.ofNat 97, Char.ofNat 55, Char.ofNat 57, Char.ofNat 102, Char.ofNat 55, Char.ofNat 54, Char.ofNat 55, Char.ofNat 54, Char.ofNat 49, Char.ofNat 49, Char.ofNat 97, Char.ofNat 57, Char.ofNat 101, Char.ofNat 50, Char.ofNat 57, Char.ofNat 50, Char.ofNat 98, Char.ofNat 52, Char.ofNat 55, Char.ofNat 53, Char.ofNat 55, Char.ofNat 57, Char.ofNat 49, Char.ofNat 51, Char.ofNat 102, Char.ofNat 56, Char.ofNat 55, Char.ofNat 48, Char.ofNat 98, Char.ofNat 55, Char.ofNat 57, Char.ofNat 54, Char.ofNat 54, Char.ofNat 57, Char.ofNat 50, Char.ofNat 50, Char.ofNat 99, Char.ofNat 99, Char.ofNat 53, Char.ofNat 56, Char.ofNat 98, Char.ofNat 98, Char.ofNat 51, Char.ofNat 100, Char.ofNat 56, Char.ofNat 100, Char.ofNat 97, Char.ofNat 50, Char.ofNat 50, Char.ofNat 50, Char.ofNat 49, Char.ofNat 102, Char.ofNat 49, Char.ofNat 97, Char.ofNat 56, Char.ofNat 102, Char.ofNat 100, Char.ofNat 57, Char.ofNat 52, Char.ofNat 102]
def wC : List Char := [Char.ofNat 99, Char.ofNat 117, Char.ofNat 116]
def wR : List Char := [Char.ofNat 97, Char.ofNat 116, Char.ofNat 32, Char.ofNat 108, Char.ofNat 111, Char.ofNat 111, Char.ofNat 112, Char.ofNat 46, Char.ofNat 101, Char.ofNat 120, Char.ofNat 97, Char.ofNat 109, Char.ofNat 112, Char.ofNat 108, Char.ofNat 101, Char.ofNat 47, Char.ofNat 103, Char.ofNat 48, Char.ofNat 49, Char.ofNat 49, Char.ofNat 52, Char.ofNat 54, Char.ofNat 47, Char.ofNat 108, Char.ofNat 97, Char.ofNat 119, Char.ofNat 115, Char.ofNat 46, Char.ofNat 70, Char.ofNat 110, Char.ofNat 70, Char.ofNat 105, Char.ofNat 98, Char.ofNat 111, Char.ofNat 110, Char.ofNat 97, Char.ofNat 99, Char.ofNat 99, Char.ofNat 105, Char.ofNat 115, Char.ofNat 80, Char.ofNat 111, Char.ofNat 108, Char.ofNat 121, Char.ofNat 110, Char.ofNat 111, Char.ofNat 109, Char.ofNat 105, Char.ofNat 97, Char.ofNat 108, Char.ofNat 115]
theorem init_is : Tryd.pinned.checked.prog.initOrder = String.ofList (wA ++ Char.ofNat 32 :: (wB ++ Char.ofNat 32 :: (wC ++ Char.ofNat 32 :: wR))) := by kernel_rfl
theorem init_chars : Tryd.pinned.checked.prog.initOrder.toList = wA ++ Char.ofNat 32 :: (wB ++ Char.ofNat 32 :: (wC ++ Char.ofNat 32 :: wR)) := by
  rw [init_is]; exact String.toList_ofList
theorem init_words : wordsSigns Tryd.pinned.checked.prog.initOrder.toList = wA :: wB :: wC :: wordsSigns wR := by
  rw [init_chars, ws_word wA _ (by kernel_rfl), ws_word wB _ (by kernel_rfl), ws_word wC _ (by kernel_rfl)]
theorem behind_words (X : List (List Char)) : behindMainWord (wA :: wB :: wC :: X) = wC :: X := by
  have h : ((wA == "harness".toList || wA == "ownmain".toList) && isSumSigns wB) = true := by kernel_rfl
  show (if ((wA == "harness".toList || wA == "ownmain".toList) && isSumSigns wB) = true then wC :: X else wA :: wB :: wC :: X) = _
  rw [if_pos h]
theorem behind : behindMainWord (wordsSigns Tryd.pinned.checked.prog.initOrder.toList) = wC :: wordsSigns wR := by rw [init_words, behind_words]
theorem strip_words (X : List (List Char)) : stripLifts liftWords (wC :: X) = ([], wC :: X) := by
  have h : (liftWords.all fun o => !(wC == o.toList)) = true := by kernel_rfl
  revert h
  generalize liftWords = L
  intro h
  induction L with
  | nil => rfl
  | cons o os ih =>
    simp only [List.all_cons, Bool.and_eq_true, Bool.not_eq_true'] at h
    rw [stripLifts, h.1]
    exact ih h.2
theorem head_lifts : Tryd.pinned.checked.prog.headLifts = [] := by
  unfold Program.headLifts
  rw [behind, strip_words]
  generalize wordsSigns wR = X
  show (if ((wC :: X).head? == some "cut".toList) = true then ([] : List String) else []) = []
  split <;> rfl
theorem x_lifts : Tryd.pinned.checked.prog.liftsFinal = false := by
  have h : (wC == "carried".toList) = false := by kernel_rfl
  unfold Program.liftsFinal
  rw [behind, head_lifts]
  generalize wordsSigns wR = X
  simp only [List.head?_cons, List.contains_nil, Bool.or_false]
  have h2 : (some wC == some "carried".toList) = (wC == "carried".toList) := rfl
  rw [h2, h]; rfl
theorem x_later : Tryd.pinned.checked.prog.laysLater = false := by kernel_rfl
theorem x_refl : Tryd.pinned.checked.prog.bearsReflect = false := by kernel_rfl
theorem x_door : Tryd.pinned.checked.prog.doorFits [] = true := by kernel_rfl
end Go.Proofs.YtibikoajejfdeaaDoor
