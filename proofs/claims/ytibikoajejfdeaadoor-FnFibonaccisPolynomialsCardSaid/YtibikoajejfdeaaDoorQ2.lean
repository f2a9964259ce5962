import Derived.Test.YtibikoajejfdeaaDoorEA0
import Derived.Test.YtibikoajejfdeaaDoorP
import Derived.LaidMore
import Derived.OpenShut
import Derived.Stop.Joined
namespace Go.Proofs.YtibikoajejfdeaaDoor
open Go.ChangeShapes Go.WideShapes Go.ChangeAt Go.WideElems Go.RowKit
/-- What the two listed variables hold. -/
def laidL : List (String × DataW Unit) := [("math/bits.deBruijn32tab", Rows.laid_math_bits_deBruijn32tab), ("math/bits.deBruijn64tab", Rows.laid_math_bits_deBruijn64tab)]
set_option maxRecDepth 100000
theorem g64 : Tryd.prog.globalNamed "math/bits.deBruijn64tab" = some 1 := by kernel_rfl
theorem t64 : (Tryd.prog.globals[1]?).map (·.type) = some 57 := by kernel_rfl
theorem d64 : (Rows.laid_math_bits_deBruijn64tab : DataW Unit) = .agg (Lib.deBruijn64tab.map fun k => .lit (.int .u8 (k : Nat))) := by kernel_rfl
theorem l64 : Lib.deBruijn64tab.length = 64 := by kernel_rfl
theorem cells5 : Tryd.prog.cellsOf 5 = 1 := by kernel_rfl
theorem door_met (os : Os) (args : Array Value) : laidMetH Tryd.prog laidL ((World.doorLaid Tryd.prog @400 os).forCall (fun _ _ => 0) ⟨#[], args, []⟩).memory :=
  laidMetH_of_parts3 (fuel := 8) (laidMet_of_run' 8 (by kernel_rfl) (by kernel_rfl)) (by kernel_rfl) (by kernel_rfl)
theorem tab_of_laid {W : World} (h : laidMetH Tryd.prog laidL W) : Tab W := by
  rw [MakeChecks.laidMetH_plain _ _ _ (by kernel_rfl)] at h
  obtain ⟨ps, ⟨g0, t0, cs0, f0, p0, q0, hg0, ht0, hv0, hd0, ⟨g1, t1, cs1, f1, p1, q1, hg1, ht1, hv1, hd1, _, _⟩, _⟩, _, _⟩ := h
  obtain rfl := Option.some.inj (g64.symm.trans hg1)
  obtain rfl := Option.some.inj (t64.symm.trans ht1)
  obtain ⟨xs, m1, rfl, hx1, hlen, hn3, hel⟩ := DataW.trod_array Tryd.underlying57 hd1
  intro j hj
  rw [l64] at hj
  have h0 := hel j hj
  have hj2 : j < xs.length := by omega
  rw [List.getElem?_eq_getElem hj2] at h0
  obtain ⟨k, e1, e2, _⟩ := DataW.trod_int Tryd.underlying5 h0
  rw [cells5, Nat.mul_one] at e1
  have e3 : (Lib.deBruijn64tab.map fun k => (DataW.lit (.int .u8 (k : Nat)) : DataW Unit)) = xs.map (·.1) := by
    have := congrArg Prod.fst hx1
    rw [d64] at this
    injection this
  have e4 := congrArg (fun l => l[j]?) e3
  simp only [List.getElem?_map, List.getElem?_eq_getElem hj2, List.getElem?_eq_getElem (show j < Lib.deBruijn64tab.length by rw [l64]; exact hj), Option.map_some, e2] at e4
  have hk : k = (Lib.deBruijn64tab.getD j 0 : Nat) := by
    rw [List.getD_eq_getElem?_getD, List.getElem?_eq_getElem (show j < Lib.deBruijn64tab.length by rw [l64]; exact hj)]
    injection e4 with e4
    injection e4 with e4
    injection e4 with e4 e5
    exact e5.symm
  have hc := World.var?_cell hg1 hv1 j
  show W.cell? ⟨1, j, none⟩ = _
  rw [hc, ← hk]
  have e6 := congrArg (fun l => l[0]?) e1
  simp only [List.getElem?_take, List.getElem?_drop] at e6
  simpa using e6
end Go.Proofs.YtibikoajejfdeaaDoor
