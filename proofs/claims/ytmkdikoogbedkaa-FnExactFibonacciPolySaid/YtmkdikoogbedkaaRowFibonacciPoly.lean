/-
FibonacciPoly answers as its model at every number. No condition.
-/
import Derived.Test.YtmkdikoogbedkaaTQ
import Derived.Test.YtmkdikoogbedkaaP
import Derived.Test.YtmkdikoogbedkaaQ1
namespace Go.Proofs.Ytmkdikoogbedkaa
open Go.ChangeShapes Go.WideShapes Go.ChangeAt Go.RowKit
set_option maxRecDepth 100000 in
theorem fibonacciPoly_lifted (os : Os) (started : os.Started) (H : Type) (enc : TypeId × Value → H) :
    ReturnsInHanded {} Try.checked os 12 .any (Rows.fnExactFibonacciPolySpec.pre6 enc Try.prog Try.f12 Rows.fnExactFibonacciPolyRow.domain false) (Rows.fnExactFibonacciPolySpec.post enc Try.prog Try.f12 false true false false) := by
  refine returnsInHanded_of_change (C := Try.checked) Try.own started (by kernel_rfl) Try.func12
    (ChangeSpec.witness6 (enc := enc) (C := Try.checked) false ⟨#[], #[.int .i64 0], []⟩ 8 (by kernel_rfl) (by kernel_rfl) (by kernel_rfl) (by kernel_rfl)) ?_
  intro W base args ds gs before hval0 hW hcnd _
  have hval : ∀ (j : Nat) t v, Try.f12.params[j]? = some t → args[j]? = some v → Value.okWide Try.prog W .any base t v := hval0
  have hW' := hW
  obtain ⟨p, q, hA0, hV, rfl, hfz, hnd⟩ := hW
  have hA : DataW.TrodAll enc Try.prog W 0 (fun _ => true) true Try.f12.params.toList args.toList ds p := hA0
  rw [Try.params12] at hA hval
  obtain ⟨v0, d0, rfl, rfl, h0⟩ := trodAll_one hA
  obtain ⟨rfl, rfl⟩ := trodVars_none hV
  obtain ⟨a0, rfl, rfl, rfl, wa0⟩ := open_int Try.underlying3 (hval 0 3 v0 rfl rfl) h0
  clear hA0 hval0
  simp only [List.append_nil] at hW'
  refine (lawFibonacci a0 W).mono fun e W' ⟨he, hb⟩ => ?_
  subst he
  exact ⟨_, rfl, post_of_below (pa := []) (pv := []) hW' (fun _ _ _ => trodAll_mk1 (shut_bool Try.underlying4 true))
    (fun sp hsp => trodAll_mk1 (shut_int Try.underlying3 wa0)) (fun _ _ => rfl) (by simp) hb
    (ok_one (by kernel_rfl) rfl (okWide_bool_mk Try.underlying4 true))⟩
theorem fibonacciPoly_k0 : (Rows.fnExactFibonacciPolyRow.wf (OpenSpec.ofChange Rows.fnExactFibonacciPolySpec)) = true := by kernel_rfl
theorem fibonacciPoly_k1 : (laidOutB Try.pinned.checked.prog) = true := by kernel_rfl
theorem fibonacciPoly_k2 : (mapsRowed Try.pinned.checked.prog) = true := by kernel_rfl
theorem fibonacciPoly_k3 : (Try.f12.params.all (Try.pinned.checked.prog.readableRec ·)) = true := by kernel_rfl
theorem fibonacciPoly_k4 : (namedTie Try.pinned.checked.prog Rows.fnExactFibonacciPolyRow.named Rows.fnExactFibonacciPolySpec.vars) = true := by kernel_rfl
theorem fibonacciPoly_k5 : ((Rows.fnExactFibonacciPolyRow.stops == [])) = true := by kernel_rfl
theorem fibonacciPoly_k6 : ((Try.pinned.checked.prog.stops == [])) = true := by kernel_rfl
theorem fibonacciPoly_k7 : ((Rows.fnExactFibonacciPolyRow.knobs == [])) = true := by kernel_rfl
theorem fibonacciPoly_k8 : ((Try.pinned.checked.prog.stopKnobs == [])) = true := by kernel_rfl
theorem fibonacciPoly_k9 : ((Rows.fnExactFibonacciPolyRow.inPlace == Try.pinned.checked.prog.inPlace 12)) = true := by kernel_rfl
theorem fibonacciPoly_k10 : ((Rows.fnExactFibonacciPolyRow.unfollowed == Try.pinned.checked.prog.unfollowed 12)) = true := by kernel_rfl
theorem fibonacciPoly_k11 : ((Rows.fnExactFibonacciPolyRow.recurses == Try.pinned.checked.prog.recurses 12)) = true := by kernel_rfl
theorem fibonacciPoly_k12 : ((Rows.fnExactFibonacciPolyRow.named == Try.pinned.checked.prog.varsNamed 12)) = true := by kernel_rfl
theorem fibonacciPoly_k13 : ((Rows.fnExactFibonacciPolyRow.maps == (Try.f12.params.toList ++ Rows.fnExactFibonacciPolySpec.plain.varTypes Try.pinned.checked.prog).any (Try.pinned.checked.prog.mapsRec ·))) = true := by kernel_rfl
theorem fibonacciPoly_k14 : ((Rows.fnExactFibonacciPolyRow.ifaces == (Try.f12.params.toList ++ Rows.fnExactFibonacciPolySpec.plain.varTypes Try.pinned.checked.prog).any (Try.pinned.checked.prog.ifacesRec ·))) = true := by kernel_rfl
theorem fibonacciPoly_k15 : ((Rows.fnExactFibonacciPolyRow.mapsOut == Try.pinned.checked.prog.mapsAmong Try.f12.resultTypes.toList)) = true := by kernel_rfl
theorem fibonacciPoly_k16 : ((Rows.fnExactFibonacciPolyRow.loops == (Try.f12.params.toList ++ Rows.fnExactFibonacciPolySpec.plain.varTypes Try.pinned.checked.prog).any (Try.pinned.checked.prog.loopsFrom ·))) = true := by kernel_rfl
theorem fibonacciPoly_k17 : ((Rows.fnExactFibonacciPolyRow.wideKeys == (Try.f12.params.toList ++ Rows.fnExactFibonacciPolySpec.plain.varTypes Try.pinned.checked.prog ++ Try.f12.resultTypes.toList).any (Try.pinned.checked.prog.wideKeysFrom ·))) = true := by kernel_rfl
theorem fibonacciPoly_k18 : (Rows.fnExactFibonacciPolySpec.vars.all (Try.pinned.checked.prog.varReadable ·)) = true := by kernel_rfl
theorem fibonacciPoly_k19 : (Try.f12.resultTypes.all (fun t => Try.pinned.checked.prog.readableRec t && decide (t < Try.pinned.checked.prog.types.size))) = true := by kernel_rfl
theorem fibonacciPoly_k20 : ((Rows.fnExactFibonacciPolyRow.ifacesOut == Try.f12.resultTypes.toList.any (Try.pinned.checked.prog.ifacesRec ·))) = true := by kernel_rfl
theorem fibonacciPoly_k21 : ((Rows.fnExactFibonacciPolyRow.loopsOut == Try.f12.resultTypes.toList.any (Try.pinned.checked.prog.loopsFrom ·))) = true := by kernel_rfl
theorem fibonacciPoly_k22 : ((Rows.fnExactFibonacciPolyRow.plainKeys == Try.pinned.checked.prog.plainKeys)) = true := by kernel_rfl
theorem fibonacciPoly_k23 : (Rows.fnExactFibonacciPolyRow.shortTexts.isNone) = true := by kernel_rfl
theorem fibonacciPoly_k24 : (Try.pinned.checked.prog.stopsHeard) = true := by kernel_rfl
theorem fibonacciPoly_k25 : (Try.pinned.checked.prog.mayEnter) = true := x_enter
theorem fibonacciPoly_k26 : ((Rows.fnExactFibonacciPolyRow.lifted == Try.pinned.checked.prog.liftsFinal)) = true := by rw [x_lifts]; rfl
theorem fibonacciPoly_k27 : ((Try.pinned.checked.prog.make == some Rows.fnExactFibonacciPolyRow.make)) = true := by rw [x_make]; rfl
theorem fibonacciPoly_k28 : ((Rows.fnExactFibonacciPolyRow.kinds == (if Rows.fnExactFibonacciPolyRow.domain.isEmpty then [] else Try.f12.params.toList.map fun t => match Try.pinned.checked.prog.underlying t with | some (.int k) => some k | _ => none))) = true := by kernel_rfl
theorem fibonacciPoly_k29 : ((Rows.fnExactFibonacciPolyRow.pinned == Rows.fnExactFibonacciPolyRow.pinnedBy)) = true := by kernel_rfl
theorem fibonacciPoly_k30 : ((Rows.fnExactFibonacciPolyRow.veiled == (Try.f12.params.toList ++ Rows.fnExactFibonacciPolySpec.plain.varTypes Try.pinned.checked.prog ++ Try.f12.resultTypes.toList).any (Try.pinned.checked.prog.veiledRec ·))) = true := by kernel_rfl
theorem fibonacciPoly_k31 : (Rows.fnExactFibonacciPolyRow.veiledFits Try.pinned.checked.prog Try.f12.params.toList (Try.f12.params.toList ++ Rows.fnExactFibonacciPolySpec.plain.varTypes Try.pinned.checked.prog ++ Try.f12.resultTypes.toList)) = true := by kernel_rfl
theorem fibonacciPoly_pkg : decide (Check.packageOf Try.f12.name = "main") = false := by kernel_rfl
theorem fibonacciPoly_inst : Func.isInstance Try.pinned.checked.prog Try.f12 Rows.fnExactFibonacciPolyRow.origin Rows.fnExactFibonacciPolyRow.targs := of_decide_eq_true (by kernel_rfl)
theorem fibonacciPoly_wrap : Func.isWrapper Try.pinned.checked.prog Try.f12 Rows.fnExactFibonacciPolyRow.wrapper Rows.fnExactFibonacciPolyRow.mainSum := by
  unfold Func.isWrapper; rw [if_neg (of_decide_eq_false fibonacciPoly_pkg)]; exact ⟨rfl, rfl⟩
set_option maxRecDepth 100000 in
theorem fibonacciPoly_closed : joinedFacts Try.pinned.checked.prog 12 Try.f12 Rows.fnExactFibonacciPolySpec Rows.fnExactFibonacciPolyRow = true :=
  (and_of (and_of (and_of (and_of (and_of (and_of (and_of (and_of (and_of (and_of (and_of (and_of (and_of (and_of (and_of (and_of (and_of (and_of (and_of (and_of (and_of (and_of (and_of (and_of (and_of (and_of (and_of (and_of (and_of (and_of (and_of fibonacciPoly_k0 fibonacciPoly_k1) fibonacciPoly_k2) fibonacciPoly_k3) fibonacciPoly_k4) fibonacciPoly_k5) fibonacciPoly_k6) fibonacciPoly_k7) fibonacciPoly_k8) fibonacciPoly_k9) fibonacciPoly_k10) fibonacciPoly_k11) fibonacciPoly_k12) fibonacciPoly_k13) fibonacciPoly_k14) fibonacciPoly_k15) fibonacciPoly_k16) fibonacciPoly_k17) fibonacciPoly_k18) fibonacciPoly_k19) fibonacciPoly_k20) fibonacciPoly_k21) fibonacciPoly_k22) fibonacciPoly_k23) fibonacciPoly_k24) fibonacciPoly_k25) fibonacciPoly_k26) fibonacciPoly_k27) fibonacciPoly_k28) fibonacciPoly_k29) fibonacciPoly_k30) fibonacciPoly_k31)
theorem fibonacciPoly_holds : Rows.FnExactFibonacciPolySaid :=
  OpenClaim.holds_of_wide 12 Try.f12 rfl rfl rfl rfl rfl rfl rfl ⟨rfl, rfl, rfl, rfl, rfl⟩ rfl rfl rfl rfl rfl (by kernel_rfl) Try.func12 fibonacciPoly_closed
    fibonacciPoly_inst fibonacciPoly_wrap (fun os started H enc _ => fibonacciPoly_lifted os started H enc)
end Go.Proofs.Ytmkdikoogbedkaa
