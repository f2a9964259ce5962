/-
DerivativeOf answers as its model at every number. No condition.
-/
import Derived.Test.YtmkdikoogbedkaaTH
import Derived.Test.YtmkdikoogbedkaaP
import Derived.Test.YtmkdikoogbedkaaQ1
namespace Go.Proofs.Ytmkdikoogbedkaa
open Go.ChangeShapes Go.WideShapes Go.ChangeAt Go.RowKit
set_option maxRecDepth 100000 in
theorem derivativeOf_lifted (os : Os) (started : os.Started) (H : Type) (enc : TypeId × Value → H) :
    ReturnsInHanded {} Try.checked os 8 .any (Rows.fnExactDerivativeOfSpec.pre6 enc Try.prog Try.f8 Rows.fnExactDerivativeOfRow.domain false) (Rows.fnExactDerivativeOfSpec.post enc Try.prog Try.f8 false true false false) := by
  refine returnsInHanded_of_change (C := Try.checked) Try.own started (by kernel_rfl) Try.func8
    (ChangeSpec.witness6 (enc := enc) (C := Try.checked) false ⟨#[], #[.int .i64 0], []⟩ 8 (by kernel_rfl) (by kernel_rfl) (by kernel_rfl) (by kernel_rfl)) ?_
  intro W base args ds gs before hval0 hW hcnd _
  have hval : ∀ (j : Nat) t v, Try.f8.params[j]? = some t → args[j]? = some v → Value.okWide Try.prog W .any base t v := hval0
  have hW' := hW
  obtain ⟨p, q, hA0, hV, rfl, hfz, hnd⟩ := hW
  have hA : DataW.TrodAll enc Try.prog W 0 (fun _ => true) true Try.f8.params.toList args.toList ds p := hA0
  rw [Try.params8] at hA hval
  obtain ⟨v0, d0, rfl, rfl, h0⟩ := trodAll_one hA
  obtain ⟨rfl, rfl⟩ := trodVars_none hV
  obtain ⟨a0, rfl, rfl, rfl, wa0⟩ := open_int Try.underlying3 (hval 0 3 v0 rfl rfl) h0
  clear hA0 hval0
  simp only [List.append_nil] at hW'
  refine (lawDerivative a0 W).mono fun e W' ⟨he, hb⟩ => ?_
  subst he
  exact ⟨_, rfl, post_of_below (pa := []) (pv := []) hW' (fun _ _ _ => trodAll_mk1 (shut_bool Try.underlying4 true))
    (fun sp hsp => trodAll_mk1 (shut_int Try.underlying3 wa0)) (fun _ _ => rfl) (by simp) hb
    (ok_one (by kernel_rfl) rfl (okWide_bool_mk Try.underlying4 true))⟩
theorem derivativeOf_k0 : (Rows.fnExactDerivativeOfRow.wf (OpenSpec.ofChange Rows.fnExactDerivativeOfSpec)) = true := by kernel_rfl
theorem derivativeOf_k1 : (laidOutB Try.pinned.checked.prog) = true := by kernel_rfl
theorem derivativeOf_k2 : (mapsRowed Try.pinned.checked.prog) = true := by kernel_rfl
theorem derivativeOf_k3 : (Try.f8.params.all (Try.pinned.checked.prog.readableRec ·)) = true := by kernel_rfl
theorem derivativeOf_k4 : (namedTie Try.pinned.checked.prog Rows.fnExactDerivativeOfRow.named Rows.fnExactDerivativeOfSpec.vars) = true := by kernel_rfl
theorem derivativeOf_k5 : ((Rows.fnExactDerivativeOfRow.stops == [])) = true := by kernel_rfl
theorem derivativeOf_k6 : ((Try.pinned.checked.prog.stops == [])) = true := by kernel_rfl
theorem derivativeOf_k7 : ((Rows.fnExactDerivativeOfRow.knobs == [])) = true := by kernel_rfl
theorem derivativeOf_k8 : ((Try.pinned.checked.prog.stopKnobs == [])) = true := by kernel_rfl
theorem derivativeOf_k9 : ((Rows.fnExactDerivativeOfRow.inPlace == Try.pinned.checked.prog.inPlace 8)) = true := by kernel_rfl
theorem derivativeOf_k10 : ((Rows.fnExactDerivativeOfRow.unfollowed == Try.pinned.checked.prog.unfollowed 8)) = true := by kernel_rfl
theorem derivativeOf_k11 : ((Rows.fnExactDerivativeOfRow.recurses == Try.pinned.checked.prog.recurses 8)) = true := by kernel_rfl
theorem derivativeOf_k12 : ((Rows.fnExactDerivativeOfRow.named == Try.pinned.checked.prog.varsNamed 8)) = true := by kernel_rfl
theorem derivativeOf_k13 : ((Rows.fnExactDerivativeOfRow.maps == (Try.f8.params.toList ++ Rows.fnExactDerivativeOfSpec.plain.varTypes Try.pinned.checked.prog).any (Try.pinned.checked.prog.mapsRec ·))) = true := by kernel_rfl
theorem derivativeOf_k14 : ((Rows.fnExactDerivativeOfRow.ifaces == (Try.f8.params.toList ++ Rows.fnExactDerivativeOfSpec.plain.varTypes Try.pinned.checked.prog).any (Try.pinned.checked.prog.ifacesRec ·))) = true := by kernel_rfl
theorem derivativeOf_k15 : ((Rows.fnExactDerivativeOfRow.mapsOut == Try.pinned.checked.prog.mapsAmong Try.f8.resultTypes.toList)) = true := by kernel_rfl
theorem derivativeOf_k16 : ((Rows.fnExactDerivativeOfRow.loops == (Try.f8.params.toList ++ Rows.fnExactDerivativeOfSpec.plain.varTypes Try.pinned.checked.prog).any (Try.pinned.checked.prog.loopsFrom ·))) = true := by kernel_rfl
theorem derivativeOf_k17 : ((Rows.fnExactDerivativeOfRow.wideKeys == (Try.f8.params.toList ++ Rows.fnExactDerivativeOfSpec.plain.varTypes Try.pinned.checked.prog ++ Try.f8.resultTypes.toList).any (Try.pinned.checked.prog.wideKeysFrom ·))) = true := by kernel_rfl
theorem derivativeOf_k18 : (Rows.fnExactDerivativeOfSpec.vars.all (Try.pinned.checked.prog.varReadable ·)) = true := by kernel_rfl
theorem derivativeOf_k19 : (Try.f8.resultTypes.all (fun t => Try.pinned.checked.prog.readableRec t && decide (t < Try.pinned.checked.prog.types.size))) = true := by kernel_rfl
theorem derivativeOf_k20 : ((Rows.fnExactDerivativeOfRow.ifacesOut == Try.f8.resultTypes.toList.any (Try.pinned.checked.prog.ifacesRec ·))) = true := by kernel_rfl
theorem derivativeOf_k21 : ((Rows.fnExactDerivativeOfRow.loopsOut == Try.f8.resultTypes.toList.any (Try.pinned.checked.prog.loopsFrom ·))) = true := by kernel_rfl
theorem derivativeOf_k22 : ((Rows.fnExactDerivativeOfRow.plainKeys == Try.pinned.checked.prog.plainKeys)) = true := by kernel_rfl
theorem derivativeOf_k23 : (Rows.fnExactDerivativeOfRow.shortTexts.isNone) = true := by kernel_rfl
theorem derivativeOf_k24 : (Try.pinned.checked.prog.stopsHeard) = true := by kernel_rfl
theorem derivativeOf_k25 : (Try.pinned.checked.prog.mayEnter) = true := x_enter
theorem derivativeOf_k26 : ((Rows.fnExactDerivativeOfRow.lifted == Try.pinned.checked.prog.liftsFinal)) = true := by rw [x_lifts]; rfl
theorem derivativeOf_k27 : ((Try.pinned.checked.prog.make == some Rows.fnExactDerivativeOfRow.make)) = true := by rw [x_make]; rfl
theorem derivativeOf_k28 : ((Rows.fnExactDerivativeOfRow.kinds == (if Rows.fnExactDerivativeOfRow.domain.isEmpty then [] else Try.f8.params.toList.map fun t => match Try.pinned.checked.prog.underlying t with | some (.int k) => some k | _ => none))) = true := by kernel_rfl
theorem derivativeOf_k29 : ((Rows.fnExactDerivativeOfRow.pinned == Rows.fnExactDerivativeOfRow.pinnedBy)) = true := by kernel_rfl
theorem derivativeOf_k30 : ((Rows.fnExactDerivativeOfRow.veiled == (Try.f8.params.toList ++ Rows.fnExactDerivativeOfSpec.plain.varTypes Try.pinned.checked.prog ++ Try.f8.resultTypes.toList).any (Try.pinned.checked.prog.veiledRec ·))) = true := by kernel_rfl
theorem derivativeOf_k31 : (Rows.fnExactDerivativeOfRow.veiledFits Try.pinned.checked.prog Try.f8.params.toList (Try.f8.params.toList ++ Rows.fnExactDerivativeOfSpec.plain.varTypes Try.pinned.checked.prog ++ Try.f8.resultTypes.toList)) = true := by kernel_rfl
theorem derivativeOf_pkg : decide (Check.packageOf Try.f8.name = "main") = false := by kernel_rfl
theorem derivativeOf_inst : Func.isInstance Try.pinned.checked.prog Try.f8 Rows.fnExactDerivativeOfRow.origin Rows.fnExactDerivativeOfRow.targs := of_decide_eq_true (by kernel_rfl)
theorem derivativeOf_wrap : Func.isWrapper Try.pinned.checked.prog Try.f8 Rows.fnExactDerivativeOfRow.wrapper Rows.fnExactDerivativeOfRow.mainSum := by
  unfold Func.isWrapper; rw [if_neg (of_decide_eq_false derivativeOf_pkg)]; exact ⟨rfl, rfl⟩
set_option maxRecDepth 100000 in
theorem derivativeOf_closed : joinedFacts Try.pinned.checked.prog 8 Try.f8 Rows.fnExactDerivativeOfSpec Rows.fnExactDerivativeOfRow = true :=
  (and_of (and_of (and_of (and_of (and_of (and_of (and_of (and_of (and_of (and_of (and_of (and_of (and_of (and_of (and_of (and_of (and_of (and_of (and_of (and_of (and_of (and_of (and_of (and_of (and_of (and_of (and_of (and_of (and_of (and_of (and_of derivativeOf_k0 derivativeOf_k1) derivativeOf_k2) derivativeOf_k3) derivativeOf_k4) derivativeOf_k5) derivativeOf_k6) derivativeOf_k7) derivativeOf_k8) derivativeOf_k9) derivativeOf_k10) derivativeOf_k11) derivativeOf_k12) derivativeOf_k13) derivativeOf_k14) derivativeOf_k15) derivativeOf_k16) derivativeOf_k17) derivativeOf_k18) derivativeOf_k19) derivativeOf_k20) derivativeOf_k21) derivativeOf_k22) derivativeOf_k23) derivativeOf_k24) derivativeOf_k25) derivativeOf_k26) derivativeOf_k27) derivativeOf_k28) derivativeOf_k29) derivativeOf_k30) derivativeOf_k31)
theorem derivativeOf_holds : Rows.FnExactDerivativeOfSaid :=
  OpenClaim.holds_of_wide 8 Try.f8 rfl rfl rfl rfl rfl rfl rfl ⟨rfl, rfl, rfl, rfl, rfl⟩ rfl rfl rfl rfl rfl (by kernel_rfl) Try.func8 derivativeOf_closed
    derivativeOf_inst derivativeOf_wrap (fun os started H enc _ => derivativeOf_lifted os started H enc)
end Go.Proofs.Ytmkdikoogbedkaa
