/-
FactorsOf answers as its model at every number, and its answers share no memory. No condition.
-/
import Derived.Test.YtmkdikoogbedkaaTM
import Derived.Test.YtmkdikoogbedkaaP
import Derived.Test.YtmkdikoogbedkaaQ1
namespace Go.Proofs.Ytmkdikoogbedkaa
open Go.ChangeShapes Go.WideShapes Go.ChangeAt Go.RowKit
set_option maxRecDepth 100000 in
theorem factorsOf_lifted (os : Os) (started : os.Started) (H : Type) (enc : TypeId × Value → H) :
    ReturnsInHanded {} Try.checked os 10 .any (Rows.fnExactFactorsOfSpec.pre6 enc Try.prog Try.f10 Rows.fnExactFactorsOfRow.domain false) (Rows.fnExactFactorsOfSpec.post enc Try.prog Try.f10 false true false false) := by
  refine returnsInHanded_of_change (C := Try.checked) Try.own started (by kernel_rfl) Try.func10
    (ChangeSpec.witness6 (enc := enc) (C := Try.checked) false ⟨#[], #[.int .i64 0], []⟩ 8 (by kernel_rfl) (by kernel_rfl) (by kernel_rfl) (by kernel_rfl)) ?_
  intro W base args ds gs before hval0 hW hcnd _
  have hval : ∀ (j : Nat) t v, Try.f10.params[j]? = some t → args[j]? = some v → Value.okWide Try.prog W .any base t v := hval0
  have hW' := hW
  obtain ⟨p, q, hA0, hV, rfl, hfz, hnd⟩ := hW
  have hA : DataW.TrodAll enc Try.prog W 0 (fun _ => true) true Try.f10.params.toList args.toList ds p := hA0
  rw [Try.params10] at hA hval
  obtain ⟨v0, d0, rfl, rfl, h0⟩ := trodAll_one hA
  obtain ⟨rfl, rfl⟩ := trodVars_none hV
  obtain ⟨a0, rfl, rfl, rfl, wa0⟩ := open_int Try.underlying3 (hval 0 3 v0 rfl rfl) h0
  clear hA0 hval0
  simp only [List.append_nil] at hW'
  refine (lawFactors a0 W).mono fun e W' ⟨he, hb⟩ => ?_
  subst he
  exact ⟨_, rfl, post_of_below (pa := []) (pv := []) hW' (fun _ _ _ => trodAll_mk1 (shut_bool Try.underlying4 true))
    (fun sp hsp => trodAll_mk1 (shut_int Try.underlying3 wa0)) (fun _ _ => rfl) (by simp) hb
    (ok_one (by kernel_rfl) rfl (okWide_bool_mk Try.underlying4 true))⟩
theorem factorsOf_k0 : (Rows.fnExactFactorsOfRow.wf (OpenSpec.ofChange Rows.fnExactFactorsOfSpec)) = true := by kernel_rfl
theorem factorsOf_k1 : (laidOutB Try.pinned.checked.prog) = true := by kernel_rfl
theorem factorsOf_k2 : (mapsRowed Try.pinned.checked.prog) = true := by kernel_rfl
theorem factorsOf_k3 : (Try.f10.params.all (Try.pinned.checked.prog.readableRec ·)) = true := by kernel_rfl
theorem factorsOf_k4 : (namedTie Try.pinned.checked.prog Rows.fnExactFactorsOfRow.named Rows.fnExactFactorsOfSpec.vars) = true := by kernel_rfl
theorem factorsOf_k5 : ((Rows.fnExactFactorsOfRow.stops == [])) = true := by kernel_rfl
theorem factorsOf_k6 : ((Try.pinned.checked.prog.stops == [])) = true := by kernel_rfl
theorem factorsOf_k7 : ((Rows.fnExactFactorsOfRow.knobs == [])) = true := by kernel_rfl
theorem factorsOf_k8 : ((Try.pinned.checked.prog.stopKnobs == [])) = true := by kernel_rfl
theorem factorsOf_k9 : ((Rows.fnExactFactorsOfRow.inPlace == Try.pinned.checked.prog.inPlace 10)) = true := by kernel_rfl
theorem factorsOf_k10 : ((Rows.fnExactFactorsOfRow.unfollowed == Try.pinned.checked.prog.unfollowed 10)) = true := by kernel_rfl
theorem factorsOf_k11 : ((Rows.fnExactFactorsOfRow.recurses == Try.pinned.checked.prog.recurses 10)) = true := by kernel_rfl
theorem factorsOf_k12 : ((Rows.fnExactFactorsOfRow.named == Try.pinned.checked.prog.varsNamed 10)) = true := by kernel_rfl
theorem factorsOf_k13 : ((Rows.fnExactFactorsOfRow.maps == (Try.f10.params.toList ++ Rows.fnExactFactorsOfSpec.plain.varTypes Try.pinned.checked.prog).any (Try.pinned.checked.prog.mapsRec ·))) = true := by kernel_rfl
theorem factorsOf_k14 : ((Rows.fnExactFactorsOfRow.ifaces == (Try.f10.params.toList ++ Rows.fnExactFactorsOfSpec.plain.varTypes Try.pinned.checked.prog).any (Try.pinned.checked.prog.ifacesRec ·))) = true := by kernel_rfl
theorem factorsOf_k15 : ((Rows.fnExactFactorsOfRow.mapsOut == Try.pinned.checked.prog.mapsAmong Try.f10.resultTypes.toList)) = true := by kernel_rfl
theorem factorsOf_k16 : ((Rows.fnExactFactorsOfRow.loops == (Try.f10.params.toList ++ Rows.fnExactFactorsOfSpec.plain.varTypes Try.pinned.checked.prog).any (Try.pinned.checked.prog.loopsFrom ·))) = true := by kernel_rfl
theorem factorsOf_k17 : ((Rows.fnExactFactorsOfRow.wideKeys == (Try.f10.params.toList ++ Rows.fnExactFactorsOfSpec.plain.varTypes Try.pinned.checked.prog ++ Try.f10.resultTypes.toList).any (Try.pinned.checked.prog.wideKeysFrom ·))) = true := by kernel_rfl
theorem factorsOf_k18 : (Rows.fnExactFactorsOfSpec.vars.all (Try.pinned.checked.prog.varReadable ·)) = true := by kernel_rfl
theorem factorsOf_k19 : (Try.f10.resultTypes.all (fun t => Try.pinned.checked.prog.readableRec t && decide (t < Try.pinned.checked.prog.types.size))) = true := by kernel_rfl
theorem factorsOf_k20 : ((Rows.fnExactFactorsOfRow.ifacesOut == Try.f10.resultTypes.toList.any (Try.pinned.checked.prog.ifacesRec ·))) = true := by kernel_rfl
theorem factorsOf_k21 : ((Rows.fnExactFactorsOfRow.loopsOut == Try.f10.resultTypes.toList.any (Try.pinned.checked.prog.loopsFrom ·))) = true := by kernel_rfl
theorem factorsOf_k22 : ((Rows.fnExactFactorsOfRow.plainKeys == Try.pinned.checked.prog.plainKeys)) = true := by kernel_rfl
theorem factorsOf_k23 : (Rows.fnExactFactorsOfRow.shortTexts.isNone) = true := by kernel_rfl
theorem factorsOf_k24 : (Try.pinned.checked.prog.stopsHeard) = true := by kernel_rfl
theorem factorsOf_k25 : (Try.pinned.checked.prog.mayEnter) = true := x_enter
theorem factorsOf_k26 : ((Rows.fnExactFactorsOfRow.lifted == Try.pinned.checked.prog.liftsFinal)) = true := by rw [x_lifts]; rfl
theorem factorsOf_k27 : ((Try.pinned.checked.prog.make == some Rows.fnExactFactorsOfRow.make)) = true := by rw [x_make]; rfl
theorem factorsOf_k28 : ((Rows.fnExactFactorsOfRow.kinds == (if Rows.fnExactFactorsOfRow.domain.isEmpty then [] else Try.f10.params.toList.map fun t => match Try.pinned.checked.prog.underlying t with | some (.int k) => some k | _ => none))) = true := by kernel_rfl
theorem factorsOf_k29 : ((Rows.fnExactFactorsOfRow.pinned == Rows.fnExactFactorsOfRow.pinnedBy)) = true := by kernel_rfl
theorem factorsOf_k30 : ((Rows.fnExactFactorsOfRow.veiled == (Try.f10.params.toList ++ Rows.fnExactFactorsOfSpec.plain.varTypes Try.pinned.checked.prog ++ Try.f10.resultTypes.toList).any (Try.pinned.checked.prog.veiledRec ·))) = true := by kernel_rfl
theorem factorsOf_k31 : (Rows.fnExactFactorsOfRow.veiledFits Try.pinned.checked.prog Try.f10.params.toList (Try.f10.params.toList ++ Rows.fnExactFactorsOfSpec.plain.varTypes Try.pinned.checked.prog ++ Try.f10.resultTypes.toList)) = true := by kernel_rfl
theorem factorsOf_pkg : decide (Check.packageOf Try.f10.name = "main") = false := by kernel_rfl
theorem factorsOf_inst : Func.isInstance Try.pinned.checked.prog Try.f10 Rows.fnExactFactorsOfRow.origin Rows.fnExactFactorsOfRow.targs := of_decide_eq_true (by kernel_rfl)
theorem factorsOf_wrap : Func.isWrapper Try.pinned.checked.prog Try.f10 Rows.fnExactFactorsOfRow.wrapper Rows.fnExactFactorsOfRow.mainSum := by
  unfold Func.isWrapper; rw [if_neg (of_decide_eq_false factorsOf_pkg)]; exact ⟨rfl, rfl⟩
set_option maxRecDepth 100000 in
theorem factorsOf_closed : joinedFacts Try.pinned.checked.prog 10 Try.f10 Rows.fnExactFactorsOfSpec Rows.fnExactFactorsOfRow = true :=
  (and_of (and_of (and_of (and_of (and_of (and_of (and_of (and_of (and_of (and_of (and_of (and_of (and_of (and_of (and_of (and_of (and_of (and_of (and_of (and_of (and_of (and_of (and_of (and_of (and_of (and_of (and_of (and_of (and_of (and_of (and_of factorsOf_k0 factorsOf_k1) factorsOf_k2) factorsOf_k3) factorsOf_k4) factorsOf_k5) factorsOf_k6) factorsOf_k7) factorsOf_k8) factorsOf_k9) factorsOf_k10) factorsOf_k11) factorsOf_k12) factorsOf_k13) factorsOf_k14) factorsOf_k15) factorsOf_k16) factorsOf_k17) factorsOf_k18) factorsOf_k19) factorsOf_k20) factorsOf_k21) factorsOf_k22) factorsOf_k23) factorsOf_k24) factorsOf_k25) factorsOf_k26) factorsOf_k27) factorsOf_k28) factorsOf_k29) factorsOf_k30) factorsOf_k31)
theorem factorsOf_holds : Rows.FnExactFactorsOfSaid :=
  OpenClaim.holds_of_wide 10 Try.f10 rfl rfl rfl rfl rfl rfl rfl ⟨rfl, rfl, rfl, rfl, rfl⟩ rfl rfl rfl rfl rfl (by kernel_rfl) Try.func10 factorsOf_closed
    factorsOf_inst factorsOf_wrap (fun os started H enc _ => factorsOf_lifted os started H enc)
end Go.Proofs.Ytmkdikoogbedkaa
