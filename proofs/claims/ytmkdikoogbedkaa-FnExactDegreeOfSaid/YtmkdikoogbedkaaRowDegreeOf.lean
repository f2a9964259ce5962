/-
DegreeOf answers as its model at every number. No condition.
-/
import Derived.Test.YtmkdikoogbedkaaTD
import Derived.Test.YtmkdikoogbedkaaP
import Derived.Test.YtmkdikoogbedkaaQ1
namespace Go.Proofs.Ytmkdikoogbedkaa
open Go.ChangeShapes Go.WideShapes Go.ChangeAt Go.RowKit
set_option maxRecDepth 100000 in
theorem degreeOf_lifted (os : Os) (started : os.Started) (H : Type) (enc : TypeId × Value → H) :
    ReturnsInHanded {} Try.checked os 3 .any (Rows.fnExactDegreeOfSpec.pre6 enc Try.prog Try.f3 Rows.fnExactDegreeOfRow.domain false) (Rows.fnExactDegreeOfSpec.post enc Try.prog Try.f3 false true false false) := by
  refine returnsInHanded_of_change (C := Try.checked) Try.own started (by kernel_rfl) Try.func3
    (ChangeSpec.witness6 (enc := enc) (C := Try.checked) false ⟨#[], #[.int .i64 0], []⟩ 8 (by kernel_rfl) (by kernel_rfl) (by kernel_rfl) (by kernel_rfl)) ?_
  intro W base args ds gs before hval0 hW hcnd _
  have hval : ∀ (j : Nat) t v, Try.f3.params[j]? = some t → args[j]? = some v → Value.okWide Try.prog W .any base t v := hval0
  have hW' := hW
  obtain ⟨p, q, hA0, hV, rfl, hfz, hnd⟩ := hW
  have hA : DataW.TrodAll enc Try.prog W 0 (fun _ => true) true Try.f3.params.toList args.toList ds p := hA0
  rw [Try.params3] at hA hval
  obtain ⟨v0, d0, rfl, rfl, h0⟩ := trodAll_one hA
  obtain ⟨rfl, rfl⟩ := trodVars_none hV
  obtain ⟨a0, rfl, rfl, rfl, wa0⟩ := open_int Try.underlying3 (hval 0 3 v0 rfl rfl) h0
  clear hA0 hval0
  simp only [List.append_nil] at hW'
  refine (lawDegree a0 W).mono fun e W' ⟨he, hb⟩ => ?_
  subst he
  exact ⟨_, rfl, post_of_below (pa := []) (pv := []) hW' (fun _ _ _ => trodAll_mk1 (shut_bool Try.underlying4 true))
    (fun sp hsp => trodAll_mk1 (shut_int Try.underlying3 wa0)) (fun _ _ => rfl) (by simp) hb
    (ok_one (by kernel_rfl) rfl (okWide_bool_mk Try.underlying4 true))⟩
theorem degreeOf_k0 : (Rows.fnExactDegreeOfRow.wf (OpenSpec.ofChange Rows.fnExactDegreeOfSpec)) = true := by kernel_rfl
theorem degreeOf_k1 : (laidOutB Try.pinned.checked.prog) = true := by kernel_rfl
theorem degreeOf_k2 : (mapsRowed Try.pinned.checked.prog) = true := by kernel_rfl
theorem degreeOf_k3 : (Try.f3.params.all (Try.pinned.checked.prog.readableRec ·)) = true := by kernel_rfl
theorem degreeOf_k4 : (namedTie Try.pinned.checked.prog Rows.fnExactDegreeOfRow.named Rows.fnExactDegreeOfSpec.vars) = true := by kernel_rfl
theorem degreeOf_k5 : ((Rows.fnExactDegreeOfRow.stops == [])) = true := by kernel_rfl
theorem degreeOf_k6 : ((Try.pinned.checked.prog.stops == [])) = true := by kernel_rfl
theorem degreeOf_k7 : ((Rows.fnExactDegreeOfRow.knobs == [])) = true := by kernel_rfl
theorem degreeOf_k8 : ((Try.pinned.checked.prog.stopKnobs == [])) = true := by kernel_rfl
theorem degreeOf_k9 : ((Rows.fnExactDegreeOfRow.inPlace == Try.pinned.checked.prog.inPlace 3)) = true := by kernel_rfl
theorem degreeOf_k10 : ((Rows.fnExactDegreeOfRow.unfollowed == Try.pinned.checked.prog.unfollowed 3)) = true := by kernel_rfl
theorem degreeOf_k11 : ((Rows.fnExactDegreeOfRow.recurses == Try.pinned.checked.prog.recurses 3)) = true := by kernel_rfl
theorem degreeOf_k12 : ((Rows.fnExactDegreeOfRow.named == Try.pinned.checked.prog.varsNamed 3)) = true := by kernel_rfl
theorem degreeOf_k13 : ((Rows.fnExactDegreeOfRow.maps == (Try.f3.params.toList ++ Rows.fnExactDegreeOfSpec.plain.varTypes Try.pinned.checked.prog).any (Try.pinned.checked.prog.mapsRec ·))) = true := by kernel_rfl
theorem degreeOf_k14 : ((Rows.fnExactDegreeOfRow.ifaces == (Try.f3.params.toList ++ Rows.fnExactDegreeOfSpec.plain.varTypes Try.pinned.checked.prog).any (Try.pinned.checked.prog.ifacesRec ·))) = true := by kernel_rfl
theorem degreeOf_k15 : ((Rows.fnExactDegreeOfRow.mapsOut == Try.pinned.checked.prog.mapsAmong Try.f3.resultTypes.toList)) = true := by kernel_rfl
theorem degreeOf_k16 : ((Rows.fnExactDegreeOfRow.loops == (Try.f3.params.toList ++ Rows.fnExactDegreeOfSpec.plain.varTypes Try.pinned.checked.prog).any (Try.pinned.checked.prog.loopsFrom ·))) = true := by kernel_rfl
theorem degreeOf_k17 : ((Rows.fnExactDegreeOfRow.wideKeys == (Try.f3.params.toList ++ Rows.fnExactDegreeOfSpec.plain.varTypes Try.pinned.checked.prog ++ Try.f3.resultTypes.toList).any (Try.pinned.checked.prog.wideKeysFrom ·))) = true := by kernel_rfl
theorem degreeOf_k18 : (Rows.fnExactDegreeOfSpec.vars.all (Try.pinned.checked.prog.varReadable ·)) = true := by kernel_rfl
theorem degreeOf_k19 : (Try.f3.resultTypes.all (fun t => Try.pinned.checked.prog.readableRec t && decide (t < Try.pinned.checked.prog.types.size))) = true := by kernel_rfl
theorem degreeOf_k20 : ((Rows.fnExactDegreeOfRow.ifacesOut == Try.f3.resultTypes.toList.any (Try.pinned.checked.prog.ifacesRec ·))) = true := by kernel_rfl
theorem degreeOf_k21 : ((Rows.fnExactDegreeOfRow.loopsOut == Try.f3.resultTypes.toList.any (Try.pinned.checked.prog.loopsFrom ·))) = true := by kernel_rfl
theorem degreeOf_k22 : ((Rows.fnExactDegreeOfRow.plainKeys == Try.pinned.checked.prog.plainKeys)) = true := by kernel_rfl
theorem degreeOf_k23 : (Rows.fnExactDegreeOfRow.shortTexts.isNone) = true := by kernel_rfl
theorem degreeOf_k24 : (Try.pinned.checked.prog.stopsHeard) = true := by kernel_rfl
theorem degreeOf_k25 : (Try.pinned.checked.prog.mayEnter) = true := x_enter
theorem degreeOf_k26 : ((Rows.fnExactDegreeOfRow.lifted == Try.pinned.checked.prog.liftsFinal)) = true := by rw [x_lifts]; rfl
theorem degreeOf_k27 : ((Try.pinned.checked.prog.make == some Rows.fnExactDegreeOfRow.make)) = true := by rw [x_make]; rfl
theorem degreeOf_k28 : ((Rows.fnExactDegreeOfRow.kinds == (if Rows.fnExactDegreeOfRow.domain.isEmpty then [] else Try.f3.params.toList.map fun t => match Try.pinned.checked.prog.underlying t with | some (.int k) => some k | _ => none))) = true := by kernel_rfl
theorem degreeOf_k29 : ((Rows.fnExactDegreeOfRow.pinned == Rows.fnExactDegreeOfRow.pinnedBy)) = true := by kernel_rfl
theorem degreeOf_k30 : ((Rows.fnExactDegreeOfRow.veiled == (Try.f3.params.toList ++ Rows.fnExactDegreeOfSpec.plain.varTypes Try.pinned.checked.prog ++ Try.f3.resultTypes.toList).any (Try.pinned.checked.prog.veiledRec ·))) = true := by kernel_rfl
theorem degreeOf_k31 : (Rows.fnExactDegreeOfRow.veiledFits Try.pinned.checked.prog Try.f3.params.toList (Try.f3.params.toList ++ Rows.fnExactDegreeOfSpec.plain.varTypes Try.pinned.checked.prog ++ Try.f3.resultTypes.toList)) = true := by kernel_rfl
theorem degreeOf_pkg : decide (Check.packageOf Try.f3.name = "main") = false := by kernel_rfl
theorem degreeOf_inst : Func.isInstance Try.pinned.checked.prog Try.f3 Rows.fnExactDegreeOfRow.origin Rows.fnExactDegreeOfRow.targs := of_decide_eq_true (by kernel_rfl)
theorem degreeOf_wrap : Func.isWrapper Try.pinned.checked.prog Try.f3 Rows.fnExactDegreeOfRow.wrapper Rows.fnExactDegreeOfRow.mainSum := by
  unfold Func.isWrapper; rw [if_neg (of_decide_eq_false degreeOf_pkg)]; exact ⟨rfl, rfl⟩
set_option maxRecDepth 100000 in
theorem degreeOf_closed : joinedFacts Try.pinned.checked.prog 3 Try.f3 Rows.fnExactDegreeOfSpec Rows.fnExactDegreeOfRow = true :=
  (and_of (and_of (and_of (and_of (and_of (and_of (and_of (and_of (and_of (and_of (and_of (and_of (and_of (and_of (and_of (and_of (and_of (and_of (and_of (and_of (and_of (and_of (and_of (and_of (and_of (and_of (and_of (and_of (and_of (and_of (and_of degreeOf_k0 degreeOf_k1) degreeOf_k2) degreeOf_k3) degreeOf_k4) degreeOf_k5) degreeOf_k6) degreeOf_k7) degreeOf_k8) degreeOf_k9) degreeOf_k10) degreeOf_k11) degreeOf_k12) degreeOf_k13) degreeOf_k14) degreeOf_k15) degreeOf_k16) degreeOf_k17) degreeOf_k18) degreeOf_k19) degreeOf_k20) degreeOf_k21) degreeOf_k22) degreeOf_k23) degreeOf_k24) degreeOf_k25) degreeOf_k26) degreeOf_k27) degreeOf_k28) degreeOf_k29) degreeOf_k30) degreeOf_k31)
theorem degreeOf_holds : Rows.FnExactDegreeOfSaid :=
  OpenClaim.holds_of_wide 3 Try.f3 rfl rfl rfl rfl rfl rfl rfl ⟨rfl, rfl, rfl, rfl, rfl⟩ rfl rfl rfl rfl rfl (by kernel_rfl) Try.func3 degreeOf_closed
    degreeOf_inst degreeOf_wrap (fun os started H enc _ => degreeOf_lifted os started H enc)
end Go.Proofs.Ytmkdikoogbedkaa
