/-
CircleNullity answers as its model at every number and Own. No condition.
-/
import Derived.Test.YtmcimfblhpflnaaLN
import Derived.Test.YtmcimfblhpflnaaP
import Derived.Test.YtmcimfblhpflnaaQ1
namespace Go.Proofs.Ytmcimfblhpflnaa
open Go.ChangeShapes Go.WideShapes Go.ChangeAt Go.RowKit
set_option maxRecDepth 100000 in
theorem circleNullity_lifted (os : Os) (started : os.Started) (H : Type) (enc : TypeId × Value → H) :
    ReturnsInHanded {} Try.checked os 4 .any (Rows.fnExactCircleNullitySpec.pre6 enc Try.prog Try.f4 Rows.fnExactCircleNullityRow.domain false) (Rows.fnExactCircleNullitySpec.post enc Try.prog Try.f4 false true false false) := by
  refine returnsInHanded_of_change (C := Try.checked) Try.own started (by kernel_rfl) Try.func4
    (ChangeSpec.witness6 (enc := enc) (C := Try.checked) false ⟨#[], #[.int .i64 0, .bool false], []⟩ 8 (by kernel_rfl) (by kernel_rfl) (by kernel_rfl) (by kernel_rfl)) ?_
  intro W base args ds gs before hval0 hW hcnd _
  have hval : ∀ (j : Nat) t v, Try.f4.params[j]? = some t → args[j]? = some v → Value.okWide Try.prog W .any base t v := hval0
  have hW' := hW
  obtain ⟨p, q, hA0, hV, rfl, hfz, hnd⟩ := hW
  have hA : DataW.TrodAll enc Try.prog W 0 (fun _ => true) true Try.f4.params.toList args.toList ds p := hA0
  rw [Try.params4] at hA hval
  obtain ⟨v0, v1, d0, d1, p0, p1, rfl, rfl, rfl, h0, h1⟩ := trodAll_two hA
  obtain ⟨rfl, rfl⟩ := trodVars_none hV
  obtain ⟨a0, rfl, rfl, rfl, wa0⟩ := open_int Try.underlying3 (hval 0 3 v0 rfl rfl) h0
  obtain ⟨b1, rfl, rfl, rfl⟩ := open_bool Try.underlying4 (hval 1 4 v1 rfl rfl) h1
  clear hA0 hval0
  simp only [List.append_nil] at hW'
  refine (lawCircleN a0 b1 W).mono fun e W' ⟨he, hb⟩ => ?_
  subst he
  exact ⟨_, rfl, post_of_below (pa := []) (pv := []) hW' (fun _ _ _ => trodAll_mk1 (shut_bool Try.underlying4 true))
    (fun sp hsp => trodAll_mk2 (shut_int Try.underlying3 wa0) (shut_bool Try.underlying4 b1)) (fun _ _ => rfl) (by simp) hb
    (ok_one (by kernel_rfl) rfl (okWide_bool_mk Try.underlying4 true))⟩
theorem circleNullity_k0 : (Rows.fnExactCircleNullityRow.wf (OpenSpec.ofChange Rows.fnExactCircleNullitySpec)) = true := by kernel_rfl
theorem circleNullity_k1 : (laidOutB Try.pinned.checked.prog) = true := by kernel_rfl
theorem circleNullity_k2 : (mapsRowed Try.pinned.checked.prog) = true := by kernel_rfl
theorem circleNullity_k3 : (Try.f4.params.all (Try.pinned.checked.prog.readableRec ·)) = true := by kernel_rfl
theorem circleNullity_k4 : (namedTie Try.pinned.checked.prog Rows.fnExactCircleNullityRow.named Rows.fnExactCircleNullitySpec.vars) = true := by kernel_rfl
theorem circleNullity_k5 : ((Rows.fnExactCircleNullityRow.stops == [])) = true := by kernel_rfl
theorem circleNullity_k6 : ((Try.pinned.checked.prog.stops == [])) = true := by kernel_rfl
theorem circleNullity_k7 : ((Rows.fnExactCircleNullityRow.knobs == [])) = true := by kernel_rfl
theorem circleNullity_k8 : ((Try.pinned.checked.prog.stopKnobs == [])) = true := by kernel_rfl
theorem circleNullity_k9 : ((Rows.fnExactCircleNullityRow.inPlace == Try.pinned.checked.prog.inPlace 4)) = true := by kernel_rfl
theorem circleNullity_k10 : ((Rows.fnExactCircleNullityRow.unfollowed == Try.pinned.checked.prog.unfollowed 4)) = true := by kernel_rfl
theorem circleNullity_k11 : ((Rows.fnExactCircleNullityRow.recurses == Try.pinned.checked.prog.recurses 4)) = true := by kernel_rfl
theorem circleNullity_k12 : ((Rows.fnExactCircleNullityRow.named == Try.pinned.checked.prog.varsNamed 4)) = true := by kernel_rfl
theorem circleNullity_k13 : ((Rows.fnExactCircleNullityRow.maps == (Try.f4.params.toList ++ Rows.fnExactCircleNullitySpec.plain.varTypes Try.pinned.checked.prog).any (Try.pinned.checked.prog.mapsRec ·))) = true := by kernel_rfl
theorem circleNullity_k14 : ((Rows.fnExactCircleNullityRow.ifaces == (Try.f4.params.toList ++ Rows.fnExactCircleNullitySpec.plain.varTypes Try.pinned.checked.prog).any (Try.pinned.checked.prog.ifacesRec ·))) = true := by kernel_rfl
theorem circleNullity_k15 : ((Rows.fnExactCircleNullityRow.mapsOut == Try.pinned.checked.prog.mapsAmong Try.f4.resultTypes.toList)) = true := by kernel_rfl
theorem circleNullity_k16 : ((Rows.fnExactCircleNullityRow.loops == (Try.f4.params.toList ++ Rows.fnExactCircleNullitySpec.plain.varTypes Try.pinned.checked.prog).any (Try.pinned.checked.prog.loopsFrom ·))) = true := by kernel_rfl
theorem circleNullity_k17 : ((Rows.fnExactCircleNullityRow.wideKeys == (Try.f4.params.toList ++ Rows.fnExactCircleNullitySpec.plain.varTypes Try.pinned.checked.prog ++ Try.f4.resultTypes.toList).any (Try.pinned.checked.prog.wideKeysFrom ·))) = true := by kernel_rfl
theorem circleNullity_k18 : (Rows.fnExactCircleNullitySpec.vars.all (Try.pinned.checked.prog.varReadable ·)) = true := by kernel_rfl
theorem circleNullity_k19 : (Try.f4.resultTypes.all (fun t => Try.pinned.checked.prog.readableRec t && decide (t < Try.pinned.checked.prog.types.size))) = true := by kernel_rfl
theorem circleNullity_k20 : ((Rows.fnExactCircleNullityRow.ifacesOut == Try.f4.resultTypes.toList.any (Try.pinned.checked.prog.ifacesRec ·))) = true := by kernel_rfl
theorem circleNullity_k21 : ((Rows.fnExactCircleNullityRow.loopsOut == Try.f4.resultTypes.toList.any (Try.pinned.checked.prog.loopsFrom ·))) = true := by kernel_rfl
theorem circleNullity_k22 : ((Rows.fnExactCircleNullityRow.plainKeys == Try.pinned.checked.prog.plainKeys)) = true := by kernel_rfl
theorem circleNullity_k23 : (Rows.fnExactCircleNullityRow.shortTexts.isNone) = true := by kernel_rfl
theorem circleNullity_k24 : (Try.pinned.checked.prog.stopsHeard) = true := by kernel_rfl
theorem circleNullity_k25 : (Try.pinned.checked.prog.mayEnter) = true := x_enter
theorem circleNullity_k26 : ((Rows.fnExactCircleNullityRow.lifted == Try.pinned.checked.prog.liftsFinal)) = true := by rw [x_lifts]; rfl
theorem circleNullity_k27 : ((Try.pinned.checked.prog.make == some Rows.fnExactCircleNullityRow.make)) = true := by rw [x_make]; rfl
theorem circleNullity_k28 : ((Rows.fnExactCircleNullityRow.kinds == (if Rows.fnExactCircleNullityRow.domain.isEmpty then [] else Try.f4.params.toList.map fun t => match Try.pinned.checked.prog.underlying t with | some (.int k) => some k | _ => none))) = true := by kernel_rfl
theorem circleNullity_k29 : ((Rows.fnExactCircleNullityRow.pinned == Rows.fnExactCircleNullityRow.pinnedBy)) = true := by kernel_rfl
theorem circleNullity_k30 : ((Rows.fnExactCircleNullityRow.veiled == (Try.f4.params.toList ++ Rows.fnExactCircleNullitySpec.plain.varTypes Try.pinned.checked.prog ++ Try.f4.resultTypes.toList).any (Try.pinned.checked.prog.veiledRec ·))) = true := by kernel_rfl
theorem circleNullity_k31 : (Rows.fnExactCircleNullityRow.veiledFits Try.pinned.checked.prog Try.f4.params.toList (Try.f4.params.toList ++ Rows.fnExactCircleNullitySpec.plain.varTypes Try.pinned.checked.prog ++ Try.f4.resultTypes.toList)) = true := by kernel_rfl
theorem circleNullity_pkg : decide (Check.packageOf Try.f4.name = "main") = false := by kernel_rfl
theorem circleNullity_inst : Func.isInstance Try.pinned.checked.prog Try.f4 Rows.fnExactCircleNullityRow.origin Rows.fnExactCircleNullityRow.targs := of_decide_eq_true (by kernel_rfl)
theorem circleNullity_wrap : Func.isWrapper Try.pinned.checked.prog Try.f4 Rows.fnExactCircleNullityRow.wrapper Rows.fnExactCircleNullityRow.mainSum := by
  unfold Func.isWrapper; rw [if_neg (of_decide_eq_false circleNullity_pkg)]; exact ⟨rfl, rfl⟩
set_option maxRecDepth 100000 in
theorem circleNullity_closed : joinedFacts Try.pinned.checked.prog 4 Try.f4 Rows.fnExactCircleNullitySpec Rows.fnExactCircleNullityRow = true :=
  (and_of (and_of (and_of (and_of (and_of (and_of (and_of (and_of (and_of (and_of (and_of (and_of (and_of (and_of (and_of (and_of (and_of (and_of (and_of (and_of (and_of (and_of (and_of (and_of (and_of (and_of (and_of (and_of (and_of (and_of (and_of circleNullity_k0 circleNullity_k1) circleNullity_k2) circleNullity_k3) circleNullity_k4) circleNullity_k5) circleNullity_k6) circleNullity_k7) circleNullity_k8) circleNullity_k9) circleNullity_k10) circleNullity_k11) circleNullity_k12) circleNullity_k13) circleNullity_k14) circleNullity_k15) circleNullity_k16) circleNullity_k17) circleNullity_k18) circleNullity_k19) circleNullity_k20) circleNullity_k21) circleNullity_k22) circleNullity_k23) circleNullity_k24) circleNullity_k25) circleNullity_k26) circleNullity_k27) circleNullity_k28) circleNullity_k29) circleNullity_k30) circleNullity_k31)
theorem circleNullity_holds : Rows.FnExactCircleNullitySaid :=
  OpenClaim.holds_of_wide 4 Try.f4 rfl rfl rfl rfl rfl rfl rfl ⟨rfl, rfl, rfl, rfl, rfl⟩ rfl rfl rfl rfl rfl (by kernel_rfl) Try.func4 circleNullity_closed
    circleNullity_inst circleNullity_wrap (fun os started H enc _ => circleNullity_lifted os started H enc)
end Go.Proofs.Ytmcimfblhpflnaa
