/-
GridNullity answers as its model at every two numbers. No condition.
-/
import Derived.Test.YtdpoceijnbbmgaaGG
import Derived.Test.YtdpoceijnbbmgaaP
import Derived.Test.YtdpoceijnbbmgaaQ1
import Derived.ChangeMaps5
namespace Go.Proofs.Ytdpoceijnbbmgaa
open Go.ChangeShapes Go.WideShapes Go.ChangeAt Go.RowKit Go.ChangeMaps
set_option maxRecDepth 100000 in
theorem gridNullity_lifted (os : Os) (started : os.Started) (H : Type) (enc : TypeId × Value → H) :
    ReturnsInHanded {} Try.checked os 6 .any (Rows.fnExactGridNullitySpec.pre6 enc Try.prog Try.f6 Rows.fnExactGridNullityRow.domain false) (Rows.fnExactGridNullitySpec.post enc Try.prog Try.f6 false true false false) := by
  refine returnsInHanded_of_change (C := Try.checked) Try.own started (by kernel_rfl) Try.func6
    (ChangeSpec.witness6 (enc := enc) (C := Try.checked) false ⟨#[], #[.int .i64 0, .int .i64 0, .bool false], []⟩ 8 (by kernel_rfl) (by kernel_rfl) (by kernel_rfl) (by kernel_rfl)) ?_
  intro W base args ds gs before hval0 hW hcnd _
  have hval : ∀ (j : Nat) t v, Try.f6.params[j]? = some t → args[j]? = some v → Value.okWide Try.prog W .any base t v := hval0
  have hW' := hW
  obtain ⟨p, q, hA0, hV, rfl, hfz, hnd⟩ := hW
  have hA : DataW.TrodAll enc Try.prog W 0 (fun _ => true) true Try.f6.params.toList args.toList ds p := hA0
  rw [Try.params6] at hA hval
  obtain ⟨v0, v1, v2, d0, d1, d2, p0, p1, p2, rfl, rfl, rfl, h0, h1, h2⟩ := trodAll_three hA
  obtain ⟨rfl, rfl⟩ := trodVars_none hV
  obtain ⟨a0, rfl, rfl, rfl, wa0⟩ := open_int Try.underlying3 (hval 0 3 v0 rfl rfl) h0
  obtain ⟨a1, rfl, rfl, rfl, wa1⟩ := open_int Try.underlying3 (hval 1 3 v1 rfl rfl) h1
  obtain ⟨b2, rfl, rfl, rfl⟩ := open_bool Try.underlying4 (hval 2 4 v2 rfl rfl) h2
  clear hA0 hval0
  simp only [List.append_nil] at hW'
  refine (lawGridNullity a0 a1 b2 W).mono fun e W' ⟨he, hb⟩ => ?_
  subst he
  exact ⟨_, rfl, post_of_below (pa := []) (pv := []) hW' (fun _ _ _ => trodAll_mk1 (shut_bool Try.underlying4 true))
    (fun sp hsp => trodAll_mk3 (shut_int Try.underlying3 wa0) (shut_int Try.underlying3 wa1) (shut_bool Try.underlying4 b2)) (fun _ _ => rfl) (by simp) hb
    (ok_one (by kernel_rfl) rfl (okWide_bool_mk Try.underlying4 true))⟩
theorem gridNullity_k0 : (Rows.fnExactGridNullityRow.wf (OpenSpec.ofChange Rows.fnExactGridNullitySpec)) = true := by kernel_rfl
theorem gridNullity_k1 : (laidOutB Try.pinned.checked.prog) = true := by kernel_rfl
theorem gridNullity_k2 : (mapsRowed Try.pinned.checked.prog) = true := by kernel_rfl
theorem gridNullity_k3 : (Try.f6.params.all (Try.pinned.checked.prog.readableRec ·)) = true := by kernel_rfl
theorem gridNullity_k4 : (namedTie Try.pinned.checked.prog Rows.fnExactGridNullityRow.named Rows.fnExactGridNullitySpec.vars) = true := by kernel_rfl
theorem gridNullity_k5 : ((Rows.fnExactGridNullityRow.stops == [])) = true := by kernel_rfl
theorem gridNullity_k6 : ((Try.pinned.checked.prog.stops == [])) = true := by kernel_rfl
theorem gridNullity_k7 : ((Rows.fnExactGridNullityRow.knobs == [])) = true := by kernel_rfl
theorem gridNullity_k8 : ((Try.pinned.checked.prog.stopKnobs == [])) = true := by kernel_rfl
theorem gridNullity_k9 : ((Rows.fnExactGridNullityRow.inPlace == Try.pinned.checked.prog.inPlace 6)) = true := by kernel_rfl
theorem gridNullity_k10 : ((Rows.fnExactGridNullityRow.unfollowed == Try.pinned.checked.prog.unfollowed 6)) = true := by kernel_rfl
theorem gridNullity_k11 : ((Rows.fnExactGridNullityRow.recurses == Try.pinned.checked.prog.recurses 6)) = true := by kernel_rfl
theorem gridNullity_k12 : ((Rows.fnExactGridNullityRow.named == Try.pinned.checked.prog.varsNamed 6)) = true := by kernel_rfl
theorem gridNullity_k13 : ((Rows.fnExactGridNullityRow.maps == (Try.f6.params.toList ++ Rows.fnExactGridNullitySpec.plain.varTypes Try.pinned.checked.prog).any (Try.pinned.checked.prog.mapsRec ·))) = true := by kernel_rfl
theorem gridNullity_k14 : ((Rows.fnExactGridNullityRow.ifaces == (Try.f6.params.toList ++ Rows.fnExactGridNullitySpec.plain.varTypes Try.pinned.checked.prog).any (Try.pinned.checked.prog.ifacesRec ·))) = true := by kernel_rfl
theorem gridNullity_k15 : ((Rows.fnExactGridNullityRow.mapsOut == Try.pinned.checked.prog.mapsAmong Try.f6.resultTypes.toList)) = true := by kernel_rfl
theorem gridNullity_k16 : ((Rows.fnExactGridNullityRow.loops == (Try.f6.params.toList ++ Rows.fnExactGridNullitySpec.plain.varTypes Try.pinned.checked.prog).any (Try.pinned.checked.prog.loopsFrom ·))) = true := by kernel_rfl
theorem gridNullity_k17 : ((Rows.fnExactGridNullityRow.wideKeys == (Try.f6.params.toList ++ Rows.fnExactGridNullitySpec.plain.varTypes Try.pinned.checked.prog ++ Try.f6.resultTypes.toList).any (Try.pinned.checked.prog.wideKeysFrom ·))) = true := by kernel_rfl
theorem gridNullity_k18 : (Rows.fnExactGridNullitySpec.vars.all (Try.pinned.checked.prog.varReadable ·)) = true := by kernel_rfl
theorem gridNullity_k19 : (Try.f6.resultTypes.all (fun t => Try.pinned.checked.prog.readableRec t && decide (t < Try.pinned.checked.prog.types.size))) = true := by kernel_rfl
theorem gridNullity_k20 : ((Rows.fnExactGridNullityRow.ifacesOut == Try.f6.resultTypes.toList.any (Try.pinned.checked.prog.ifacesRec ·))) = true := by kernel_rfl
theorem gridNullity_k21 : ((Rows.fnExactGridNullityRow.loopsOut == Try.f6.resultTypes.toList.any (Try.pinned.checked.prog.loopsFrom ·))) = true := by kernel_rfl
theorem gridNullity_k22 : ((Rows.fnExactGridNullityRow.plainKeys == Try.pinned.checked.prog.plainKeys)) = true := by kernel_rfl
theorem gridNullity_k23 : (Rows.fnExactGridNullityRow.shortTexts.isNone) = true := by kernel_rfl
theorem gridNullity_k24 : (Try.pinned.checked.prog.stopsHeard) = true := by kernel_rfl
theorem gridNullity_k25 : (Try.pinned.checked.prog.mayEnter) = true := x_enter
theorem gridNullity_k26 : ((Rows.fnExactGridNullityRow.lifted == Try.pinned.checked.prog.liftsFinal)) = true := by rw [x_lifts]; rfl
theorem gridNullity_k27 : ((Try.pinned.checked.prog.make == some Rows.fnExactGridNullityRow.make)) = true := by rw [x_make]; rfl
theorem gridNullity_k28 : ((Rows.fnExactGridNullityRow.kinds == (if Rows.fnExactGridNullityRow.domain.isEmpty then [] else Try.f6.params.toList.map fun t => match Try.pinned.checked.prog.underlying t with | some (.int k) => some k | _ => none))) = true := by kernel_rfl
theorem gridNullity_k29 : ((Rows.fnExactGridNullityRow.pinned == Rows.fnExactGridNullityRow.pinnedBy)) = true := by kernel_rfl
theorem gridNullity_k30 : ((Rows.fnExactGridNullityRow.veiled == (Try.f6.params.toList ++ Rows.fnExactGridNullitySpec.plain.varTypes Try.pinned.checked.prog ++ Try.f6.resultTypes.toList).any (Try.pinned.checked.prog.veiledRec ·))) = true := by kernel_rfl
theorem gridNullity_k31 : (Rows.fnExactGridNullityRow.veiledFits Try.pinned.checked.prog Try.f6.params.toList (Try.f6.params.toList ++ Rows.fnExactGridNullitySpec.plain.varTypes Try.pinned.checked.prog ++ Try.f6.resultTypes.toList)) = true := by kernel_rfl
theorem gridNullity_pkg : decide (Check.packageOf Try.f6.name = "main") = false := by kernel_rfl
theorem gridNullity_inst : Func.isInstance Try.pinned.checked.prog Try.f6 Rows.fnExactGridNullityRow.origin Rows.fnExactGridNullityRow.targs := of_decide_eq_true (by kernel_rfl)
theorem gridNullity_wrap : Func.isWrapper Try.pinned.checked.prog Try.f6 Rows.fnExactGridNullityRow.wrapper Rows.fnExactGridNullityRow.mainSum := by
  unfold Func.isWrapper; rw [if_neg (of_decide_eq_false gridNullity_pkg)]; exact ⟨rfl, rfl⟩
set_option maxRecDepth 100000 in
theorem gridNullity_closed : joinedFacts Try.pinned.checked.prog 6 Try.f6 Rows.fnExactGridNullitySpec Rows.fnExactGridNullityRow = true :=
  (and_of (and_of (and_of (and_of (and_of (and_of (and_of (and_of (and_of (and_of (and_of (and_of (and_of (and_of (and_of (and_of (and_of (and_of (and_of (and_of (and_of (and_of (and_of (and_of (and_of (and_of (and_of (and_of (and_of (and_of (and_of gridNullity_k0 gridNullity_k1) gridNullity_k2) gridNullity_k3) gridNullity_k4) gridNullity_k5) gridNullity_k6) gridNullity_k7) gridNullity_k8) gridNullity_k9) gridNullity_k10) gridNullity_k11) gridNullity_k12) gridNullity_k13) gridNullity_k14) gridNullity_k15) gridNullity_k16) gridNullity_k17) gridNullity_k18) gridNullity_k19) gridNullity_k20) gridNullity_k21) gridNullity_k22) gridNullity_k23) gridNullity_k24) gridNullity_k25) gridNullity_k26) gridNullity_k27) gridNullity_k28) gridNullity_k29) gridNullity_k30) gridNullity_k31)
theorem gridNullity_holds : Rows.FnExactGridNullitySaid :=
  OpenClaim.holds_of_wide 6 Try.f6 rfl rfl rfl rfl rfl rfl rfl ⟨rfl, rfl, rfl, rfl, rfl⟩ rfl rfl rfl rfl rfl (by kernel_rfl) Try.func6 gridNullity_closed
    gridNullity_inst gridNullity_wrap (fun os started H enc _ => gridNullity_lifted os started H enc)
end Go.Proofs.Ytdpoceijnbbmgaa
