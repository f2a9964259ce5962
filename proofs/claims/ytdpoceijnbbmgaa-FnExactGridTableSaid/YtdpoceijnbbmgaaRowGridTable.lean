/-
GridTable answers as its model at every number, and its answers share no memory. No condition.
-/
import Derived.Test.YtdpoceijnbbmgaaGT
import Derived.Test.YtdpoceijnbbmgaaP
import Derived.Test.YtdpoceijnbbmgaaQ1
import Derived.ChangeMaps5
namespace Go.Proofs.Ytdpoceijnbbmgaa
open Go.ChangeShapes Go.WideShapes Go.ChangeAt Go.RowKit Go.ChangeMaps
set_option maxRecDepth 100000 in
theorem gridTable_lifted (os : Os) (started : os.Started) (H : Type) (enc : TypeId × Value → H) :
    ReturnsInHanded {} Try.checked os 7 .any (Rows.fnExactGridTableSpec.pre6 enc Try.prog Try.f7 Rows.fnExactGridTableRow.domain false) (Rows.fnExactGridTableSpec.post enc Try.prog Try.f7 false true false false) := by
  refine returnsInHanded_of_change (C := Try.checked) Try.own started (by kernel_rfl) Try.func7
    (ChangeSpec.witness6 (enc := enc) (C := Try.checked) false ⟨#[], #[.int .i64 0, .bool false], []⟩ 8 (by kernel_rfl) (by kernel_rfl) (by kernel_rfl) (by kernel_rfl)) ?_
  intro W base args ds gs before hval0 hW hcnd _
  have hval : ∀ (j : Nat) t v, Try.f7.params[j]? = some t → args[j]? = some v → Value.okWide Try.prog W .any base t v := hval0
  have hW' := hW
  obtain ⟨p, q, hA0, hV, rfl, hfz, hnd⟩ := hW
  have hA : DataW.TrodAll enc Try.prog W 0 (fun _ => true) true Try.f7.params.toList args.toList ds p := hA0
  rw [Try.params7] at hA hval
  obtain ⟨v0, v1, d0, d1, p0, p1, rfl, rfl, rfl, h0, h1⟩ := trodAll_two hA
  obtain ⟨rfl, rfl⟩ := trodVars_none hV
  obtain ⟨a0, rfl, rfl, rfl, wa0⟩ := open_int Try.underlying3 (hval 0 3 v0 rfl rfl) h0
  obtain ⟨b1, rfl, rfl, rfl⟩ := open_bool Try.underlying4 (hval 1 4 v1 rfl rfl) h1
  clear hA0 hval0
  simp only [List.append_nil] at hW'
  refine (lawGridTable a0 b1 W).mono fun e W' ⟨he, hb⟩ => ?_
  subst he
  exact ⟨_, rfl, post_of_below (pa := []) (pv := []) hW' (fun _ _ _ => trodAll_mk1 (shut_bool Try.underlying4 true))
    (fun sp hsp => trodAll_mk2 (shut_int Try.underlying3 wa0) (shut_bool Try.underlying4 b1)) (fun _ _ => rfl) (by simp) hb
    (ok_one (by kernel_rfl) rfl (okWide_bool_mk Try.underlying4 true))⟩
theorem gridTable_k0 : (Rows.fnExactGridTableRow.wf (OpenSpec.ofChange Rows.fnExactGridTableSpec)) = true := by kernel_rfl
theorem gridTable_k1 : (laidOutB Try.pinned.checked.prog) = true := by kernel_rfl
theorem gridTable_k2 : (mapsRowed Try.pinned.checked.prog) = true := by kernel_rfl
theorem gridTable_k3 : (Try.f7.params.all (Try.pinned.checked.prog.readableRec ·)) = true := by kernel_rfl
theorem gridTable_k4 : (namedTie Try.pinned.checked.prog Rows.fnExactGridTableRow.named Rows.fnExactGridTableSpec.vars) = true := by kernel_rfl
theorem gridTable_k5 : ((Rows.fnExactGridTableRow.stops == [])) = true := by kernel_rfl
theorem gridTable_k6 : ((Try.pinned.checked.prog.stops == [])) = true := by kernel_rfl
theorem gridTable_k7 : ((Rows.fnExactGridTableRow.knobs == [])) = true := by kernel_rfl
theorem gridTable_k8 : ((Try.pinned.checked.prog.stopKnobs == [])) = true := by kernel_rfl
theorem gridTable_k9 : ((Rows.fnExactGridTableRow.inPlace == Try.pinned.checked.prog.inPlace 7)) = true := by kernel_rfl
theorem gridTable_k10 : ((Rows.fnExactGridTableRow.unfollowed == Try.pinned.checked.prog.unfollowed 7)) = true := by kernel_rfl
theorem gridTable_k11 : ((Rows.fnExactGridTableRow.recurses == Try.pinned.checked.prog.recurses 7)) = true := by kernel_rfl
theorem gridTable_k12 : ((Rows.fnExactGridTableRow.named == Try.pinned.checked.prog.varsNamed 7)) = true := by kernel_rfl
theorem gridTable_k13 : ((Rows.fnExactGridTableRow.maps == (Try.f7.params.toList ++ Rows.fnExactGridTableSpec.plain.varTypes Try.pinned.checked.prog).any (Try.pinned.checked.prog.mapsRec ·))) = true := by kernel_rfl
theorem gridTable_k14 : ((Rows.fnExactGridTableRow.ifaces == (Try.f7.params.toList ++ Rows.fnExactGridTableSpec.plain.varTypes Try.pinned.checked.prog).any (Try.pinned.checked.prog.ifacesRec ·))) = true := by kernel_rfl
theorem gridTable_k15 : ((Rows.fnExactGridTableRow.mapsOut == Try.pinned.checked.prog.mapsAmong Try.f7.resultTypes.toList)) = true := by kernel_rfl
theorem gridTable_k16 : ((Rows.fnExactGridTableRow.loops == (Try.f7.params.toList ++ Rows.fnExactGridTableSpec.plain.varTypes Try.pinned.checked.prog).any (Try.pinned.checked.prog.loopsFrom ·))) = true := by kernel_rfl
theorem gridTable_k17 : ((Rows.fnExactGridTableRow.wideKeys == (Try.f7.params.toList ++ Rows.fnExactGridTableSpec.plain.varTypes Try.pinned.checked.prog ++ Try.f7.resultTypes.toList).any (Try.pinned.checked.prog.wideKeysFrom ·))) = true := by kernel_rfl
theorem gridTable_k18 : (Rows.fnExactGridTableSpec.vars.all (Try.pinned.checked.prog.varReadable ·)) = true := by kernel_rfl
theorem gridTable_k19 : (Try.f7.resultTypes.all (fun t => Try.pinned.checked.prog.readableRec t && decide (t < Try.pinned.checked.prog.types.size))) = true := by kernel_rfl
theorem gridTable_k20 : ((Rows.fnExactGridTableRow.ifacesOut == Try.f7.resultTypes.toList.any (Try.pinned.checked.prog.ifacesRec ·))) = true := by kernel_rfl
theorem gridTable_k21 : ((Rows.fnExactGridTableRow.loopsOut == Try.f7.resultTypes.toList.any (Try.pinned.checked.prog.loopsFrom ·))) = true := by kernel_rfl
theorem gridTable_k22 : ((Rows.fnExactGridTableRow.plainKeys == Try.pinned.checked.prog.plainKeys)) = true := by kernel_rfl
theorem gridTable_k23 : (Rows.fnExactGridTableRow.shortTexts.isNone) = true := by kernel_rfl
theorem gridTable_k24 : (Try.pinned.checked.prog.stopsHeard) = true := by kernel_rfl
theorem gridTable_k25 : (Try.pinned.checked.prog.mayEnter) = true := x_enter
theorem gridTable_k26 : ((Rows.fnExactGridTableRow.lifted == Try.pinned.checked.prog.liftsFinal)) = true := by rw [x_lifts]; rfl
theorem gridTable_k27 : ((Try.pinned.checked.prog.make == some Rows.fnExactGridTableRow.make)) = true := by rw [x_make]; rfl
theorem gridTable_k28 : ((Rows.fnExactGridTableRow.kinds == (if Rows.fnExactGridTableRow.domain.isEmpty then [] else Try.f7.params.toList.map fun t => match Try.pinned.checked.prog.underlying t with | some (.int k) => some k | _ => none))) = true := by kernel_rfl
theorem gridTable_k29 : ((Rows.fnExactGridTableRow.pinned == Rows.fnExactGridTableRow.pinnedBy)) = true := by kernel_rfl
theorem gridTable_k30 : ((Rows.fnExactGridTableRow.veiled == (Try.f7.params.toList ++ Rows.fnExactGridTableSpec.plain.varTypes Try.pinned.checked.prog ++ Try.f7.resultTypes.toList).any (Try.pinned.checked.prog.veiledRec ·))) = true := by kernel_rfl
theorem gridTable_k31 : (Rows.fnExactGridTableRow.veiledFits Try.pinned.checked.prog Try.f7.params.toList (Try.f7.params.toList ++ Rows.fnExactGridTableSpec.plain.varTypes Try.pinned.checked.prog ++ Try.f7.resultTypes.toList)) = true := by kernel_rfl
theorem gridTable_pkg : decide (Check.packageOf Try.f7.name = "main") = false := by kernel_rfl
theorem gridTable_inst : Func.isInstance Try.pinned.checked.prog Try.f7 Rows.fnExactGridTableRow.origin Rows.fnExactGridTableRow.targs := of_decide_eq_true (by kernel_rfl)
theorem gridTable_wrap : Func.isWrapper Try.pinned.checked.prog Try.f7 Rows.fnExactGridTableRow.wrapper Rows.fnExactGridTableRow.mainSum := by
  unfold Func.isWrapper; rw [if_neg (of_decide_eq_false gridTable_pkg)]; exact ⟨rfl, rfl⟩
set_option maxRecDepth 100000 in
theorem gridTable_closed : joinedFacts Try.pinned.checked.prog 7 Try.f7 Rows.fnExactGridTableSpec Rows.fnExactGridTableRow = true :=
  (and_of (and_of (and_of (and_of (and_of (and_of (and_of (and_of (and_of (and_of (and_of (and_of (and_of (and_of (and_of (and_of (and_of (and_of (and_of (and_of (and_of (and_of (and_of (and_of (and_of (and_of (and_of (and_of (and_of (and_of (and_of gridTable_k0 gridTable_k1) gridTable_k2) gridTable_k3) gridTable_k4) gridTable_k5) gridTable_k6) gridTable_k7) gridTable_k8) gridTable_k9) gridTable_k10) gridTable_k11) gridTable_k12) gridTable_k13) gridTable_k14) gridTable_k15) gridTable_k16) gridTable_k17) gridTable_k18) gridTable_k19) gridTable_k20) gridTable_k21) gridTable_k22) gridTable_k23) gridTable_k24) gridTable_k25) gridTable_k26) gridTable_k27) gridTable_k28) gridTable_k29) gridTable_k30) gridTable_k31)
theorem gridTable_holds : Rows.FnExactGridTableSaid :=
  OpenClaim.holds_of_wide 7 Try.f7 rfl rfl rfl rfl rfl rfl rfl ⟨rfl, rfl, rfl, rfl, rfl⟩ rfl rfl rfl rfl rfl (by kernel_rfl) Try.func7 gridTable_closed
    gridTable_inst gridTable_wrap (fun os started H enc _ => gridTable_lifted os started H enc)
end Go.Proofs.Ytdpoceijnbbmgaa
