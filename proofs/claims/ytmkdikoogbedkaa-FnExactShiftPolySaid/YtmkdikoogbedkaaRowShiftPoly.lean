/-
ShiftPoly answers as its model at every number. No condition.
-/
import Derived.Test.YtmkdikoogbedkaaTG
import Derived.Test.YtmkdikoogbedkaaP
import Derived.Test.YtmkdikoogbedkaaQ1
namespace Go.Proofs.Ytmkdikoogbedkaa
open Go.ChangeShapes Go.WideShapes Go.ChangeAt Go.RowKit
set_option maxRecDepth 100000 in
theorem shiftPoly_lifted (os : Os) (started : os.Started) (H : Type) (enc : TypeId × Value → H) :
    ReturnsInHanded {} Try.checked os 6 .any (Rows.fnExactShiftPolySpec.pre6 enc Try.prog Try.f6 Rows.fnExactShiftPolyRow.domain false) (Rows.fnExactShiftPolySpec.post enc Try.prog Try.f6 false true false false) := by
  refine returnsInHanded_of_change (C := Try.checked) Try.own started (by kernel_rfl) Try.func6
    (ChangeSpec.witness6 (enc := enc) (C := Try.checked) false ⟨#[], #[.int .i64 0], []⟩ 8 (by kernel_rfl) (by kernel_rfl) (by kernel_rfl) (by kernel_rfl)) ?_
  intro W base args ds gs before hval0 hW hcnd _
  have hval : ∀ (j : Nat) t v, Try.f6.params[j]? = some t → args[j]? = some v → Value.okWide Try.prog W .any base t v := hval0
  have hW' := hW
  obtain ⟨p, q, hA0, hV, rfl, hfz, hnd⟩ := hW
  have hA : DataW.TrodAll enc Try.prog W 0 (fun _ => true) true Try.f6.params.toList args.toList ds p := hA0
  rw [Try.params6] at hA hval
  obtain ⟨v0, d0, rfl, rfl, h0⟩ := trodAll_one hA
  obtain ⟨rfl, rfl⟩ := trodVars_none hV
  obtain ⟨a0, rfl, rfl, rfl, wa0⟩ := open_int Try.underlying3 (hval 0 3 v0 rfl rfl) h0
  clear hA0 hval0
  simp only [List.append_nil] at hW'
  refine (lawShift a0 W).mono fun e W' ⟨he, hb⟩ => ?_
  subst he
  exact ⟨_, rfl, post_of_below (pa := []) (pv := []) hW' (fun _ _ _ => trodAll_mk1 (shut_bool Try.underlying4 true))
    (fun sp hsp => trodAll_mk1 (shut_int Try.underlying3 wa0)) (fun _ _ => rfl) (by simp) hb
    (ok_one (by kernel_rfl) rfl (okWide_bool_mk Try.underlying4 true))⟩
theorem shiftPoly_k0 : (Rows.fnExactShiftPolyRow.wf (OpenSpec.ofChange Rows.fnExactShiftPolySpec)) = true := by kernel_rfl
theorem shiftPoly_k1 : (laidOutB Try.pinned.checked.prog) = true := by kernel_rfl
theorem shiftPoly_k2 : (mapsRowed Try.pinned.checked.prog) = true := by kernel_rfl
theorem shiftPoly_k3 : (Try.f6.params.all (Try.pinned.checked.prog.readableRec ·)) = true := by kernel_rfl
theorem shiftPoly_k4 : (namedTie Try.pinned.checked.prog Rows.fnExactShiftPolyRow.named Rows.fnExactShiftPolySpec.vars) = true := by kernel_rfl
theorem shiftPoly_k5 : ((Rows.fnExactShiftPolyRow.stops == [])) = true := by kernel_rfl
theorem shiftPoly_k6 : ((Try.pinned.checked.prog.stops == [])) = true := by kernel_rfl
theorem shiftPoly_k7 : ((Rows.fnExactShiftPolyRow.knobs == [])) = true := by kernel_rfl
theorem shiftPoly_k8 : ((Try.pinned.checked.prog.stopKnobs == [])) = true := by kernel_rfl
theorem shiftPoly_k9 : ((Rows.fnExactShiftPolyRow.inPlace == Try.pinned.checked.prog.inPlace 6)) = true := by kernel_rfl
theorem shiftPoly_k10 : ((Rows.fnExactShiftPolyRow.unfollowed == Try.pinned.checked.prog.unfollowed 6)) = true := by kernel_rfl
theorem shiftPoly_k11 : ((Rows.fnExactShiftPolyRow.recurses == Try.pinned.checked.prog.recurses 6)) = true := by kernel_rfl
theorem shiftPoly_k12 : ((Rows.fnExactShiftPolyRow.named == Try.pinned.checked.prog.varsNamed 6)) = true := by kernel_rfl
theorem shiftPoly_k13 : ((Rows.fnExactShiftPolyRow.maps == (Try.f6.params.toList ++ Rows.fnExactShiftPolySpec.plain.varTypes Try.pinned.checked.prog).any (Try.pinned.checked.prog.mapsRec ·))) = true := by kernel_rfl
theorem shiftPoly_k14 : ((Rows.fnExactShiftPolyRow.ifaces == (Try.f6.params.toList ++ Rows.fnExactShiftPolySpec.plain.varTypes Try.pinned.checked.prog).any (Try.pinned.checked.prog.ifacesRec ·))) = true := by kernel_rfl
theorem shiftPoly_k15 : ((Rows.fnExactShiftPolyRow.mapsOut == Try.pinned.checked.prog.mapsAmong Try.f6.resultTypes.toList)) = true := by kernel_rfl
theorem shiftPoly_k16 : ((Rows.fnExactShiftPolyRow.loops == (Try.f6.params.toList ++ Rows.fnExactShiftPolySpec.plain.varTypes Try.pinned.checked.prog).any (Try.pinned.checked.prog.loopsFrom ·))) = true := by kernel_rfl
theorem shiftPoly_k17 : ((Rows.fnExactShiftPolyRow.wideKeys == (Try.f6.params.toList ++ Rows.fnExactShiftPolySpec.plain.varTypes Try.pinned.checked.prog ++ Try.f6.resultTypes.toList).any (Try.pinned.checked.prog.wideKeysFrom ·))) = true := by kernel_rfl
theorem shiftPoly_k18 : (Rows.fnExactShiftPolySpec.vars.all (Try.pinned.checked.prog.varReadable ·)) = true := by kernel_rfl
theorem shiftPoly_k19 : (Try.f6.resultTypes.all (fun t => Try.pinned.checked.prog.readableRec t && decide (t < Try.pinned.checked.prog.types.size))) = true := by kernel_rfl
theorem shiftPoly_k20 : ((Rows.fnExactShiftPolyRow.ifacesOut == Try.f6.resultTypes.toList.any (Try.pinned.checked.prog.ifacesRec ·))) = true := by kernel_rfl
theorem shiftPoly_k21 : ((Rows.fnExactShiftPolyRow.loopsOut == Try.f6.resultTypes.toList.any (Try.pinned.checked.prog.loopsFrom ·))) = true := by kernel_rfl
theorem shiftPoly_k22 : ((Rows.fnExactShiftPolyRow.plainKeys == Try.pinned.checked.prog.plainKeys)) = true := by kernel_rfl
theorem shiftPoly_k23 : (Rows.fnExactShiftPolyRow.shortTexts.isNone) = true := by kernel_rfl
theorem shiftPoly_k24 : (Try.pinned.checked.prog.stopsHeard) = true := by kernel_rfl
theorem shiftPoly_k25 : (Try.pinned.checked.prog.mayEnter) = true := x_enter
theorem shiftPoly_k26 : ((Rows.fnExactShiftPolyRow.lifted == Try.pinned.checked.prog.liftsFinal)) = true := by rw [x_lifts]; rfl
theorem shiftPoly_k27 : ((Try.pinned.checked.prog.make == some Rows.fnExactShiftPolyRow.make)) = true := by rw [x_make]; rfl
theorem shiftPoly_k28 : ((Rows.fnExactShiftPolyRow.kinds == (if Rows.fnExactShiftPolyRow.domain.isEmpty then [] else Try.f6.params.toList.map fun t => match Try.pinned.checked.prog.underlying t with | some (.int k) => some k | _ => none))) = true := by kernel_rfl
theorem shiftPoly_k29 : ((Rows.fnExactShiftPolyRow.pinned == Rows.fnExactShiftPolyRow.pinnedBy)) = true := by kernel_rfl
theorem shiftPoly_k30 : ((Rows.fnExactShiftPolyRow.veiled == (Try.f6.params.toList ++ Rows.fnExactShiftPolySpec.plain.varTypes Try.pinned.checked.prog ++ Try.f6.resultTypes.toList).any (Try.pinned.checked.prog.veiledRec ·))) = true := by kernel_rfl
theorem shiftPoly_k31 : (Rows.fnExactShiftPolyRow.veiledFits Try.pinned.checked.prog Try.f6.params.toList (Try.f6.params.toList ++ Rows.fnExactShiftPolySpec.plain.varTypes Try.pinned.checked.prog ++ Try.f6.resultTypes.toList)) = true := by kernel_rfl
theorem shiftPoly_pkg : decide (Check.packageOf Try.f6.name = "main") = false := by kernel_rfl
theorem shiftPoly_inst : Func.isInstance Try.pinned.checked.prog Try.f6 Rows.fnExactShiftPolyRow.origin Rows.fnExactShiftPolyRow.targs := of_decide_eq_true (by kernel_rfl)
theorem shiftPoly_wrap : Func.isWrapper Try.pinned.checked.prog Try.f6 Rows.fnExactShiftPolyRow.wrapper Rows.fnExactShiftPolyRow.mainSum := by
  unfold Func.isWrapper; rw [if_neg (of_decide_eq_false shiftPoly_pkg)]; exact ⟨rfl, rfl⟩
set_option maxRecDepth 100000 in
theorem shiftPoly_closed : joinedFacts Try.pinned.checked.prog 6 Try.f6 Rows.fnExactShiftPolySpec Rows.fnExactShiftPolyRow = true :=
  (and_of (and_of (and_of (and_of (and_of (and_of (and_of (and_of (and_of (and_of (and_of (and_of (and_of (and_of (and_of (and_of (and_of (and_of (and_of (and_of (and_of (and_of (and_of (and_of (and_of (and_of (and_of (and_of (and_of (and_of (and_of shiftPoly_k0 shiftPoly_k1) shiftPoly_k2) shiftPoly_k3) shiftPoly_k4) shiftPoly_k5) shiftPoly_k6) shiftPoly_k7) shiftPoly_k8) shiftPoly_k9) shiftPoly_k10) shiftPoly_k11) shiftPoly_k12) shiftPoly_k13) shiftPoly_k14) shiftPoly_k15) shiftPoly_k16) shiftPoly_k17) shiftPoly_k18) shiftPoly_k19) shiftPoly_k20) shiftPoly_k21) shiftPoly_k22) shiftPoly_k23) shiftPoly_k24) shiftPoly_k25) shiftPoly_k26) shiftPoly_k27) shiftPoly_k28) shiftPoly_k29) shiftPoly_k30) shiftPoly_k31)
theorem shiftPoly_holds : Rows.FnExactShiftPolySaid :=
  OpenClaim.holds_of_wide 6 Try.f6 rfl rfl rfl rfl rfl rfl rfl ⟨rfl, rfl, rfl, rfl, rfl⟩ rfl rfl rfl rfl rfl (by kernel_rfl) Try.func6 shiftPoly_closed
    shiftPoly_inst shiftPoly_wrap (fun os started H enc _ => shiftPoly_lifted os started H enc)
end Go.Proofs.Ytmkdikoogbedkaa
