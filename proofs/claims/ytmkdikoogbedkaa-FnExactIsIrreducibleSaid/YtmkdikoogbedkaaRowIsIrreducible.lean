/-
IsIrreducible answers as its model at every number. No condition.
-/
import Derived.Test.YtmkdikoogbedkaaTK
import Derived.Test.YtmkdikoogbedkaaP
import Derived.Test.YtmkdikoogbedkaaQ1
namespace Go.Proofs.Ytmkdikoogbedkaa
open Go.ChangeShapes Go.WideShapes Go.ChangeAt Go.RowKit
set_option maxRecDepth 100000 in
theorem isIrreducible_lifted (os : Os) (started : os.Started) (H : Type) (enc : TypeId × Value → H) :
    ReturnsInHanded {} Try.checked os 9 .any (Rows.fnExactIsIrreducibleSpec.pre6 enc Try.prog Try.f9 Rows.fnExactIsIrreducibleRow.domain false) (Rows.fnExactIsIrreducibleSpec.post enc Try.prog Try.f9 false true false false) := by
  refine returnsInHanded_of_change (C := Try.checked) Try.own started (by kernel_rfl) Try.func9
    (ChangeSpec.witness6 (enc := enc) (C := Try.checked) false ⟨#[], #[.int .i64 0], []⟩ 8 (by kernel_rfl) (by kernel_rfl) (by kernel_rfl) (by kernel_rfl)) ?_
  intro W base args ds gs before hval0 hW hcnd _
  have hval : ∀ (j : Nat) t v, Try.f9.params[j]? = some t → args[j]? = some v → Value.okWide Try.prog W .any base t v := hval0
  have hW' := hW
  obtain ⟨p, q, hA0, hV, rfl, hfz, hnd⟩ := hW
  have hA : DataW.TrodAll enc Try.prog W 0 (fun _ => true) true Try.f9.params.toList args.toList ds p := hA0
  rw [Try.params9] at hA hval
  obtain ⟨v0, d0, rfl, rfl, h0⟩ := trodAll_one hA
  obtain ⟨rfl, rfl⟩ := trodVars_none hV
  obtain ⟨a0, rfl, rfl, rfl, wa0⟩ := open_int Try.underlying3 (hval 0 3 v0 rfl rfl) h0
  clear hA0 hval0
  simp only [List.append_nil] at hW'
  refine (lawIrreducible a0 W).mono fun e W' ⟨he, hb⟩ => ?_
  subst he
  exact ⟨_, rfl, post_of_below (pa := []) (pv := []) hW' (fun _ _ _ => trodAll_mk1 (shut_bool Try.underlying4 true))
    (fun sp hsp => trodAll_mk1 (shut_int Try.underlying3 wa0)) (fun _ _ => rfl) (by simp) hb
    (ok_one (by kernel_rfl) rfl (okWide_bool_mk Try.underlying4 true))⟩
theorem isIrreducible_k0 : (Rows.fnExactIsIrreducibleRow.wf (OpenSpec.ofChange Rows.fnExactIsIrreducibleSpec)) = true := by kernel_rfl
theorem isIrreducible_k1 : (laidOutB Try.pinned.checked.prog) = true := by kernel_rfl
theorem isIrreducible_k2 : (mapsRowed Try.pinned.checked.prog) = true := by kernel_rfl
theorem isIrreducible_k3 : (Try.f9.params.all (Try.pinned.checked.prog.readableRec ·)) = true := by kernel_rfl
theorem isIrreducible_k4 : (namedTie Try.pinned.checked.prog Rows.fnExactIsIrreducibleRow.named Rows.fnExactIsIrreducibleSpec.vars) = true := by kernel_rfl
theorem isIrreducible_k5 : ((Rows.fnExactIsIrreducibleRow.stops == [])) = true := by kernel_rfl
theorem isIrreducible_k6 : ((Try.pinned.checked.prog.stops == [])) = true := by kernel_rfl
theorem isIrreducible_k7 : ((Rows.fnExactIsIrreducibleRow.knobs == [])) = true := by kernel_rfl
theorem isIrreducible_k8 : ((Try.pinned.checked.prog.stopKnobs == [])) = true := by kernel_rfl
theorem isIrreducible_k9 : ((Rows.fnExactIsIrreducibleRow.inPlace == Try.pinned.checked.prog.inPlace 9)) = true := by kernel_rfl
theorem isIrreducible_k10 : ((Rows.fnExactIsIrreducibleRow.unfollowed == Try.pinned.checked.prog.unfollowed 9)) = true := by kernel_rfl
theorem isIrreducible_k11 : ((Rows.fnExactIsIrreducibleRow.recurses == Try.pinned.checked.prog.recurses 9)) = true := by kernel_rfl
theorem isIrreducible_k12 : ((Rows.fnExactIsIrreducibleRow.named == Try.pinned.checked.prog.varsNamed 9)) = true := by kernel_rfl
theorem isIrreducible_k13 : ((Rows.fnExactIsIrreducibleRow.maps == (Try.f9.params.toList ++ Rows.fnExactIsIrreducibleSpec.plain.varTypes Try.pinned.checked.prog).any (Try.pinned.checked.prog.mapsRec ·))) = true := by kernel_rfl
theorem isIrreducible_k14 : ((Rows.fnExactIsIrreducibleRow.ifaces == (Try.f9.params.toList ++ Rows.fnExactIsIrreducibleSpec.plain.varTypes Try.pinned.checked.prog).any (Try.pinned.checked.prog.ifacesRec ·))) = true := by kernel_rfl
theorem isIrreducible_k15 : ((Rows.fnExactIsIrreducibleRow.mapsOut == Try.pinned.checked.prog.mapsAmong Try.f9.resultTypes.toList)) = true := by kernel_rfl
theorem isIrreducible_k16 : ((Rows.fnExactIsIrreducibleRow.loops == (Try.f9.params.toList ++ Rows.fnExactIsIrreducibleSpec.plain.varTypes Try.pinned.checked.prog).any (Try.pinned.checked.prog.loopsFrom ·))) = true := by kernel_rfl
theorem isIrreducible_k17 : ((Rows.fnExactIsIrreducibleRow.wideKeys == (Try.f9.params.toList ++ Rows.fnExactIsIrreducibleSpec.plain.varTypes Try.pinned.checked.prog ++ Try.f9.resultTypes.toList).any (Try.pinned.checked.prog.wideKeysFrom ·))) = true := by kernel_rfl
theorem isIrreducible_k18 : (Rows.fnExactIsIrreducibleSpec.vars.all (Try.pinned.checked.prog.varReadable ·)) = true := by kernel_rfl
theorem isIrreducible_k19 : (Try.f9.resultTypes.all (fun t => Try.pinned.checked.prog.readableRec t && decide (t < Try.pinned.checked.prog.types.size))) = true := by kernel_rfl
theorem isIrreducible_k20 : ((Rows.fnExactIsIrreducibleRow.ifacesOut == Try.f9.resultTypes.toList.any (Try.pinned.checked.prog.ifacesRec ·))) = true := by kernel_rfl
theorem isIrreducible_k21 : ((Rows.fnExactIsIrreducibleRow.loopsOut == Try.f9.resultTypes.toList.any (Try.pinned.checked.prog.loopsFrom ·))) = true := by kernel_rfl
theorem isIrreducible_k22 : ((Rows.fnExactIsIrreducibleRow.plainKeys == Try.pinned.checked.prog.plainKeys)) = true := by kernel_rfl
theorem isIrreducible_k23 : (Rows.fnExactIsIrreducibleRow.shortTexts.isNone) = true := by kernel_rfl
theorem isIrreducible_k24 : (Try.pinned.checked.prog.stopsHeard) = true := by kernel_rfl
theorem isIrreducible_k25 : (Try.pinned.checked.prog.mayEnter) = true := x_enter
theorem isIrreducible_k26 : ((Rows.fnExactIsIrreducibleRow.lifted == Try.pinned.checked.prog.liftsFinal)) = true := by rw [x_lifts]; rfl
theorem isIrreducible_k27 : ((Try.pinned.checked.prog.make == some Rows.fnExactIsIrreducibleRow.make)) = true := by rw [x_make]; rfl
theorem isIrreducible_k28 : ((Rows.fnExactIsIrreducibleRow.kinds == (if Rows.fnExactIsIrreducibleRow.domain.isEmpty then [] else Try.f9.params.toList.map fun t => match Try.pinned.checked.prog.underlying t with | some (.int k) => some k | _ => none))) = true := by kernel_rfl
theorem isIrreducible_k29 : ((Rows.fnExactIsIrreducibleRow.pinned == Rows.fnExactIsIrreducibleRow.pinnedBy)) = true := by kernel_rfl
theorem isIrreducible_k30 : ((Rows.fnExactIsIrreducibleRow.veiled == (Try.f9.params.toList ++ Rows.fnExactIsIrreducibleSpec.plain.varTypes Try.pinned.checked.prog ++ Try.f9.resultTypes.toList).any (Try.pinned.checked.prog.veiledRec ·))) = true := by kernel_rfl
theorem isIrreducible_k31 : (Rows.fnExactIsIrreducibleRow.veiledFits Try.pinned.checked.prog Try.f9.params.toList (Try.f9.params.toList ++ Rows.fnExactIsIrreducibleSpec.plain.varTypes Try.pinned.checked.prog ++ Try.f9.resultTypes.toList)) = true := by kernel_rfl
theorem isIrreducible_pkg : decide (Check.packageOf Try.f9.name = "main") = false := by kernel_rfl
theorem isIrreducible_inst : Func.isInstance Try.pinned.checked.prog Try.f9 Rows.fnExactIsIrreducibleRow.origin Rows.fnExactIsIrreducibleRow.targs := of_decide_eq_true (by kernel_rfl)
theorem isIrreducible_wrap : Func.isWrapper Try.pinned.checked.prog Try.f9 Rows.fnExactIsIrreducibleRow.wrapper Rows.fnExactIsIrreducibleRow.mainSum := by
  unfold Func.isWrapper; rw [if_neg (of_decide_eq_false isIrreducible_pkg)]; exact ⟨rfl, rfl⟩
set_option maxRecDepth 100000 in
theorem isIrreducible_closed : joinedFacts Try.pinned.checked.prog 9 Try.f9 Rows.fnExactIsIrreducibleSpec Rows.fnExactIsIrreducibleRow = true :=
  (and_of (and_of (and_of (and_of (and_of (and_of (and_of (and_of (and_of (and_of (and_of (and_of (and_of (and_of (and_of (and_of (and_of (and_of (and_of (and_of (and_of (and_of (and_of (and_of (and_of (and_of (and_of (and_of (and_of (and_of (and_of isIrreducible_k0 isIrreducible_k1) isIrreducible_k2) isIrreducible_k3) isIrreducible_k4) isIrreducible_k5) isIrreducible_k6) isIrreducible_k7) isIrreducible_k8) isIrreducible_k9) isIrreducible_k10) isIrreducible_k11) isIrreducible_k12) isIrreducible_k13) isIrreducible_k14) isIrreducible_k15) isIrreducible_k16) isIrreducible_k17) isIrreducible_k18) isIrreducible_k19) isIrreducible_k20) isIrreducible_k21) isIrreducible_k22) isIrreducible_k23) isIrreducible_k24) isIrreducible_k25) isIrreducible_k26) isIrreducible_k27) isIrreducible_k28) isIrreducible_k29) isIrreducible_k30) isIrreducible_k31)
theorem isIrreducible_holds : Rows.FnExactIsIrreducibleSaid :=
  OpenClaim.holds_of_wide 9 Try.f9 rfl rfl rfl rfl rfl rfl rfl ⟨rfl, rfl, rfl, rfl, rfl⟩ rfl rfl rfl rfl rfl (by kernel_rfl) Try.func9 isIrreducible_closed
    isIrreducible_inst isIrreducible_wrap (fun os started H enc _ => isIrreducible_lifted os started H enc)
end Go.Proofs.Ytmkdikoogbedkaa
