/-
DividePoly answers as its model at every two numbers. No condition.
-/
import Derived.Test.YtmkdikoogbedkaaTD
import Derived.Test.YtmkdikoogbedkaaP
import Derived.Test.YtmkdikoogbedkaaQ1
namespace Go.Proofs.Ytmkdikoogbedkaa
open Go.ChangeShapes Go.WideShapes Go.ChangeAt Go.RowKit
set_option maxRecDepth 100000 in
theorem dividePoly_lifted (os : Os) (started : os.Started) (H : Type) (enc : TypeId × Value → H) :
    ReturnsInHanded {} Try.checked os 4 .any (Rows.fnExactDividePolySpec.pre6 enc Try.prog Try.f4 Rows.fnExactDividePolyRow.domain false) (Rows.fnExactDividePolySpec.post enc Try.prog Try.f4 false true false false) := by
  refine returnsInHanded_of_change (C := Try.checked) Try.own started (by kernel_rfl) Try.func4
    (ChangeSpec.witness6 (enc := enc) (C := Try.checked) false ⟨#[], #[.int .i64 0, .int .i64 0], []⟩ 8 (by kernel_rfl) (by kernel_rfl) (by kernel_rfl) (by kernel_rfl)) ?_
  intro W base args ds gs before hval0 hW hcnd _
  have hval : ∀ (j : Nat) t v, Try.f4.params[j]? = some t → args[j]? = some v → Value.okWide Try.prog W .any base t v := hval0
  have hW' := hW
  obtain ⟨p, q, hA0, hV, rfl, hfz, hnd⟩ := hW
  have hA : DataW.TrodAll enc Try.prog W 0 (fun _ => true) true Try.f4.params.toList args.toList ds p := hA0
  rw [Try.params4] at hA hval
  obtain ⟨v0, v1, d0, d1, p0, p1, rfl, rfl, rfl, h0, h1⟩ := trodAll_two hA
  obtain ⟨rfl, rfl⟩ := trodVars_none hV
  obtain ⟨a0, rfl, rfl, rfl, wa0⟩ := open_int Try.underlying3 (hval 0 3 v0 rfl rfl) h0
  obtain ⟨a1, rfl, rfl, rfl, wa1⟩ := open_int Try.underlying3 (hval 1 3 v1 rfl rfl) h1
  clear hA0 hval0
  simp only [List.append_nil] at hW'
  refine (lawDivide a0 a1 W).mono fun e W' ⟨he, hb⟩ => ?_
  subst he
  exact ⟨_, rfl, post_of_below (pa := []) (pv := []) hW' (fun _ _ _ => trodAll_mk1 (shut_bool Try.underlying4 true))
    (fun sp hsp => trodAll_mk2 (shut_int Try.underlying3 wa0) (shut_int Try.underlying3 wa1)) (fun _ _ => rfl) (by simp) hb
    (ok_one (by kernel_rfl) rfl (okWide_bool_mk Try.underlying4 true))⟩
theorem dividePoly_k0 : (Rows.fnExactDividePolyRow.wf (OpenSpec.ofChange Rows.fnExactDividePolySpec)) = true := by kernel_rfl
theorem dividePoly_k1 : (laidOutB Try.pinned.checked.prog) = true := by kernel_rfl
theorem dividePoly_k2 : (mapsRowed Try.pinned.checked.prog) = true := by kernel_rfl
theorem dividePoly_k3 : (Try.f4.params.all (Try.pinned.checked.prog.readableRec ·)) = true := by kernel_rfl
theorem dividePoly_k4 : (namedTie Try.pinned.checked.prog Rows.fnExactDividePolyRow.named Rows.fnExactDividePolySpec.vars) = true := by kernel_rfl
theorem dividePoly_k5 : ((Rows.fnExactDividePolyRow.stops == [])) = true := by kernel_rfl
theorem dividePoly_k6 : ((Try.pinned.checked.prog.stops == [])) = true := by kernel_rfl
theorem dividePoly_k7 : ((Rows.fnExactDividePolyRow.knobs == [])) = true := by kernel_rfl
theorem dividePoly_k8 : ((Try.pinned.checked.prog.stopKnobs == [])) = true := by kernel_rfl
theorem dividePoly_k9 : ((Rows.fnExactDividePolyRow.inPlace == Try.pinned.checked.prog.inPlace 4)) = true := by kernel_rfl
theorem dividePoly_k10 : ((Rows.fnExactDividePolyRow.unfollowed == Try.pinned.checked.prog.unfollowed 4)) = true := by kernel_rfl
theorem dividePoly_k11 : ((Rows.fnExactDividePolyRow.recurses == Try.pinned.checked.prog.recurses 4)) = true := by kernel_rfl
theorem dividePoly_k12 : ((Rows.fnExactDividePolyRow.named == Try.pinned.checked.prog.varsNamed 4)) = true := by kernel_rfl
theorem dividePoly_k13 : ((Rows.fnExactDividePolyRow.maps == (Try.f4.params.toList ++ Rows.fnExactDividePolySpec.plain.varTypes Try.pinned.checked.prog).any (Try.pinned.checked.prog.mapsRec ·))) = true := by kernel_rfl
theorem dividePoly_k14 : ((Rows.fnExactDividePolyRow.ifaces == (Try.f4.params.toList ++ Rows.fnExactDividePolySpec.plain.varTypes Try.pinned.checked.prog).any (Try.pinned.checked.prog.ifacesRec ·))) = true := by kernel_rfl
theorem dividePoly_k15 : ((Rows.fnExactDividePolyRow.mapsOut == Try.pinned.checked.prog.mapsAmong Try.f4.resultTypes.toList)) = true := by kernel_rfl
theorem dividePoly_k16 : ((Rows.fnExactDividePolyRow.loops == (Try.f4.params.toList ++ Rows.fnExactDividePolySpec.plain.varTypes Try.pinned.checked.prog).any (Try.pinned.checked.prog.loopsFrom ·))) = true := by kernel_rfl
theorem dividePoly_k17 : ((Rows.fnExactDividePolyRow.wideKeys == (Try.f4.params.toList ++ Rows.fnExactDividePolySpec.plain.varTypes Try.pinned.checked.prog ++ Try.f4.resultTypes.toList).any (Try.pinned.checked.prog.wideKeysFrom ·))) = true := by kernel_rfl
theorem dividePoly_k18 : (Rows.fnExactDividePolySpec.vars.all (Try.pinned.checked.prog.varReadable ·)) = true := by kernel_rfl
theorem dividePoly_k19 : (Try.f4.resultTypes.all (fun t => Try.pinned.checked.prog.readableRec t && decide (t < Try.pinned.checked.prog.types.size))) = true := by kernel_rfl
theorem dividePoly_k20 : ((Rows.fnExactDividePolyRow.ifacesOut == Try.f4.resultTypes.toList.any (Try.pinned.checked.prog.ifacesRec ·))) = true := by kernel_rfl
theorem dividePoly_k21 : ((Rows.fnExactDividePolyRow.loopsOut == Try.f4.resultTypes.toList.any (Try.pinned.checked.prog.loopsFrom ·))) = true := by kernel_rfl
theorem dividePoly_k22 : ((Rows.fnExactDividePolyRow.plainKeys == Try.pinned.checked.prog.plainKeys)) = true := by kernel_rfl
theorem dividePoly_k23 : (Rows.fnExactDividePolyRow.shortTexts.isNone) = true := by kernel_rfl
theorem dividePoly_k24 : (Try.pinned.checked.prog.stopsHeard) = true := by kernel_rfl
theorem dividePoly_k25 : (Try.pinned.checked.prog.mayEnter) = true := x_enter
theorem dividePoly_k26 : ((Rows.fnExactDividePolyRow.lifted == Try.pinned.checked.prog.liftsFinal)) = true := by rw [x_lifts]; rfl
theorem dividePoly_k27 : ((Try.pinned.checked.prog.make == some Rows.fnExactDividePolyRow.make)) = true := by rw [x_make]; rfl
theorem dividePoly_k28 : ((Rows.fnExactDividePolyRow.kinds == (if Rows.fnExactDividePolyRow.domain.isEmpty then [] else Try.f4.params.toList.map fun t => match Try.pinned.checked.prog.underlying t with | some (.int k) => some k | _ => none))) = true := by kernel_rfl
theorem dividePoly_k29 : ((Rows.fnExactDividePolyRow.pinned == Rows.fnExactDividePolyRow.pinnedBy)) = true := by kernel_rfl
theorem dividePoly_k30 : ((Rows.fnExactDividePolyRow.veiled == (Try.f4.params.toList ++ Rows.fnExactDividePolySpec.plain.varTypes Try.pinned.checked.prog ++ Try.f4.resultTypes.toList).any (Try.pinned.checked.prog.veiledRec ·))) = true := by kernel_rfl
theorem dividePoly_k31 : (Rows.fnExactDividePolyRow.veiledFits Try.pinned.checked.prog Try.f4.params.toList (Try.f4.params.toList ++ Rows.fnExactDividePolySpec.plain.varTypes Try.pinned.checked.prog ++ Try.f4.resultTypes.toList)) = true := by kernel_rfl
theorem dividePoly_pkg : decide (Check.packageOf Try.f4.name = "main") = false := by kernel_rfl
theorem dividePoly_inst : Func.isInstance Try.pinned.checked.prog Try.f4 Rows.fnExactDividePolyRow.origin Rows.fnExactDividePolyRow.targs := of_decide_eq_true (by kernel_rfl)
theorem dividePoly_wrap : Func.isWrapper Try.pinned.checked.prog Try.f4 Rows.fnExactDividePolyRow.wrapper Rows.fnExactDividePolyRow.mainSum := by
  unfold Func.isWrapper; rw [if_neg (of_decide_eq_false dividePoly_pkg)]; exact ⟨rfl, rfl⟩
set_option maxRecDepth 100000 in
theorem dividePoly_closed : joinedFacts Try.pinned.checked.prog 4 Try.f4 Rows.fnExactDividePolySpec Rows.fnExactDividePolyRow = true :=
  (and_of (and_of (and_of (and_of (and_of (and_of (and_of (and_of (and_of (and_of (and_of (and_of (and_of (and_of (and_of (and_of (and_of (and_of (and_of (and_of (and_of (and_of (and_of (and_of (and_of (and_of (and_of (and_of (and_of (and_of (and_of dividePoly_k0 dividePoly_k1) dividePoly_k2) dividePoly_k3) dividePoly_k4) dividePoly_k5) dividePoly_k6) dividePoly_k7) dividePoly_k8) dividePoly_k9) dividePoly_k10) dividePoly_k11) dividePoly_k12) dividePoly_k13) dividePoly_k14) dividePoly_k15) dividePoly_k16) dividePoly_k17) dividePoly_k18) dividePoly_k19) dividePoly_k20) dividePoly_k21) dividePoly_k22) dividePoly_k23) dividePoly_k24) dividePoly_k25) dividePoly_k26) dividePoly_k27) dividePoly_k28) dividePoly_k29) dividePoly_k30) dividePoly_k31)
theorem dividePoly_holds : Rows.FnExactDividePolySaid :=
  OpenClaim.holds_of_wide 4 Try.f4 rfl rfl rfl rfl rfl rfl rfl ⟨rfl, rfl, rfl, rfl, rfl⟩ rfl rfl rfl rfl rfl (by kernel_rfl) Try.func4 dividePoly_closed
    dividePoly_inst dividePoly_wrap (fun os started H enc _ => dividePoly_lifted os started H enc)
end Go.Proofs.Ytmkdikoogbedkaa
