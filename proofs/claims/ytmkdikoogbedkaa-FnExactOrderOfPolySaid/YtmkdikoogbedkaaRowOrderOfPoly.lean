/-
OrderOfPoly answers as its model at every number. No condition.
-/
import Derived.Test.YtmkdikoogbedkaaTN
import Derived.Test.YtmkdikoogbedkaaP
import Derived.Test.YtmkdikoogbedkaaQ1
namespace Go.Proofs.Ytmkdikoogbedkaa
open Go.ChangeShapes Go.WideShapes Go.ChangeAt Go.RowKit
set_option maxRecDepth 100000 in
theorem orderOfPoly_lifted (os : Os) (started : os.Started) (H : Type) (enc : TypeId × Value → H) :
    ReturnsInHanded {} Try.checked os 11 .any (Rows.fnExactOrderOfPolySpec.pre6 enc Try.prog Try.f11 Rows.fnExactOrderOfPolyRow.domain false) (Rows.fnExactOrderOfPolySpec.post enc Try.prog Try.f11 false true false false) := by
  refine returnsInHanded_of_change (C := Try.checked) Try.own started (by kernel_rfl) Try.func11
    (ChangeSpec.witness6 (enc := enc) (C := Try.checked) false ⟨#[], #[.int .i64 0], []⟩ 8 (by kernel_rfl) (by kernel_rfl) (by kernel_rfl) (by kernel_rfl)) ?_
  intro W base args ds gs before hval0 hW hcnd _
  have hval : ∀ (j : Nat) t v, Try.f11.params[j]? = some t → args[j]? = some v → Value.okWide Try.prog W .any base t v := hval0
  have hW' := hW
  obtain ⟨p, q, hA0, hV, rfl, hfz, hnd⟩ := hW
  have hA : DataW.TrodAll enc Try.prog W 0 (fun _ => true) true Try.f11.params.toList args.toList ds p := hA0
  rw [Try.params11] at hA hval
  obtain ⟨v0, d0, rfl, rfl, h0⟩ := trodAll_one hA
  obtain ⟨rfl, rfl⟩ := trodVars_none hV
  obtain ⟨a0, rfl, rfl, rfl, wa0⟩ := open_int Try.underlying3 (hval 0 3 v0 rfl rfl) h0
  clear hA0 hval0
  simp only [List.append_nil] at hW'
  refine (lawOrder a0 W).mono fun e W' ⟨he, hb⟩ => ?_
  subst he
  exact ⟨_, rfl, post_of_below (pa := []) (pv := []) hW' (fun _ _ _ => trodAll_mk1 (shut_bool Try.underlying4 true))
    (fun sp hsp => trodAll_mk1 (shut_int Try.underlying3 wa0)) (fun _ _ => rfl) (by simp) hb
    (ok_one (by kernel_rfl) rfl (okWide_bool_mk Try.underlying4 true))⟩
theorem orderOfPoly_k0 : (Rows.fnExactOrderOfPolyRow.wf (OpenSpec.ofChange Rows.fnExactOrderOfPolySpec)) = true := by kernel_rfl
theorem orderOfPoly_k1 : (laidOutB Try.pinned.checked.prog) = true := by kernel_rfl
theorem orderOfPoly_k2 : (mapsRowed Try.pinned.checked.prog) = true := by kernel_rfl
theorem orderOfPoly_k3 : (Try.f11.params.all (Try.pinned.checked.prog.readableRec ·)) = true := by kernel_rfl
theorem orderOfPoly_k4 : (namedTie Try.pinned.checked.prog Rows.fnExactOrderOfPolyRow.named Rows.fnExactOrderOfPolySpec.vars) = true := by kernel_rfl
theorem orderOfPoly_k5 : ((Rows.fnExactOrderOfPolyRow.stops == [])) = true := by kernel_rfl
theorem orderOfPoly_k6 : ((Try.pinned.checked.prog.stops == [])) = true := by kernel_rfl
theorem orderOfPoly_k7 : ((Rows.fnExactOrderOfPolyRow.knobs == [])) = true := by kernel_rfl
theorem orderOfPoly_k8 : ((Try.pinned.checked.prog.stopKnobs == [])) = true := by kernel_rfl
theorem orderOfPoly_k9 : ((Rows.fnExactOrderOfPolyRow.inPlace == Try.pinned.checked.prog.inPlace 11)) = true := by kernel_rfl
theorem orderOfPoly_k10 : ((Rows.fnExactOrderOfPolyRow.unfollowed == Try.pinned.checked.prog.unfollowed 11)) = true := by kernel_rfl
theorem orderOfPoly_k11 : ((Rows.fnExactOrderOfPolyRow.recurses == Try.pinned.checked.prog.recurses 11)) = true := by kernel_rfl
theorem orderOfPoly_k12 : ((Rows.fnExactOrderOfPolyRow.named == Try.pinned.checked.prog.varsNamed 11)) = true := by kernel_rfl
theorem orderOfPoly_k13 : ((Rows.fnExactOrderOfPolyRow.maps == (Try.f11.params.toList ++ Rows.fnExactOrderOfPolySpec.plain.varTypes Try.pinned.checked.prog).any (Try.pinned.checked.prog.mapsRec ·))) = true := by kernel_rfl
theorem orderOfPoly_k14 : ((Rows.fnExactOrderOfPolyRow.ifaces == (Try.f11.params.toList ++ Rows.fnExactOrderOfPolySpec.plain.varTypes Try.pinned.checked.prog).any (Try.pinned.checked.prog.ifacesRec ·))) = true := by kernel_rfl
theorem orderOfPoly_k15 : ((Rows.fnExactOrderOfPolyRow.mapsOut == Try.pinned.checked.prog.mapsAmong Try.f11.resultTypes.toList)) = true := by kernel_rfl
theorem orderOfPoly_k16 : ((Rows.fnExactOrderOfPolyRow.loops == (Try.f11.params.toList ++ Rows.fnExactOrderOfPolySpec.plain.varTypes Try.pinned.checked.prog).any (Try.pinned.checked.prog.loopsFrom ·))) = true := by kernel_rfl
theorem orderOfPoly_k17 : ((Rows.fnExactOrderOfPolyRow.wideKeys == (Try.f11.params.toList ++ Rows.fnExactOrderOfPolySpec.plain.varTypes Try.pinned.checked.prog ++ Try.f11.resultTypes.toList).any (Try.pinned.checked.prog.wideKeysFrom ·))) = true := by kernel_rfl
theorem orderOfPoly_k18 : (Rows.fnExactOrderOfPolySpec.vars.all (Try.pinned.checked.prog.varReadable ·)) = true := by kernel_rfl
theorem orderOfPoly_k19 : (Try.f11.resultTypes.all (fun t => Try.pinned.checked.prog.readableRec t && decide (t < Try.pinned.checked.prog.types.size))) = true := by kernel_rfl
theorem orderOfPoly_k20 : ((Rows.fnExactOrderOfPolyRow.ifacesOut == Try.f11.resultTypes.toList.any (Try.pinned.checked.prog.ifacesRec ·))) = true := by kernel_rfl
theorem orderOfPoly_k21 : ((Rows.fnExactOrderOfPolyRow.loopsOut == Try.f11.resultTypes.toList.any (Try.pinned.checked.prog.loopsFrom ·))) = true := by kernel_rfl
theorem orderOfPoly_k22 : ((Rows.fnExactOrderOfPolyRow.plainKeys == Try.pinned.checked.prog.plainKeys)) = true := by kernel_rfl
theorem orderOfPoly_k23 : (Rows.fnExactOrderOfPolyRow.shortTexts.isNone) = true := by kernel_rfl
theorem orderOfPoly_k24 : (Try.pinned.checked.prog.stopsHeard) = true := by kernel_rfl
theorem orderOfPoly_k25 : (Try.pinned.checked.prog.mayEnter) = true := x_enter
theorem orderOfPoly_k26 : ((Rows.fnExactOrderOfPolyRow.lifted == Try.pinned.checked.prog.liftsFinal)) = true := by rw [x_lifts]; rfl
theorem orderOfPoly_k27 : ((Try.pinned.checked.prog.make == some Rows.fnExactOrderOfPolyRow.make)) = true := by rw [x_make]; rfl
theorem orderOfPoly_k28 : ((Rows.fnExactOrderOfPolyRow.kinds == (if Rows.fnExactOrderOfPolyRow.domain.isEmpty then [] else Try.f11.params.toList.map fun t => match Try.pinned.checked.prog.underlying t with | some (.int k) => some k | _ => none))) = true := by kernel_rfl
theorem orderOfPoly_k29 : ((Rows.fnExactOrderOfPolyRow.pinned == Rows.fnExactOrderOfPolyRow.pinnedBy)) = true := by kernel_rfl
theorem orderOfPoly_k30 : ((Rows.fnExactOrderOfPolyRow.veiled == (Try.f11.params.toList ++ Rows.fnExactOrderOfPolySpec.plain.varTypes Try.pinned.checked.prog ++ Try.f11.resultTypes.toList).any (Try.pinned.checked.prog.veiledRec ·))) = true := by kernel_rfl
theorem orderOfPoly_k31 : (Rows.fnExactOrderOfPolyRow.veiledFits Try.pinned.checked.prog Try.f11.params.toList (Try.f11.params.toList ++ Rows.fnExactOrderOfPolySpec.plain.varTypes Try.pinned.checked.prog ++ Try.f11.resultTypes.toList)) = true := by kernel_rfl
theorem orderOfPoly_pkg : decide (Check.packageOf Try.f11.name = "main") = false := by kernel_rfl
theorem orderOfPoly_inst : Func.isInstance Try.pinned.checked.prog Try.f11 Rows.fnExactOrderOfPolyRow.origin Rows.fnExactOrderOfPolyRow.targs := of_decide_eq_true (by kernel_rfl)
theorem orderOfPoly_wrap : Func.isWrapper Try.pinned.checked.prog Try.f11 Rows.fnExactOrderOfPolyRow.wrapper Rows.fnExactOrderOfPolyRow.mainSum := by
  unfold Func.isWrapper; rw [if_neg (of_decide_eq_false orderOfPoly_pkg)]; exact ⟨rfl, rfl⟩
set_option maxRecDepth 100000 in
theorem orderOfPoly_closed : joinedFacts Try.pinned.checked.prog 11 Try.f11 Rows.fnExactOrderOfPolySpec Rows.fnExactOrderOfPolyRow = true :=
  (and_of (and_of (and_of (and_of (and_of (and_of (and_of (and_of (and_of (and_of (and_of (and_of (and_of (and_of (and_of (and_of (and_of (and_of (and_of (and_of (and_of (and_of (and_of (and_of (and_of (and_of (and_of (and_of (and_of (and_of (and_of orderOfPoly_k0 orderOfPoly_k1) orderOfPoly_k2) orderOfPoly_k3) orderOfPoly_k4) orderOfPoly_k5) orderOfPoly_k6) orderOfPoly_k7) orderOfPoly_k8) orderOfPoly_k9) orderOfPoly_k10) orderOfPoly_k11) orderOfPoly_k12) orderOfPoly_k13) orderOfPoly_k14) orderOfPoly_k15) orderOfPoly_k16) orderOfPoly_k17) orderOfPoly_k18) orderOfPoly_k19) orderOfPoly_k20) orderOfPoly_k21) orderOfPoly_k22) orderOfPoly_k23) orderOfPoly_k24) orderOfPoly_k25) orderOfPoly_k26) orderOfPoly_k27) orderOfPoly_k28) orderOfPoly_k29) orderOfPoly_k30) orderOfPoly_k31)
theorem orderOfPoly_holds : Rows.FnExactOrderOfPolySaid :=
  OpenClaim.holds_of_wide 11 Try.f11 rfl rfl rfl rfl rfl rfl rfl ⟨rfl, rfl, rfl, rfl, rfl⟩ rfl rfl rfl rfl rfl (by kernel_rfl) Try.func11 orderOfPoly_closed
    orderOfPoly_inst orderOfPoly_wrap (fun os started H enc _ => orderOfPoly_lifted os started H enc)
end Go.Proofs.Ytmkdikoogbedkaa
