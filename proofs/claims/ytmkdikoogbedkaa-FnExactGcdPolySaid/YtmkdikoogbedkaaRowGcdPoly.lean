/-
GcdPoly answers as its model at every two numbers. No condition.
-/
import Derived.Test.YtmkdikoogbedkaaTE
import Derived.Test.YtmkdikoogbedkaaP
import Derived.Test.YtmkdikoogbedkaaQ1
namespace Go.Proofs.Ytmkdikoogbedkaa
open Go.ChangeShapes Go.WideShapes Go.ChangeAt Go.RowKit
set_option maxRecDepth 100000 in
theorem gcdPoly_lifted (os : Os) (started : os.Started) (H : Type) (enc : TypeId × Value → H) :
    ReturnsInHanded {} Try.checked os 5 .any (Rows.fnExactGcdPolySpec.pre6 enc Try.prog Try.f5 Rows.fnExactGcdPolyRow.domain false) (Rows.fnExactGcdPolySpec.post enc Try.prog Try.f5 false true false false) := by
  refine returnsInHanded_of_change (C := Try.checked) Try.own started (by kernel_rfl) Try.func5
    (ChangeSpec.witness6 (enc := enc) (C := Try.checked) false ⟨#[], #[.int .i64 0, .int .i64 0], []⟩ 8 (by kernel_rfl) (by kernel_rfl) (by kernel_rfl) (by kernel_rfl)) ?_
  intro W base args ds gs before hval0 hW hcnd _
  have hval : ∀ (j : Nat) t v, Try.f5.params[j]? = some t → args[j]? = some v → Value.okWide Try.prog W .any base t v := hval0
  have hW' := hW
  obtain ⟨p, q, hA0, hV, rfl, hfz, hnd⟩ := hW
  have hA : DataW.TrodAll enc Try.prog W 0 (fun _ => true) true Try.f5.params.toList args.toList ds p := hA0
  rw [Try.params5] at hA hval
  obtain ⟨v0, v1, d0, d1, p0, p1, rfl, rfl, rfl, h0, h1⟩ := trodAll_two hA
  obtain ⟨rfl, rfl⟩ := trodVars_none hV
  obtain ⟨a0, rfl, rfl, rfl, wa0⟩ := open_int Try.underlying3 (hval 0 3 v0 rfl rfl) h0
  obtain ⟨a1, rfl, rfl, rfl, wa1⟩ := open_int Try.underlying3 (hval 1 3 v1 rfl rfl) h1
  clear hA0 hval0
  simp only [List.append_nil] at hW'
  refine (lawGcd a0 a1 W).mono fun e W' ⟨he, hb⟩ => ?_
  subst he
  exact ⟨_, rfl, post_of_below (pa := []) (pv := []) hW' (fun _ _ _ => trodAll_mk1 (shut_bool Try.underlying4 true))
    (fun sp hsp => trodAll_mk2 (shut_int Try.underlying3 wa0) (shut_int Try.underlying3 wa1)) (fun _ _ => rfl) (by simp) hb
    (ok_one (by kernel_rfl) rfl (okWide_bool_mk Try.underlying4 true))⟩
theorem gcdPoly_k0 : (Rows.fnExactGcdPolyRow.wf (OpenSpec.ofChange Rows.fnExactGcdPolySpec)) = true := by kernel_rfl
theorem gcdPoly_k1 : (laidOutB Try.pinned.checked.prog) = true := by kernel_rfl
theorem gcdPoly_k2 : (mapsRowed Try.pinned.checked.prog) = true := by kernel_rfl
theorem gcdPoly_k3 : (Try.f5.params.all (Try.pinned.checked.prog.readableRec ·)) = true := by kernel_rfl
theorem gcdPoly_k4 : (namedTie Try.pinned.checked.prog Rows.fnExactGcdPolyRow.named Rows.fnExactGcdPolySpec.vars) = true := by kernel_rfl
theorem gcdPoly_k5 : ((Rows.fnExactGcdPolyRow.stops == [])) = true := by kernel_rfl
theorem gcdPoly_k6 : ((Try.pinned.checked.prog.stops == [])) = true := by kernel_rfl
theorem gcdPoly_k7 : ((Rows.fnExactGcdPolyRow.knobs == [])) = true := by kernel_rfl
theorem gcdPoly_k8 : ((Try.pinned.checked.prog.stopKnobs == [])) = true := by kernel_rfl
theorem gcdPoly_k9 : ((Rows.fnExactGcdPolyRow.inPlace == Try.pinned.checked.prog.inPlace 5)) = true := by kernel_rfl
theorem gcdPoly_k10 : ((Rows.fnExactGcdPolyRow.unfollowed == Try.pinned.checked.prog.unfollowed 5)) = true := by kernel_rfl
theorem gcdPoly_k11 : ((Rows.fnExactGcdPolyRow.recurses == Try.pinned.checked.prog.recurses 5)) = true := by kernel_rfl
theorem gcdPoly_k12 : ((Rows.fnExactGcdPolyRow.named == Try.pinned.checked.prog.varsNamed 5)) = true := by kernel_rfl
theorem gcdPoly_k13 : ((Rows.fnExactGcdPolyRow.maps == (Try.f5.params.toList ++ Rows.fnExactGcdPolySpec.plain.varTypes Try.pinned.checked.prog).any (Try.pinned.checked.prog.mapsRec ·))) = true := by kernel_rfl
theorem gcdPoly_k14 : ((Rows.fnExactGcdPolyRow.ifaces == (Try.f5.params.toList ++ Rows.fnExactGcdPolySpec.plain.varTypes Try.pinned.checked.prog).any (Try.pinned.checked.prog.ifacesRec ·))) = true := by kernel_rfl
theorem gcdPoly_k15 : ((Rows.fnExactGcdPolyRow.mapsOut == Try.pinned.checked.prog.mapsAmong Try.f5.resultTypes.toList)) = true := by kernel_rfl
theorem gcdPoly_k16 : ((Rows.fnExactGcdPolyRow.loops == (Try.f5.params.toList ++ Rows.fnExactGcdPolySpec.plain.varTypes Try.pinned.checked.prog).any (Try.pinned.checked.prog.loopsFrom ·))) = true := by kernel_rfl
theorem gcdPoly_k17 : ((Rows.fnExactGcdPolyRow.wideKeys == (Try.f5.params.toList ++ Rows.fnExactGcdPolySpec.plain.varTypes Try.pinned.checked.prog ++ Try.f5.resultTypes.toList).any (Try.pinned.checked.prog.wideKeysFrom ·))) = true := by kernel_rfl
theorem gcdPoly_k18 : (Rows.fnExactGcdPolySpec.vars.all (Try.pinned.checked.prog.varReadable ·)) = true := by kernel_rfl
theorem gcdPoly_k19 : (Try.f5.resultTypes.all (fun t => Try.pinned.checked.prog.readableRec t && decide (t < Try.pinned.checked.prog.types.size))) = true := by kernel_rfl
theorem gcdPoly_k20 : ((Rows.fnExactGcdPolyRow.ifacesOut == Try.f5.resultTypes.toList.any (Try.pinned.checked.prog.ifacesRec ·))) = true := by kernel_rfl
theorem gcdPoly_k21 : ((Rows.fnExactGcdPolyRow.loopsOut == Try.f5.resultTypes.toList.any (Try.pinned.checked.prog.loopsFrom ·))) = true := by kernel_rfl
theorem gcdPoly_k22 : ((Rows.fnExactGcdPolyRow.plainKeys == Try.pinned.checked.prog.plainKeys)) = true := by kernel_rfl
theorem gcdPoly_k23 : (Rows.fnExactGcdPolyRow.shortTexts.isNone) = true := by kernel_rfl
theorem gcdPoly_k24 : (Try.pinned.checked.prog.stopsHeard) = true := by kernel_rfl
theorem gcdPoly_k25 : (Try.pinned.checked.prog.mayEnter) = true := x_enter
theorem gcdPoly_k26 : ((Rows.fnExactGcdPolyRow.lifted == Try.pinned.checked.prog.liftsFinal)) = true := by rw [x_lifts]; rfl
theorem gcdPoly_k27 : ((Try.pinned.checked.prog.make == some Rows.fnExactGcdPolyRow.make)) = true := by rw [x_make]; rfl
theorem gcdPoly_k28 : ((Rows.fnExactGcdPolyRow.kinds == (if Rows.fnExactGcdPolyRow.domain.isEmpty then [] else Try.f5.params.toList.map fun t => match Try.pinned.checked.prog.underlying t with | some (.int k) => some k | _ => none))) = true := by kernel_rfl
theorem gcdPoly_k29 : ((Rows.fnExactGcdPolyRow.pinned == Rows.fnExactGcdPolyRow.pinnedBy)) = true := by kernel_rfl
theorem gcdPoly_k30 : ((Rows.fnExactGcdPolyRow.veiled == (Try.f5.params.toList ++ Rows.fnExactGcdPolySpec.plain.varTypes Try.pinned.checked.prog ++ Try.f5.resultTypes.toList).any (Try.pinned.checked.prog.veiledRec ·))) = true := by kernel_rfl
theorem gcdPoly_k31 : (Rows.fnExactGcdPolyRow.veiledFits Try.pinned.checked.prog Try.f5.params.toList (Try.f5.params.toList ++ Rows.fnExactGcdPolySpec.plain.varTypes Try.pinned.checked.prog ++ Try.f5.resultTypes.toList)) = true := by kernel_rfl
theorem gcdPoly_pkg : decide (Check.packageOf Try.f5.name = "main") = false := by kernel_rfl
theorem gcdPoly_inst : Func.isInstance Try.pinned.checked.prog Try.f5 Rows.fnExactGcdPolyRow.origin Rows.fnExactGcdPolyRow.targs := of_decide_eq_true (by kernel_rfl)
theorem gcdPoly_wrap : Func.isWrapper Try.pinned.checked.prog Try.f5 Rows.fnExactGcdPolyRow.wrapper Rows.fnExactGcdPolyRow.mainSum := by
  unfold Func.isWrapper; rw [if_neg (of_decide_eq_false gcdPoly_pkg)]; exact ⟨rfl, rfl⟩
set_option maxRecDepth 100000 in
theorem gcdPoly_closed : joinedFacts Try.pinned.checked.prog 5 Try.f5 Rows.fnExactGcdPolySpec Rows.fnExactGcdPolyRow = true :=
  (and_of (and_of (and_of (and_of (and_of (and_of (and_of (and_of (and_of (and_of (and_of (and_of (and_of (and_of (and_of (and_of (and_of (and_of (and_of (and_of (and_of (and_of (and_of (and_of (and_of (and_of (and_of (and_of (and_of (and_of (and_of gcdPoly_k0 gcdPoly_k1) gcdPoly_k2) gcdPoly_k3) gcdPoly_k4) gcdPoly_k5) gcdPoly_k6) gcdPoly_k7) gcdPoly_k8) gcdPoly_k9) gcdPoly_k10) gcdPoly_k11) gcdPoly_k12) gcdPoly_k13) gcdPoly_k14) gcdPoly_k15) gcdPoly_k16) gcdPoly_k17) gcdPoly_k18) gcdPoly_k19) gcdPoly_k20) gcdPoly_k21) gcdPoly_k22) gcdPoly_k23) gcdPoly_k24) gcdPoly_k25) gcdPoly_k26) gcdPoly_k27) gcdPoly_k28) gcdPoly_k29) gcdPoly_k30) gcdPoly_k31)
theorem gcdPoly_holds : Rows.FnExactGcdPolySaid :=
  OpenClaim.holds_of_wide 5 Try.f5 rfl rfl rfl rfl rfl rfl rfl ⟨rfl, rfl, rfl, rfl, rfl⟩ rfl rfl rfl rfl rfl (by kernel_rfl) Try.func5 gcdPoly_closed
    gcdPoly_inst gcdPoly_wrap (fun os started H enc _ => gcdPoly_lifted os started H enc)
end Go.Proofs.Ytmkdikoogbedkaa
