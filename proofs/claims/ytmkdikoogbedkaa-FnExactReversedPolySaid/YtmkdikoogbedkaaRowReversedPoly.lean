/-
ReversedPoly answers as its model at every number. No condition.
-/
import Derived.Test.YtmkdikoogbedkaaTI
import Derived.Test.YtmkdikoogbedkaaP
import Derived.Test.YtmkdikoogbedkaaQ1
namespace Go.Proofs.Ytmkdikoogbedkaa
open Go.ChangeShapes Go.WideShapes Go.ChangeAt Go.RowKit
set_option maxRecDepth 100000 in
theorem reversedPoly_lifted (os : Os) (started : os.Started) (H : Type) (enc : TypeId × Value → H) :
    ReturnsInHanded {} Try.checked os 7 .any (Rows.fnExactReversedPolySpec.pre6 enc Try.prog Try.f7 Rows.fnExactReversedPolyRow.domain false) (Rows.fnExactReversedPolySpec.post enc Try.prog Try.f7 false true false false) := by
  refine returnsInHanded_of_change (C := Try.checked) Try.own started (by kernel_rfl) Try.func7
    (ChangeSpec.witness6 (enc := enc) (C := Try.checked) false ⟨#[], #[.int .i64 0], []⟩ 8 (by kernel_rfl) (by kernel_rfl) (by kernel_rfl) (by kernel_rfl)) ?_
  intro W base args ds gs before hval0 hW hcnd _
  have hval : ∀ (j : Nat) t v, Try.f7.params[j]? = some t → args[j]? = some v → Value.okWide Try.prog W .any base t v := hval0
  have hW' := hW
  obtain ⟨p, q, hA0, hV, rfl, hfz, hnd⟩ := hW
  have hA : DataW.TrodAll enc Try.prog W 0 (fun _ => true) true Try.f7.params.toList args.toList ds p := hA0
  rw [Try.params7] at hA hval
  obtain ⟨v0, d0, rfl, rfl, h0⟩ := trodAll_one hA
  obtain ⟨rfl, rfl⟩ := trodVars_none hV
  obtain ⟨a0, rfl, rfl, rfl, wa0⟩ := open_int Try.underlying3 (hval 0 3 v0 rfl rfl) h0
  clear hA0 hval0
  simp only [List.append_nil] at hW'
  refine (lawReversed a0 W).mono fun e W' ⟨he, hb⟩ => ?_
  subst he
  exact ⟨_, rfl, post_of_below (pa := []) (pv := []) hW' (fun _ _ _ => trodAll_mk1 (shut_bool Try.underlying4 true))
    (fun sp hsp => trodAll_mk1 (shut_int Try.underlying3 wa0)) (fun _ _ => rfl) (by simp) hb
    (ok_one (by kernel_rfl) rfl (okWide_bool_mk Try.underlying4 true))⟩
theorem reversedPoly_k0 : (Rows.fnExactReversedPolyRow.wf (OpenSpec.ofChange Rows.fnExactReversedPolySpec)) = true := by kernel_rfl
theorem reversedPoly_k1 : (laidOutB Try.pinned.checked.prog) = true := by kernel_rfl
theorem reversedPoly_k2 : (mapsRowed Try.pinned.checked.prog) = true := by kernel_rfl
theorem reversedPoly_k3 : (Try.f7.params.all (Try.pinned.checked.prog.readableRec ·)) = true := by kernel_rfl
theorem reversedPoly_k4 : (namedTie Try.pinned.checked.prog Rows.fnExactReversedPolyRow.named Rows.fnExactReversedPolySpec.vars) = true := by kernel_rfl
theorem reversedPoly_k5 : ((Rows.fnExactReversedPolyRow.stops == [])) = true := by kernel_rfl
theorem reversedPoly_k6 : ((Try.pinned.checked.prog.stops == [])) = true := by kernel_rfl
theorem reversedPoly_k7 : ((Rows.fnExactReversedPolyRow.knobs == [])) = true := by kernel_rfl
theorem reversedPoly_k8 : ((Try.pinned.checked.prog.stopKnobs == [])) = true := by kernel_rfl
theorem reversedPoly_k9 : ((Rows.fnExactReversedPolyRow.inPlace == Try.pinned.checked.prog.inPlace 7)) = true := by kernel_rfl
theorem reversedPoly_k10 : ((Rows.fnExactReversedPolyRow.unfollowed == Try.pinned.checked.prog.unfollowed 7)) = true := by kernel_rfl
theorem reversedPoly_k11 : ((Rows.fnExactReversedPolyRow.recurses == Try.pinned.checked.prog.recurses 7)) = true := by kernel_rfl
theorem reversedPoly_k12 : ((Rows.fnExactReversedPolyRow.named == Try.pinned.checked.prog.varsNamed 7)) = true := by kernel_rfl
theorem reversedPoly_k13 : ((Rows.fnExactReversedPolyRow.maps == (Try.f7.params.toList ++ Rows.fnExactReversedPolySpec.plain.varTypes Try.pinned.checked.prog).any (Try.pinned.checked.prog.mapsRec ·))) = true := by kernel_rfl
theorem reversedPoly_k14 : ((Rows.fnExactReversedPolyRow.ifaces == (Try.f7.params.toList ++ Rows.fnExactReversedPolySpec.plain.varTypes Try.pinned.checked.prog).any (Try.pinned.checked.prog.ifacesRec ·))) = true := by kernel_rfl
theorem reversedPoly_k15 : ((Rows.fnExactReversedPolyRow.mapsOut == Try.pinned.checked.prog.mapsAmong Try.f7.resultTypes.toList)) = true := by kernel_rfl
theorem reversedPoly_k16 : ((Rows.fnExactReversedPolyRow.loops == (Try.f7.params.toList ++ Rows.fnExactReversedPolySpec.plain.varTypes Try.pinned.checked.prog).any (Try.pinned.checked.prog.loopsFrom ·))) = true := by kernel_rfl
theorem reversedPoly_k17 : ((Rows.fnExactReversedPolyRow.wideKeys == (Try.f7.params.toList ++ Rows.fnExactReversedPolySpec.plain.varTypes Try.pinned.checked.prog ++ Try.f7.resultTypes.toList).any (Try.pinned.checked.prog.wideKeysFrom ·))) = true := by kernel_rfl
theorem reversedPoly_k18 : (Rows.fnExactReversedPolySpec.vars.all (Try.pinned.checked.prog.varReadable ·)) = true := by kernel_rfl
theorem reversedPoly_k19 : (Try.f7.resultTypes.all (fun t => Try.pinned.checked.prog.readableRec t && decide (t < Try.pinned.checked.prog.types.size))) = true := by kernel_rfl
theorem reversedPoly_k20 : ((Rows.fnExactReversedPolyRow.ifacesOut == Try.f7.resultTypes.toList.any (Try.pinned.checked.prog.ifacesRec ·))) = true := by kernel_rfl
theorem reversedPoly_k21 : ((Rows.fnExactReversedPolyRow.loopsOut == Try.f7.resultTypes.toList.any (Try.pinned.checked.prog.loopsFrom ·))) = true := by kernel_rfl
theorem reversedPoly_k22 : ((Rows.fnExactReversedPolyRow.plainKeys == Try.pinned.checked.prog.plainKeys)) = true := by kernel_rfl
theorem reversedPoly_k23 : (Rows.fnExactReversedPolyRow.shortTexts.isNone) = true := by kernel_rfl
theorem reversedPoly_k24 : (Try.pinned.checked.prog.stopsHeard) = true := by kernel_rfl
theorem reversedPoly_k25 : (Try.pinned.checked.prog.mayEnter) = true := x_enter
theorem reversedPoly_k26 : ((Rows.fnExactReversedPolyRow.lifted == Try.pinned.checked.prog.liftsFinal)) = true := by rw [x_lifts]; rfl
theorem reversedPoly_k27 : ((Try.pinned.checked.prog.make == some Rows.fnExactReversedPolyRow.make)) = true := by rw [x_make]; rfl
theorem reversedPoly_k28 : ((Rows.fnExactReversedPolyRow.kinds == (if Rows.fnExactReversedPolyRow.domain.isEmpty then [] else Try.f7.params.toList.map fun t => match Try.pinned.checked.prog.underlying t with | some (.int k) => some k | _ => none))) = true := by kernel_rfl
theorem reversedPoly_k29 : ((Rows.fnExactReversedPolyRow.pinned == Rows.fnExactReversedPolyRow.pinnedBy)) = true := by kernel_rfl
theorem reversedPoly_k30 : ((Rows.fnExactReversedPolyRow.veiled == (Try.f7.params.toList ++ Rows.fnExactReversedPolySpec.plain.varTypes Try.pinned.checked.prog ++ Try.f7.resultTypes.toList).any (Try.pinned.checked.prog.veiledRec ·))) = true := by kernel_rfl
theorem reversedPoly_k31 : (Rows.fnExactReversedPolyRow.veiledFits Try.pinned.checked.prog Try.f7.params.toList (Try.f7.params.toList ++ Rows.fnExactReversedPolySpec.plain.varTypes Try.pinned.checked.prog ++ Try.f7.resultTypes.toList)) = true := by kernel_rfl
theorem reversedPoly_pkg : decide (Check.packageOf Try.f7.name = "main") = false := by kernel_rfl
theorem reversedPoly_inst : Func.isInstance Try.pinned.checked.prog Try.f7 Rows.fnExactReversedPolyRow.origin Rows.fnExactReversedPolyRow.targs := of_decide_eq_true (by kernel_rfl)
theorem reversedPoly_wrap : Func.isWrapper Try.pinned.checked.prog Try.f7 Rows.fnExactReversedPolyRow.wrapper Rows.fnExactReversedPolyRow.mainSum := by
  unfold Func.isWrapper; rw [if_neg (of_decide_eq_false reversedPoly_pkg)]; exact ⟨rfl, rfl⟩
set_option maxRecDepth 100000 in
theorem reversedPoly_closed : joinedFacts Try.pinned.checked.prog 7 Try.f7 Rows.fnExactReversedPolySpec Rows.fnExactReversedPolyRow = true :=
  (and_of (and_of (and_of (and_of (and_of (and_of (and_of (and_of (and_of (and_of (and_of (and_of (and_of (and_of (and_of (and_of (and_of (and_of (and_of (and_of (and_of (and_of (and_of (and_of (and_of (and_of (and_of (and_of (and_of (and_of (and_of reversedPoly_k0 reversedPoly_k1) reversedPoly_k2) reversedPoly_k3) reversedPoly_k4) reversedPoly_k5) reversedPoly_k6) reversedPoly_k7) reversedPoly_k8) reversedPoly_k9) reversedPoly_k10) reversedPoly_k11) reversedPoly_k12) reversedPoly_k13) reversedPoly_k14) reversedPoly_k15) reversedPoly_k16) reversedPoly_k17) reversedPoly_k18) reversedPoly_k19) reversedPoly_k20) reversedPoly_k21) reversedPoly_k22) reversedPoly_k23) reversedPoly_k24) reversedPoly_k25) reversedPoly_k26) reversedPoly_k27) reversedPoly_k28) reversedPoly_k29) reversedPoly_k30) reversedPoly_k31)
theorem reversedPoly_holds : Rows.FnExactReversedPolySaid :=
  OpenClaim.holds_of_wide 7 Try.f7 rfl rfl rfl rfl rfl rfl rfl ⟨rfl, rfl, rfl, rfl, rfl⟩ rfl rfl rfl rfl rfl (by kernel_rfl) Try.func7 reversedPoly_closed
    reversedPoly_inst reversedPoly_wrap (fun os started H enc _ => reversedPoly_lifted os started H enc)
end Go.Proofs.Ytmkdikoogbedkaa
