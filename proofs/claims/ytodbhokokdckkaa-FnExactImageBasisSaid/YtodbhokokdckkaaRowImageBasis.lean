/-
ImageBasis answers as its model at every graph value, leaves its argument as it was, and its answers share no memory. No condition.
-/
import Derived.Test.YtodbhokokdckkaaLL
import Derived.Test.YtodbhokokdckkaaP
import Derived.Test.YtodbhokokdckkaaQ1
namespace Go.Proofs.Ytodbhokokdckkaa
open Go.ChangeShapes Go.WideShapes Go.ChangeAt Go.RowKit
set_option maxRecDepth 100000 in
theorem imageBasis_lifted (os : Os) (started : os.Started) (H : Type) (enc : TypeId × Value → H) :
    ReturnsInHanded {} Try.checked os 10 .any (Rows.fnExactImageBasisSpec.pre6 enc Try.prog Try.f10 Rows.fnExactImageBasisRow.domain false) (Rows.fnExactImageBasisSpec.post enc Try.prog Try.f10 false true false false) := by
  refine returnsInHanded_of_change (C := Try.checked) Try.own started (by kernel_rfl) Try.func10
    (ChangeSpec.witness6 (enc := enc) (C := Try.checked) false ⟨#[], #[.agg #[.slice none 0 0, .bool false]], []⟩ 8 (by kernel_rfl) (by kernel_rfl) (by kernel_rfl) (by kernel_rfl)) ?_
  intro W base args ds gs before hval0 hW hcnd _
  have hval : ∀ (j : Nat) t v, Try.f10.params[j]? = some t → args[j]? = some v → Value.okWide Try.prog W .any base t v := hval0
  have hW' := hW
  obtain ⟨p, q, hA0, hV, rfl, hfz, hnd⟩ := hW
  have hA : DataW.TrodAll enc Try.prog W 0 (fun _ => true) true Try.f10.params.toList args.toList ds p := hA0
  rw [Try.params10] at hA hval
  obtain ⟨v0, d0, rfl, rfl, h0⟩ := trodAll_one hA
  obtain ⟨rfl, rfl⟩ := trodVars_none hV
  obtain ⟨A0, n0, c0, f0, own0, rfl, hn0, hs0, hw0⟩ := open_graph (hval 0 24 v0 rfl rfl) h0
  clear hA0 hval0
  simp only [List.append_nil] at hW'
  have hlt0 : ∀ x ∈ p, x.block < W.heap.size := fun x hx => hW'.lt x (by simp [hx])
  refine (lawImage A0 n0 c0 f0 own0 W hn0 hs0).mono fun e W' ⟨he, hb⟩ => ?_
  subst he
  exact ⟨_, rfl, post_of_below (pa := p) (pv := []) hW' (fun _ _ _ => trodAll_mk1 (shut_bool Try.underlying4 true))
    (fun sp hsp => trodAll_mk1 (stays Try.laidOut (by kernel_rfl) (of_decide_eq_true (by kernel_rfl)) h0 hb hlt0 (fun x hx => hsp x (by simp [hx])))) (fun _ _ => rfl) (by simp) hb
    (ok_one (by kernel_rfl) rfl (okWide_bool_mk Try.underlying4 true))⟩
theorem imageBasis_k0 : (Rows.fnExactImageBasisRow.wf (OpenSpec.ofChange Rows.fnExactImageBasisSpec)) = true := by kernel_rfl
theorem imageBasis_k1 : (laidOutB Try.pinned.checked.prog) = true := by kernel_rfl
theorem imageBasis_k2 : (mapsRowed Try.pinned.checked.prog) = true := by kernel_rfl
theorem imageBasis_k3 : (Try.f10.params.all (Try.pinned.checked.prog.readableRec ·)) = true := by kernel_rfl
theorem imageBasis_k4 : (namedTie Try.pinned.checked.prog Rows.fnExactImageBasisRow.named Rows.fnExactImageBasisSpec.vars) = true := by kernel_rfl
theorem imageBasis_k5 : ((Rows.fnExactImageBasisRow.stops == [])) = true := by kernel_rfl
theorem imageBasis_k6 : ((Try.pinned.checked.prog.stops == [])) = true := by kernel_rfl
theorem imageBasis_k7 : ((Rows.fnExactImageBasisRow.knobs == [])) = true := by kernel_rfl
theorem imageBasis_k8 : ((Try.pinned.checked.prog.stopKnobs == [])) = true := by kernel_rfl
theorem imageBasis_k9 : ((Rows.fnExactImageBasisRow.inPlace == Try.pinned.checked.prog.inPlace 10)) = true := by kernel_rfl
theorem imageBasis_k10 : ((Rows.fnExactImageBasisRow.unfollowed == Try.pinned.checked.prog.unfollowed 10)) = true := by kernel_rfl
theorem imageBasis_k11 : ((Rows.fnExactImageBasisRow.recurses == Try.pinned.checked.prog.recurses 10)) = true := by kernel_rfl
theorem imageBasis_k12 : ((Rows.fnExactImageBasisRow.named == Try.pinned.checked.prog.varsNamed 10)) = true := by kernel_rfl
theorem imageBasis_k13 : ((Rows.fnExactImageBasisRow.maps == (Try.f10.params.toList ++ Rows.fnExactImageBasisSpec.plain.varTypes Try.pinned.checked.prog).any (Try.pinned.checked.prog.mapsRec ·))) = true := by kernel_rfl
theorem imageBasis_k14 : ((Rows.fnExactImageBasisRow.ifaces == (Try.f10.params.toList ++ Rows.fnExactImageBasisSpec.plain.varTypes Try.pinned.checked.prog).any (Try.pinned.checked.prog.ifacesRec ·))) = true := by kernel_rfl
theorem imageBasis_k15 : ((Rows.fnExactImageBasisRow.mapsOut == Try.pinned.checked.prog.mapsAmong Try.f10.resultTypes.toList)) = true := by kernel_rfl
theorem imageBasis_k16 : ((Rows.fnExactImageBasisRow.loops == (Try.f10.params.toList ++ Rows.fnExactImageBasisSpec.plain.varTypes Try.pinned.checked.prog).any (Try.pinned.checked.prog.loopsFrom ·))) = true := by kernel_rfl
theorem imageBasis_k17 : ((Rows.fnExactImageBasisRow.wideKeys == (Try.f10.params.toList ++ Rows.fnExactImageBasisSpec.plain.varTypes Try.pinned.checked.prog ++ Try.f10.resultTypes.toList).any (Try.pinned.checked.prog.wideKeysFrom ·))) = true := by kernel_rfl
theorem imageBasis_k18 : (Rows.fnExactImageBasisSpec.vars.all (Try.pinned.checked.prog.varReadable ·)) = true := by kernel_rfl
theorem imageBasis_k19 : (Try.f10.resultTypes.all (fun t => Try.pinned.checked.prog.readableRec t && decide (t < Try.pinned.checked.prog.types.size))) = true := by kernel_rfl
theorem imageBasis_k20 : ((Rows.fnExactImageBasisRow.ifacesOut == Try.f10.resultTypes.toList.any (Try.pinned.checked.prog.ifacesRec ·))) = true := by kernel_rfl
theorem imageBasis_k21 : ((Rows.fnExactImageBasisRow.loopsOut == Try.f10.resultTypes.toList.any (Try.pinned.checked.prog.loopsFrom ·))) = true := by kernel_rfl
theorem imageBasis_k22 : ((Rows.fnExactImageBasisRow.plainKeys == Try.pinned.checked.prog.plainKeys)) = true := by kernel_rfl
theorem imageBasis_k23 : (Rows.fnExactImageBasisRow.shortTexts.isNone) = true := by kernel_rfl
theorem imageBasis_k24 : (Try.pinned.checked.prog.stopsHeard) = true := by kernel_rfl
theorem imageBasis_k25 : (Try.pinned.checked.prog.mayEnter) = true := x_enter
theorem imageBasis_k26 : ((Rows.fnExactImageBasisRow.lifted == Try.pinned.checked.prog.liftsFinal)) = true := by rw [x_lifts]; rfl
theorem imageBasis_k27 : ((Try.pinned.checked.prog.make == some Rows.fnExactImageBasisRow.make)) = true := by rw [x_make]; rfl
theorem imageBasis_k28 : ((Rows.fnExactImageBasisRow.kinds == (if Rows.fnExactImageBasisRow.domain.isEmpty then [] else Try.f10.params.toList.map fun t => match Try.pinned.checked.prog.underlying t with | some (.int k) => some k | _ => none))) = true := by kernel_rfl
theorem imageBasis_k29 : ((Rows.fnExactImageBasisRow.pinned == Rows.fnExactImageBasisRow.pinnedBy)) = true := by kernel_rfl
theorem imageBasis_k30 : ((Rows.fnExactImageBasisRow.veiled == (Try.f10.params.toList ++ Rows.fnExactImageBasisSpec.plain.varTypes Try.pinned.checked.prog ++ Try.f10.resultTypes.toList).any (Try.pinned.checked.prog.veiledRec ·))) = true := by kernel_rfl
theorem imageBasis_k31 : (Rows.fnExactImageBasisRow.veiledFits Try.pinned.checked.prog Try.f10.params.toList (Try.f10.params.toList ++ Rows.fnExactImageBasisSpec.plain.varTypes Try.pinned.checked.prog ++ Try.f10.resultTypes.toList)) = true := by kernel_rfl
theorem imageBasis_pkg : decide (Check.packageOf Try.f10.name = "main") = false := by kernel_rfl
theorem imageBasis_inst : Func.isInstance Try.pinned.checked.prog Try.f10 Rows.fnExactImageBasisRow.origin Rows.fnExactImageBasisRow.targs := of_decide_eq_true (by kernel_rfl)
theorem imageBasis_wrap : Func.isWrapper Try.pinned.checked.prog Try.f10 Rows.fnExactImageBasisRow.wrapper Rows.fnExactImageBasisRow.mainSum := by
  unfold Func.isWrapper; rw [if_neg (of_decide_eq_false imageBasis_pkg)]; exact ⟨rfl, rfl⟩
theorem imageBasis_closed : joinedFacts Try.pinned.checked.prog 10 Try.f10 Rows.fnExactImageBasisSpec Rows.fnExactImageBasisRow = true :=
  (and_of (and_of (and_of (and_of (and_of (and_of (and_of (and_of (and_of (and_of (and_of (and_of (and_of (and_of (and_of (and_of (and_of (and_of (and_of (and_of (and_of (and_of (and_of (and_of (and_of (and_of (and_of (and_of (and_of (and_of (and_of imageBasis_k0 imageBasis_k1) imageBasis_k2) imageBasis_k3) imageBasis_k4) imageBasis_k5) imageBasis_k6) imageBasis_k7) imageBasis_k8) imageBasis_k9) imageBasis_k10) imageBasis_k11) imageBasis_k12) imageBasis_k13) imageBasis_k14) imageBasis_k15) imageBasis_k16) imageBasis_k17) imageBasis_k18) imageBasis_k19) imageBasis_k20) imageBasis_k21) imageBasis_k22) imageBasis_k23) imageBasis_k24) imageBasis_k25) imageBasis_k26) imageBasis_k27) imageBasis_k28) imageBasis_k29) imageBasis_k30) imageBasis_k31)
theorem imageBasis_holds : Rows.FnExactImageBasisSaid :=
  OpenClaim.holds_of_wide 10 Try.f10 rfl rfl rfl rfl rfl rfl rfl ⟨rfl, rfl, rfl, rfl, rfl⟩ rfl rfl rfl rfl rfl (by kernel_rfl) Try.func10 imageBasis_closed
    imageBasis_inst imageBasis_wrap (fun os started H enc _ => imageBasis_lifted os started H enc)
end Go.Proofs.Ytodbhokokdckkaa
