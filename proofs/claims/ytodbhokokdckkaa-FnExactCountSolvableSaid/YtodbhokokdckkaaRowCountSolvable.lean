/-
CountSolvable answers as its model at every graph value, and leaves its argument as it was. No condition.
-/
import Derived.Test.YtodbhokokdckkaaLR
import Derived.Test.YtodbhokokdckkaaP
import Derived.Test.YtodbhokokdckkaaQ1
namespace Go.Proofs.Ytodbhokokdckkaa
open Go.ChangeShapes Go.WideShapes Go.ChangeAt Go.RowKit
set_option maxRecDepth 100000 in
theorem countSolvable_lifted (os : Os) (started : os.Started) (H : Type) (enc : TypeId × Value → H) :
    ReturnsInHanded {} Try.checked os 17 .any (Rows.fnExactCountSolvableSpec.pre6 enc Try.prog Try.f17 Rows.fnExactCountSolvableRow.domain false) (Rows.fnExactCountSolvableSpec.post enc Try.prog Try.f17 false true false false) := by
  refine returnsInHanded_of_change (C := Try.checked) Try.own started (by kernel_rfl) Try.func17
    (ChangeSpec.witness6 (enc := enc) (C := Try.checked) false ⟨#[], #[.agg #[.slice none 0 0, .bool false]], []⟩ 8 (by kernel_rfl) (by kernel_rfl) (by kernel_rfl) (by kernel_rfl)) ?_
  intro W base args ds gs before hval0 hW hcnd _
  have hval : ∀ (j : Nat) t v, Try.f17.params[j]? = some t → args[j]? = some v → Value.okWide Try.prog W .any base t v := hval0
  have hW' := hW
  obtain ⟨p, q, hA0, hV, rfl, hfz, hnd⟩ := hW
  have hA : DataW.TrodAll enc Try.prog W 0 (fun _ => true) true Try.f17.params.toList args.toList ds p := hA0
  rw [Try.params17] at hA hval
  obtain ⟨v0, d0, rfl, rfl, h0⟩ := trodAll_one hA
  obtain ⟨rfl, rfl⟩ := trodVars_none hV
  obtain ⟨A0, n0, c0, f0, own0, rfl, hn0, hs0, hw0⟩ := open_graph (hval 0 24 v0 rfl rfl) h0
  clear hA0 hval0
  simp only [List.append_nil] at hW'
  have hlt0 : ∀ x ∈ p, x.block < W.heap.size := fun x hx => hW'.lt x (by simp [hx])
  refine (lawCountSolvable A0 n0 c0 f0 own0 W hn0 hs0).mono fun e W' ⟨he, hb⟩ => ?_
  subst he
  exact ⟨_, rfl, post_of_below (pa := p) (pv := []) hW' (fun _ _ _ => trodAll_mk1 (shut_bool Try.underlying4 true))
    (fun sp hsp => trodAll_mk1 (stays Try.laidOut (by kernel_rfl) (of_decide_eq_true (by kernel_rfl)) h0 hb hlt0 (fun x hx => hsp x (by simp [hx])))) (fun _ _ => rfl) (by simp) hb
    (ok_one (by kernel_rfl) rfl (okWide_bool_mk Try.underlying4 true))⟩
theorem countSolvable_k0 : (Rows.fnExactCountSolvableRow.wf (OpenSpec.ofChange Rows.fnExactCountSolvableSpec)) = true := by kernel_rfl
theorem countSolvable_k1 : (laidOutB Try.pinned.checked.prog) = true := by kernel_rfl
theorem countSolvable_k2 : (mapsRowed Try.pinned.checked.prog) = true := by kernel_rfl
theorem countSolvable_k3 : (Try.f17.params.all (Try.pinned.checked.prog.readableRec ·)) = true := by kernel_rfl
theorem countSolvable_k4 : (namedTie Try.pinned.checked.prog Rows.fnExactCountSolvableRow.named Rows.fnExactCountSolvableSpec.vars) = true := by kernel_rfl
theorem countSolvable_k5 : ((Rows.fnExactCountSolvableRow.stops == [])) = true := by kernel_rfl
theorem countSolvable_k6 : ((Try.pinned.checked.prog.stops == [])) = true := by kernel_rfl
theorem countSolvable_k7 : ((Rows.fnExactCountSolvableRow.knobs == [])) = true := by kernel_rfl
theorem countSolvable_k8 : ((Try.pinned.checked.prog.stopKnobs == [])) = true := by kernel_rfl
theorem countSolvable_k9 : ((Rows.fnExactCountSolvableRow.inPlace == Try.pinned.checked.prog.inPlace 17)) = true := by kernel_rfl
theorem countSolvable_k10 : ((Rows.fnExactCountSolvableRow.unfollowed == Try.pinned.checked.prog.unfollowed 17)) = true := by kernel_rfl
theorem countSolvable_k11 : ((Rows.fnExactCountSolvableRow.recurses == Try.pinned.checked.prog.recurses 17)) = true := by kernel_rfl
theorem countSolvable_k12 : ((Rows.fnExactCountSolvableRow.named == Try.pinned.checked.prog.varsNamed 17)) = true := by kernel_rfl
theorem countSolvable_k13 : ((Rows.fnExactCountSolvableRow.maps == (Try.f17.params.toList ++ Rows.fnExactCountSolvableSpec.plain.varTypes Try.pinned.checked.prog).any (Try.pinned.checked.prog.mapsRec ·))) = true := by kernel_rfl
theorem countSolvable_k14 : ((Rows.fnExactCountSolvableRow.ifaces == (Try.f17.params.toList ++ Rows.fnExactCountSolvableSpec.plain.varTypes Try.pinned.checked.prog).any (Try.pinned.checked.prog.ifacesRec ·))) = true := by kernel_rfl
theorem countSolvable_k15 : ((Rows.fnExactCountSolvableRow.mapsOut == Try.pinned.checked.prog.mapsAmong Try.f17.resultTypes.toList)) = true := by kernel_rfl
theorem countSolvable_k16 : ((Rows.fnExactCountSolvableRow.loops == (Try.f17.params.toList ++ Rows.fnExactCountSolvableSpec.plain.varTypes Try.pinned.checked.prog).any (Try.pinned.checked.prog.loopsFrom ·))) = true := by kernel_rfl
theorem countSolvable_k17 : ((Rows.fnExactCountSolvableRow.wideKeys == (Try.f17.params.toList ++ Rows.fnExactCountSolvableSpec.plain.varTypes Try.pinned.checked.prog ++ Try.f17.resultTypes.toList).any (Try.pinned.checked.prog.wideKeysFrom ·))) = true := by kernel_rfl
theorem countSolvable_k18 : (Rows.fnExactCountSolvableSpec.vars.all (Try.pinned.checked.prog.varReadable ·)) = true := by kernel_rfl
theorem countSolvable_k19 : (Try.f17.resultTypes.all (fun t => Try.pinned.checked.prog.readableRec t && decide (t < Try.pinned.checked.prog.types.size))) = true := by kernel_rfl
theorem countSolvable_k20 : ((Rows.fnExactCountSolvableRow.ifacesOut == Try.f17.resultTypes.toList.any (Try.pinned.checked.prog.ifacesRec ·))) = true := by kernel_rfl
theorem countSolvable_k21 : ((Rows.fnExactCountSolvableRow.loopsOut == Try.f17.resultTypes.toList.any (Try.pinned.checked.prog.loopsFrom ·))) = true := by kernel_rfl
theorem countSolvable_k22 : ((Rows.fnExactCountSolvableRow.plainKeys == Try.pinned.checked.prog.plainKeys)) = true := by kernel_rfl
theorem countSolvable_k23 : (Rows.fnExactCountSolvableRow.shortTexts.isNone) = true := by kernel_rfl
theorem countSolvable_k24 : (Try.pinned.checked.prog.stopsHeard) = true := by kernel_rfl
theorem countSolvable_k25 : (Try.pinned.checked.prog.mayEnter) = true := x_enter
theorem countSolvable_k26 : ((Rows.fnExactCountSolvableRow.lifted == Try.pinned.checked.prog.liftsFinal)) = true := by rw [x_lifts]; rfl
theorem countSolvable_k27 : ((Try.pinned.checked.prog.make == some Rows.fnExactCountSolvableRow.make)) = true := by rw [x_make]; rfl
theorem countSolvable_k28 : ((Rows.fnExactCountSolvableRow.kinds == (if Rows.fnExactCountSolvableRow.domain.isEmpty then [] else Try.f17.params.toList.map fun t => match Try.pinned.checked.prog.underlying t with | some (.int k) => some k | _ => none))) = true := by kernel_rfl
theorem countSolvable_k29 : ((Rows.fnExactCountSolvableRow.pinned == Rows.fnExactCountSolvableRow.pinnedBy)) = true := by kernel_rfl
theorem countSolvable_k30 : ((Rows.fnExactCountSolvableRow.veiled == (Try.f17.params.toList ++ Rows.fnExactCountSolvableSpec.plain.varTypes Try.pinned.checked.prog ++ Try.f17.resultTypes.toList).any (Try.pinned.checked.prog.veiledRec ·))) = true := by kernel_rfl
theorem countSolvable_k31 : (Rows.fnExactCountSolvableRow.veiledFits Try.pinned.checked.prog Try.f17.params.toList (Try.f17.params.toList ++ Rows.fnExactCountSolvableSpec.plain.varTypes Try.pinned.checked.prog ++ Try.f17.resultTypes.toList)) = true := by kernel_rfl
theorem countSolvable_pkg : decide (Check.packageOf Try.f17.name = "main") = false := by kernel_rfl
theorem countSolvable_inst : Func.isInstance Try.pinned.checked.prog Try.f17 Rows.fnExactCountSolvableRow.origin Rows.fnExactCountSolvableRow.targs := of_decide_eq_true (by kernel_rfl)
theorem countSolvable_wrap : Func.isWrapper Try.pinned.checked.prog Try.f17 Rows.fnExactCountSolvableRow.wrapper Rows.fnExactCountSolvableRow.mainSum := by
  unfold Func.isWrapper; rw [if_neg (of_decide_eq_false countSolvable_pkg)]; exact ⟨rfl, rfl⟩
theorem countSolvable_closed : joinedFacts Try.pinned.checked.prog 17 Try.f17 Rows.fnExactCountSolvableSpec Rows.fnExactCountSolvableRow = true :=
  (and_of (and_of (and_of (and_of (and_of (and_of (and_of (and_of (and_of (and_of (and_of (and_of (and_of (and_of (and_of (and_of (and_of (and_of (and_of (and_of (and_of (and_of (and_of (and_of (and_of (and_of (and_of (and_of (and_of (and_of (and_of countSolvable_k0 countSolvable_k1) countSolvable_k2) countSolvable_k3) countSolvable_k4) countSolvable_k5) countSolvable_k6) countSolvable_k7) countSolvable_k8) countSolvable_k9) countSolvable_k10) countSolvable_k11) countSolvable_k12) countSolvable_k13) countSolvable_k14) countSolvable_k15) countSolvable_k16) countSolvable_k17) countSolvable_k18) countSolvable_k19) countSolvable_k20) countSolvable_k21) countSolvable_k22) countSolvable_k23) countSolvable_k24) countSolvable_k25) countSolvable_k26) countSolvable_k27) countSolvable_k28) countSolvable_k29) countSolvable_k30) countSolvable_k31)
theorem countSolvable_holds : Rows.FnExactCountSolvableSaid :=
  OpenClaim.holds_of_wide 17 Try.f17 rfl rfl rfl rfl rfl rfl rfl ⟨rfl, rfl, rfl, rfl, rfl⟩ rfl rfl rfl rfl rfl (by kernel_rfl) Try.func17 countSolvable_closed
    countSolvable_inst countSolvable_wrap (fun os started H enc _ => countSolvable_lifted os started H enc)
end Go.Proofs.Ytodbhokokdckkaa
