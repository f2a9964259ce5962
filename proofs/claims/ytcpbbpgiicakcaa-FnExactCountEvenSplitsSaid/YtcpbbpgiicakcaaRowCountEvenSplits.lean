/-
CountEvenSplits answers as its model at every graph, and the graph is as it was. No condition.
-/
import Derived.Test.YtcpbbpgiicakcaaLR
import Derived.Test.YtcpbbpgiicakcaaP
import Derived.Test.YtcpbbpgiicakcaaQ1
namespace Go.Proofs.Ytcpbbpgiicakcaa
open Go.ChangeShapes Go.WideShapes Go.ChangeAt Go.RowKit
set_option maxRecDepth 100000 in
theorem countEvenSplits_lifted (os : Os) (started : os.Started) (H : Type) (enc : TypeId × Value → H) :
    ReturnsInHanded {} Try.checked os 5 .any (Rows.fnExactCountEvenSplitsSpec.pre6 enc Try.prog Try.f5 Rows.fnExactCountEvenSplitsRow.domain false) (Rows.fnExactCountEvenSplitsSpec.post enc Try.prog Try.f5 false true false false) := by
  refine returnsInHanded_of_change (C := Try.checked) Try.own started (by kernel_rfl) Try.func5
    (ChangeSpec.witness6 (enc := enc) (C := Try.checked) false ⟨#[], #[.agg #[.slice none 0 0, .bool false]], []⟩ 8 (by kernel_rfl) (by kernel_rfl) (by kernel_rfl) (by kernel_rfl)) ?_
  intro W base args ds gs before hval0 hW hcnd _
  have hval : ∀ (j : Nat) t v, Try.f5.params[j]? = some t → args[j]? = some v → Value.okWide Try.prog W .any base t v := hval0
  have hW' := hW
  obtain ⟨p, q, hA0, hV, rfl, hfz, hnd⟩ := hW
  have hA : DataW.TrodAll enc Try.prog W 0 (fun _ => true) true Try.f5.params.toList args.toList ds p := hA0
  rw [Try.params5] at hA hval
  obtain ⟨v0, d0, rfl, rfl, h0⟩ := trodAll_one hA
  obtain ⟨rfl, rfl⟩ := trodVars_none hV
  obtain ⟨A0, n0, c0, f0, own0, rfl, hn0, hs0, hw0⟩ := open_graph (hval 0 24 v0 rfl rfl) h0
  clear hA0 hval0
  simp only [List.append_nil] at hW'
  have hlt0 : ∀ x ∈ p, x.block < W.heap.size := fun x hx => hW'.lt x (by simp [hx])
  refine (lawCountEvenSplits A0 n0 c0 f0 own0 W hn0 hs0).mono fun e W' ⟨he, hb⟩ => ?_
  subst he
  exact ⟨_, rfl, post_of_below (pa := p) (pv := []) hW' (fun _ _ _ => trodAll_mk1 (shut_bool Try.underlying4 true))
    (fun sp hsp => trodAll_mk1 (stays Try.laidOut (by kernel_rfl) (of_decide_eq_true (by kernel_rfl)) h0 hb hlt0 (fun x hx => hsp x (by simp [hx])))) (fun _ _ => rfl) (by simp) hb
    (ok_one (by kernel_rfl) rfl (okWide_bool_mk Try.underlying4 true))⟩
theorem countEvenSplits_k0 : (Rows.fnExactCountEvenSplitsRow.wf (OpenSpec.ofChange Rows.fnExactCountEvenSplitsSpec)) = true := by kernel_rfl
theorem countEvenSplits_k1 : (laidOutB Try.pinned.checked.prog) = true := by kernel_rfl
theorem countEvenSplits_k2 : (mapsRowed Try.pinned.checked.prog) = true := by kernel_rfl
theorem countEvenSplits_k3 : (Try.f5.params.all (Try.pinned.checked.prog.readableRec ·)) = true := by kernel_rfl
theorem countEvenSplits_k4 : (namedTie Try.pinned.checked.prog Rows.fnExactCountEvenSplitsRow.named Rows.fnExactCountEvenSplitsSpec.vars) = true := by kernel_rfl
theorem countEvenSplits_k5 : ((Rows.fnExactCountEvenSplitsRow.stops == [])) = true := by kernel_rfl
theorem countEvenSplits_k6 : ((Try.pinned.checked.prog.stops == [])) = true := by kernel_rfl
theorem countEvenSplits_k7 : ((Rows.fnExactCountEvenSplitsRow.knobs == [])) = true := by kernel_rfl
theorem countEvenSplits_k8 : ((Try.pinned.checked.prog.stopKnobs == [])) = true := by kernel_rfl
theorem countEvenSplits_k9 : ((Rows.fnExactCountEvenSplitsRow.inPlace == Try.pinned.checked.prog.inPlace 5)) = true := by kernel_rfl
theorem countEvenSplits_k10 : ((Rows.fnExactCountEvenSplitsRow.unfollowed == Try.pinned.checked.prog.unfollowed 5)) = true := by kernel_rfl
theorem countEvenSplits_k11 : ((Rows.fnExactCountEvenSplitsRow.recurses == Try.pinned.checked.prog.recurses 5)) = true := by kernel_rfl
theorem countEvenSplits_k12 : ((Rows.fnExactCountEvenSplitsRow.named == Try.pinned.checked.prog.varsNamed 5)) = true := by kernel_rfl
theorem countEvenSplits_k13 : ((Rows.fnExactCountEvenSplitsRow.maps == (Try.f5.params.toList ++ Rows.fnExactCountEvenSplitsSpec.plain.varTypes Try.pinned.checked.prog).any (Try.pinned.checked.prog.mapsRec ·))) = true := by kernel_rfl
theorem countEvenSplits_k14 : ((Rows.fnExactCountEvenSplitsRow.ifaces == (Try.f5.params.toList ++ Rows.fnExactCountEvenSplitsSpec.plain.varTypes Try.pinned.checked.prog).any (Try.pinned.checked.prog.ifacesRec ·))) = true := by kernel_rfl
theorem countEvenSplits_k15 : ((Rows.fnExactCountEvenSplitsRow.mapsOut == Try.pinned.checked.prog.mapsAmong Try.f5.resultTypes.toList)) = true := by kernel_rfl
theorem countEvenSplits_k16 : ((Rows.fnExactCountEvenSplitsRow.loops == (Try.f5.params.toList ++ Rows.fnExactCountEvenSplitsSpec.plain.varTypes Try.pinned.checked.prog).any (Try.pinned.checked.prog.loopsFrom ·))) = true := by kernel_rfl
theorem countEvenSplits_k17 : ((Rows.fnExactCountEvenSplitsRow.wideKeys == (Try.f5.params.toList ++ Rows.fnExactCountEvenSplitsSpec.plain.varTypes Try.pinned.checked.prog ++ Try.f5.resultTypes.toList).any (Try.pinned.checked.prog.wideKeysFrom ·))) = true := by kernel_rfl
theorem countEvenSplits_k18 : (Rows.fnExactCountEvenSplitsSpec.vars.all (Try.pinned.checked.prog.varReadable ·)) = true := by kernel_rfl
theorem countEvenSplits_k19 : (Try.f5.resultTypes.all (fun t => Try.pinned.checked.prog.readableRec t && decide (t < Try.pinned.checked.prog.types.size))) = true := by kernel_rfl
theorem countEvenSplits_k20 : ((Rows.fnExactCountEvenSplitsRow.ifacesOut == Try.f5.resultTypes.toList.any (Try.pinned.checked.prog.ifacesRec ·))) = true := by kernel_rfl
theorem countEvenSplits_k21 : ((Rows.fnExactCountEvenSplitsRow.loopsOut == Try.f5.resultTypes.toList.any (Try.pinned.checked.prog.loopsFrom ·))) = true := by kernel_rfl
theorem countEvenSplits_k22 : ((Rows.fnExactCountEvenSplitsRow.plainKeys == Try.pinned.checked.prog.plainKeys)) = true := by kernel_rfl
theorem countEvenSplits_k23 : (Rows.fnExactCountEvenSplitsRow.shortTexts.isNone) = true := by kernel_rfl
theorem countEvenSplits_k24 : (Try.pinned.checked.prog.stopsHeard) = true := by kernel_rfl
theorem countEvenSplits_k25 : (Try.pinned.checked.prog.mayEnter) = true := x_enter
theorem countEvenSplits_k26 : ((Rows.fnExactCountEvenSplitsRow.lifted == Try.pinned.checked.prog.liftsFinal)) = true := by rw [x_lifts]; rfl
theorem countEvenSplits_k27 : ((Try.pinned.checked.prog.make == some Rows.fnExactCountEvenSplitsRow.make)) = true := by rw [x_make]; rfl
theorem countEvenSplits_k28 : ((Rows.fnExactCountEvenSplitsRow.kinds == (if Rows.fnExactCountEvenSplitsRow.domain.isEmpty then [] else Try.f5.params.toList.map fun t => match Try.pinned.checked.prog.underlying t with | some (.int k) => some k | _ => none))) = true := by kernel_rfl
theorem countEvenSplits_k29 : ((Rows.fnExactCountEvenSplitsRow.pinned == Rows.fnExactCountEvenSplitsRow.pinnedBy)) = true := by kernel_rfl
theorem countEvenSplits_k30 : ((Rows.fnExactCountEvenSplitsRow.veiled == (Try.f5.params.toList ++ Rows.fnExactCountEvenSplitsSpec.plain.varTypes Try.pinned.checked.prog ++ Try.f5.resultTypes.toList).any (Try.pinned.checked.prog.veiledRec ·))) = true := by kernel_rfl
theorem countEvenSplits_k31 : (Rows.fnExactCountEvenSplitsRow.veiledFits Try.pinned.checked.prog Try.f5.params.toList (Try.f5.params.toList ++ Rows.fnExactCountEvenSplitsSpec.plain.varTypes Try.pinned.checked.prog ++ Try.f5.resultTypes.toList)) = true := by kernel_rfl
theorem countEvenSplits_pkg : decide (Check.packageOf Try.f5.name = "main") = false := by kernel_rfl
theorem countEvenSplits_inst : Func.isInstance Try.pinned.checked.prog Try.f5 Rows.fnExactCountEvenSplitsRow.origin Rows.fnExactCountEvenSplitsRow.targs := of_decide_eq_true (by kernel_rfl)
theorem countEvenSplits_wrap : Func.isWrapper Try.pinned.checked.prog Try.f5 Rows.fnExactCountEvenSplitsRow.wrapper Rows.fnExactCountEvenSplitsRow.mainSum := by
  unfold Func.isWrapper; rw [if_neg (of_decide_eq_false countEvenSplits_pkg)]; exact ⟨rfl, rfl⟩
set_option maxRecDepth 100000 in
theorem countEvenSplits_closed : joinedFacts Try.pinned.checked.prog 5 Try.f5 Rows.fnExactCountEvenSplitsSpec Rows.fnExactCountEvenSplitsRow = true :=
  (and_of (and_of (and_of (and_of (and_of (and_of (and_of (and_of (and_of (and_of (and_of (and_of (and_of (and_of (and_of (and_of (and_of (and_of (and_of (and_of (and_of (and_of (and_of (and_of (and_of (and_of (and_of (and_of (and_of (and_of (and_of countEvenSplits_k0 countEvenSplits_k1) countEvenSplits_k2) countEvenSplits_k3) countEvenSplits_k4) countEvenSplits_k5) countEvenSplits_k6) countEvenSplits_k7) countEvenSplits_k8) countEvenSplits_k9) countEvenSplits_k10) countEvenSplits_k11) countEvenSplits_k12) countEvenSplits_k13) countEvenSplits_k14) countEvenSplits_k15) countEvenSplits_k16) countEvenSplits_k17) countEvenSplits_k18) countEvenSplits_k19) countEvenSplits_k20) countEvenSplits_k21) countEvenSplits_k22) countEvenSplits_k23) countEvenSplits_k24) countEvenSplits_k25) countEvenSplits_k26) countEvenSplits_k27) countEvenSplits_k28) countEvenSplits_k29) countEvenSplits_k30) countEvenSplits_k31)
theorem countEvenSplits_holds : Rows.FnExactCountEvenSplitsSaid :=
  OpenClaim.holds_of_wide 5 Try.f5 rfl rfl rfl rfl rfl rfl rfl ⟨rfl, rfl, rfl, rfl, rfl⟩ rfl rfl rfl rfl rfl (by kernel_rfl) Try.func5 countEvenSplits_closed
    countEvenSplits_inst countEvenSplits_wrap (fun os started H enc _ => countEvenSplits_lifted os started H enc)
end Go.Proofs.Ytcpbbpgiicakcaa
