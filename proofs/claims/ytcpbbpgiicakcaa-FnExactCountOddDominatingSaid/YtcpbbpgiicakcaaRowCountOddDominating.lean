/-
CountOddDominating answers as its model at every graph, and the graph is as it was. No condition.
-/
import Derived.Test.YtcpbbpgiicakcaaLS
import Derived.Test.YtcpbbpgiicakcaaP
import Derived.Test.YtcpbbpgiicakcaaQ1
namespace Go.Proofs.Ytcpbbpgiicakcaa
open Go.ChangeShapes Go.WideShapes Go.ChangeAt Go.RowKit
set_option maxRecDepth 100000 in
theorem countOddDominating_lifted (os : Os) (started : os.Started) (H : Type) (enc : TypeId × Value → H) :
    ReturnsInHanded {} Try.checked os 9 .any (Rows.fnExactCountOddDominatingSpec.pre6 enc Try.prog Try.f9 Rows.fnExactCountOddDominatingRow.domain false) (Rows.fnExactCountOddDominatingSpec.post enc Try.prog Try.f9 false true false false) := by
  refine returnsInHanded_of_change (C := Try.checked) Try.own started (by kernel_rfl) Try.func9
    (ChangeSpec.witness6 (enc := enc) (C := Try.checked) false ⟨#[], #[.agg #[.slice none 0 0, .bool false]], []⟩ 8 (by kernel_rfl) (by kernel_rfl) (by kernel_rfl) (by kernel_rfl)) ?_
  intro W base args ds gs before hval0 hW hcnd _
  have hval : ∀ (j : Nat) t v, Try.f9.params[j]? = some t → args[j]? = some v → Value.okWide Try.prog W .any base t v := hval0
  have hW' := hW
  obtain ⟨p, q, hA0, hV, rfl, hfz, hnd⟩ := hW
  have hA : DataW.TrodAll enc Try.prog W 0 (fun _ => true) true Try.f9.params.toList args.toList ds p := hA0
  rw [Try.params9] at hA hval
  obtain ⟨v0, d0, rfl, rfl, h0⟩ := trodAll_one hA
  obtain ⟨rfl, rfl⟩ := trodVars_none hV
  obtain ⟨A0, n0, c0, f0, own0, rfl, hn0, hs0, hw0⟩ := open_graph (hval 0 24 v0 rfl rfl) h0
  clear hA0 hval0
  simp only [List.append_nil] at hW'
  have hlt0 : ∀ x ∈ p, x.block < W.heap.size := fun x hx => hW'.lt x (by simp [hx])
  refine (lawCountOddDominating A0 n0 c0 f0 own0 W hn0 hs0).mono fun e W' ⟨he, hb⟩ => ?_
  subst he
  exact ⟨_, rfl, post_of_below (pa := p) (pv := []) hW' (fun _ _ _ => trodAll_mk1 (shut_bool Try.underlying4 true))
    (fun sp hsp => trodAll_mk1 (stays Try.laidOut (by kernel_rfl) (of_decide_eq_true (by kernel_rfl)) h0 hb hlt0 (fun x hx => hsp x (by simp [hx])))) (fun _ _ => rfl) (by simp) hb
    (ok_one (by kernel_rfl) rfl (okWide_bool_mk Try.underlying4 true))⟩
theorem countOddDominating_k0 : (Rows.fnExactCountOddDominatingRow.wf (OpenSpec.ofChange Rows.fnExactCountOddDominatingSpec)) = true := by kernel_rfl
theorem countOddDominating_k1 : (laidOutB Try.pinned.checked.prog) = true := by kernel_rfl
theorem countOddDominating_k2 : (mapsRowed Try.pinned.checked.prog) = true := by kernel_rfl
theorem countOddDominating_k3 : (Try.f9.params.all (Try.pinned.checked.prog.readableRec ·)) = true := by kernel_rfl
theorem countOddDominating_k4 : (namedTie Try.pinned.checked.prog Rows.fnExactCountOddDominatingRow.named Rows.fnExactCountOddDominatingSpec.vars) = true := by kernel_rfl
theorem countOddDominating_k5 : ((Rows.fnExactCountOddDominatingRow.stops == [])) = true := by kernel_rfl
theorem countOddDominating_k6 : ((Try.pinned.checked.prog.stops == [])) = true := by kernel_rfl
theorem countOddDominating_k7 : ((Rows.fnExactCountOddDominatingRow.knobs == [])) = true := by kernel_rfl
theorem countOddDominating_k8 : ((Try.pinned.checked.prog.stopKnobs == [])) = true := by kernel_rfl
theorem countOddDominating_k9 : ((Rows.fnExactCountOddDominatingRow.inPlace == Try.pinned.checked.prog.inPlace 9)) = true := by kernel_rfl
theorem countOddDominating_k10 : ((Rows.fnExactCountOddDominatingRow.unfollowed == Try.pinned.checked.prog.unfollowed 9)) = true := by kernel_rfl
theorem countOddDominating_k11 : ((Rows.fnExactCountOddDominatingRow.recurses == Try.pinned.checked.prog.recurses 9)) = true := by kernel_rfl
theorem countOddDominating_k12 : ((Rows.fnExactCountOddDominatingRow.named == Try.pinned.checked.prog.varsNamed 9)) = true := by kernel_rfl
theorem countOddDominating_k13 : ((Rows.fnExactCountOddDominatingRow.maps == (Try.f9.params.toList ++ Rows.fnExactCountOddDominatingSpec.plain.varTypes Try.pinned.checked.prog).any (Try.pinned.checked.prog.mapsRec ·))) = true := by kernel_rfl
theorem countOddDominating_k14 : ((Rows.fnExactCountOddDominatingRow.ifaces == (Try.f9.params.toList ++ Rows.fnExactCountOddDominatingSpec.plain.varTypes Try.pinned.checked.prog).any (Try.pinned.checked.prog.ifacesRec ·))) = true := by kernel_rfl
theorem countOddDominating_k15 : ((Rows.fnExactCountOddDominatingRow.mapsOut == Try.pinned.checked.prog.mapsAmong Try.f9.resultTypes.toList)) = true := by kernel_rfl
theorem countOddDominating_k16 : ((Rows.fnExactCountOddDominatingRow.loops == (Try.f9.params.toList ++ Rows.fnExactCountOddDominatingSpec.plain.varTypes Try.pinned.checked.prog).any (Try.pinned.checked.prog.loopsFrom ·))) = true := by kernel_rfl
theorem countOddDominating_k17 : ((Rows.fnExactCountOddDominatingRow.wideKeys == (Try.f9.params.toList ++ Rows.fnExactCountOddDominatingSpec.plain.varTypes Try.pinned.checked.prog ++ Try.f9.resultTypes.toList).any (Try.pinned.checked.prog.wideKeysFrom ·))) = true := by kernel_rfl
theorem countOddDominating_k18 : (Rows.fnExactCountOddDominatingSpec.vars.all (Try.pinned.checked.prog.varReadable ·)) = true := by kernel_rfl
theorem countOddDominating_k19 : (Try.f9.resultTypes.all (fun t => Try.pinned.checked.prog.readableRec t && decide (t < Try.pinned.checked.prog.types.size))) = true := by kernel_rfl
theorem countOddDominating_k20 : ((Rows.fnExactCountOddDominatingRow.ifacesOut == Try.f9.resultTypes.toList.any (Try.pinned.checked.prog.ifacesRec ·))) = true := by kernel_rfl
theorem countOddDominating_k21 : ((Rows.fnExactCountOddDominatingRow.loopsOut == Try.f9.resultTypes.toList.any (Try.pinned.checked.prog.loopsFrom ·))) = true := by kernel_rfl
theorem countOddDominating_k22 : ((Rows.fnExactCountOddDominatingRow.plainKeys == Try.pinned.checked.prog.plainKeys)) = true := by kernel_rfl
theorem countOddDominating_k23 : (Rows.fnExactCountOddDominatingRow.shortTexts.isNone) = true := by kernel_rfl
theorem countOddDominating_k24 : (Try.pinned.checked.prog.stopsHeard) = true := by kernel_rfl
theorem countOddDominating_k25 : (Try.pinned.checked.prog.mayEnter) = true := x_enter
theorem countOddDominating_k26 : ((Rows.fnExactCountOddDominatingRow.lifted == Try.pinned.checked.prog.liftsFinal)) = true := by rw [x_lifts]; rfl
theorem countOddDominating_k27 : ((Try.pinned.checked.prog.make == some Rows.fnExactCountOddDominatingRow.make)) = true := by rw [x_make]; rfl
theorem countOddDominating_k28 : ((Rows.fnExactCountOddDominatingRow.kinds == (if Rows.fnExactCountOddDominatingRow.domain.isEmpty then [] else Try.f9.params.toList.map fun t => match Try.pinned.checked.prog.underlying t with | some (.int k) => some k | _ => none))) = true := by kernel_rfl
theorem countOddDominating_k29 : ((Rows.fnExactCountOddDominatingRow.pinned == Rows.fnExactCountOddDominatingRow.pinnedBy)) = true := by kernel_rfl
theorem countOddDominating_k30 : ((Rows.fnExactCountOddDominatingRow.veiled == (Try.f9.params.toList ++ Rows.fnExactCountOddDominatingSpec.plain.varTypes Try.pinned.checked.prog ++ Try.f9.resultTypes.toList).any (Try.pinned.checked.prog.veiledRec ·))) = true := by kernel_rfl
theorem countOddDominating_k31 : (Rows.fnExactCountOddDominatingRow.veiledFits Try.pinned.checked.prog Try.f9.params.toList (Try.f9.params.toList ++ Rows.fnExactCountOddDominatingSpec.plain.varTypes Try.pinned.checked.prog ++ Try.f9.resultTypes.toList)) = true := by kernel_rfl
theorem countOddDominating_pkg : decide (Check.packageOf Try.f9.name = "main") = false := by kernel_rfl
theorem countOddDominating_inst : Func.isInstance Try.pinned.checked.prog Try.f9 Rows.fnExactCountOddDominatingRow.origin Rows.fnExactCountOddDominatingRow.targs := of_decide_eq_true (by kernel_rfl)
theorem countOddDominating_wrap : Func.isWrapper Try.pinned.checked.prog Try.f9 Rows.fnExactCountOddDominatingRow.wrapper Rows.fnExactCountOddDominatingRow.mainSum := by
  unfold Func.isWrapper; rw [if_neg (of_decide_eq_false countOddDominating_pkg)]; exact ⟨rfl, rfl⟩
set_option maxRecDepth 100000 in
theorem countOddDominating_closed : joinedFacts Try.pinned.checked.prog 9 Try.f9 Rows.fnExactCountOddDominatingSpec Rows.fnExactCountOddDominatingRow = true :=
  (and_of (and_of (and_of (and_of (and_of (and_of (and_of (and_of (and_of (and_of (and_of (and_of (and_of (and_of (and_of (and_of (and_of (and_of (and_of (and_of (and_of (and_of (and_of (and_of (and_of (and_of (and_of (and_of (and_of (and_of (and_of countOddDominating_k0 countOddDominating_k1) countOddDominating_k2) countOddDominating_k3) countOddDominating_k4) countOddDominating_k5) countOddDominating_k6) countOddDominating_k7) countOddDominating_k8) countOddDominating_k9) countOddDominating_k10) countOddDominating_k11) countOddDominating_k12) countOddDominating_k13) countOddDominating_k14) countOddDominating_k15) countOddDominating_k16) countOddDominating_k17) countOddDominating_k18) countOddDominating_k19) countOddDominating_k20) countOddDominating_k21) countOddDominating_k22) countOddDominating_k23) countOddDominating_k24) countOddDominating_k25) countOddDominating_k26) countOddDominating_k27) countOddDominating_k28) countOddDominating_k29) countOddDominating_k30) countOddDominating_k31)
theorem countOddDominating_holds : Rows.FnExactCountOddDominatingSaid :=
  OpenClaim.holds_of_wide 9 Try.f9 rfl rfl rfl rfl rfl rfl rfl ⟨rfl, rfl, rfl, rfl, rfl⟩ rfl rfl rfl rfl rfl (by kernel_rfl) Try.func9 countOddDominating_closed
    countOddDominating_inst countOddDominating_wrap (fun os started H enc _ => countOddDominating_lifted os started H enc)
end Go.Proofs.Ytcpbbpgiicakcaa
