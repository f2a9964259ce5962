/-
EvenSplits answers as its model at every graph, its answers share no memory, and the graph is as it was. No condition.
-/
import Derived.Test.YtcpbbpgiicakcaaLQ
import Derived.Test.YtcpbbpgiicakcaaP
import Derived.Test.YtcpbbpgiicakcaaQ1
namespace Go.Proofs.Ytcpbbpgiicakcaa
open Go.ChangeShapes Go.WideShapes Go.ChangeAt Go.RowKit
set_option maxRecDepth 100000 in
theorem evenSplits_lifted (os : Os) (started : os.Started) (H : Type) (enc : TypeId × Value → H) :
    ReturnsInHanded {} Try.checked os 7 .any (Rows.fnExactEvenSplitsSpec.pre6 enc Try.prog Try.f7 Rows.fnExactEvenSplitsRow.domain false) (Rows.fnExactEvenSplitsSpec.post enc Try.prog Try.f7 false true false false) := by
  refine returnsInHanded_of_change (C := Try.checked) Try.own started (by kernel_rfl) Try.func7
    (ChangeSpec.witness6 (enc := enc) (C := Try.checked) false ⟨#[], #[.agg #[.slice none 0 0, .bool false]], []⟩ 8 (by kernel_rfl) (by kernel_rfl) (by kernel_rfl) (by kernel_rfl)) ?_
  intro W base args ds gs before hval0 hW hcnd _
  have hval : ∀ (j : Nat) t v, Try.f7.params[j]? = some t → args[j]? = some v → Value.okWide Try.prog W .any base t v := hval0
  have hW' := hW
  obtain ⟨p, q, hA0, hV, rfl, hfz, hnd⟩ := hW
  have hA : DataW.TrodAll enc Try.prog W 0 (fun _ => true) true Try.f7.params.toList args.toList ds p := hA0
  rw [Try.params7] at hA hval
  obtain ⟨v0, d0, rfl, rfl, h0⟩ := trodAll_one hA
  obtain ⟨rfl, rfl⟩ := trodVars_none hV
  obtain ⟨A0, n0, c0, f0, own0, rfl, hn0, hs0, hw0⟩ := open_graph (hval 0 24 v0 rfl rfl) h0
  clear hA0 hval0
  simp only [List.append_nil] at hW'
  have hlt0 : ∀ x ∈ p, x.block < W.heap.size := fun x hx => hW'.lt x (by simp [hx])
  refine (lawEvenSplits A0 n0 c0 f0 own0 W hn0 hs0).mono fun e W' ⟨he, hb⟩ => ?_
  subst he
  exact ⟨_, rfl, post_of_below (pa := p) (pv := []) hW' (fun _ _ _ => trodAll_mk1 (shut_bool Try.underlying4 true))
    (fun sp hsp => trodAll_mk1 (stays Try.laidOut (by kernel_rfl) (of_decide_eq_true (by kernel_rfl)) h0 hb hlt0 (fun x hx => hsp x (by simp [hx])))) (fun _ _ => rfl) (by simp) hb
    (ok_one (by kernel_rfl) rfl (okWide_bool_mk Try.underlying4 true))⟩
theorem evenSplits_k0 : (Rows.fnExactEvenSplitsRow.wf (OpenSpec.ofChange Rows.fnExactEvenSplitsSpec)) = true := by kernel_rfl
theorem evenSplits_k1 : (laidOutB Try.pinned.checked.prog) = true := by kernel_rfl
theorem evenSplits_k2 : (mapsRowed Try.pinned.checked.prog) = true := by kernel_rfl
theorem evenSplits_k3 : (Try.f7.params.all (Try.pinned.checked.prog.readableRec ·)) = true := by kernel_rfl
theorem evenSplits_k4 : (namedTie Try.pinned.checked.prog Rows.fnExactEvenSplitsRow.named Rows.fnExactEvenSplitsSpec.vars) = true := by kernel_rfl
theorem evenSplits_k5 : ((Rows.fnExactEvenSplitsRow.stops == [])) = true := by kernel_rfl
theorem evenSplits_k6 : ((Try.pinned.checked.prog.stops == [])) = true := by kernel_rfl
theorem evenSplits_k7 : ((Rows.fnExactEvenSplitsRow.knobs == [])) = true := by kernel_rfl
theorem evenSplits_k8 : ((Try.pinned.checked.prog.stopKnobs == [])) = true := by kernel_rfl
theorem evenSplits_k9 : ((Rows.fnExactEvenSplitsRow.inPlace == Try.pinned.checked.prog.inPlace 7)) = true := by kernel_rfl
theorem evenSplits_k10 : ((Rows.fnExactEvenSplitsRow.unfollowed == Try.pinned.checked.prog.unfollowed 7)) = true := by kernel_rfl
theorem evenSplits_k11 : ((Rows.fnExactEvenSplitsRow.recurses == Try.pinned.checked.prog.recurses 7)) = true := by kernel_rfl
theorem evenSplits_k12 : ((Rows.fnExactEvenSplitsRow.named == Try.pinned.checked.prog.varsNamed 7)) = true := by kernel_rfl
theorem evenSplits_k13 : ((Rows.fnExactEvenSplitsRow.maps == (Try.f7.params.toList ++ Rows.fnExactEvenSplitsSpec.plain.varTypes Try.pinned.checked.prog).any (Try.pinned.checked.prog.mapsRec ·))) = true := by kernel_rfl
theorem evenSplits_k14 : ((Rows.fnExactEvenSplitsRow.ifaces == (Try.f7.params.toList ++ Rows.fnExactEvenSplitsSpec.plain.varTypes Try.pinned.checked.prog).any (Try.pinned.checked.prog.ifacesRec ·))) = true := by kernel_rfl
theorem evenSplits_k15 : ((Rows.fnExactEvenSplitsRow.mapsOut == Try.pinned.checked.prog.mapsAmong Try.f7.resultTypes.toList)) = true := by kernel_rfl
theorem evenSplits_k16 : ((Rows.fnExactEvenSplitsRow.loops == (Try.f7.params.toList ++ Rows.fnExactEvenSplitsSpec.plain.varTypes Try.pinned.checked.prog).any (Try.pinned.checked.prog.loopsFrom ·))) = true := by kernel_rfl
theorem evenSplits_k17 : ((Rows.fnExactEvenSplitsRow.wideKeys == (Try.f7.params.toList ++ Rows.fnExactEvenSplitsSpec.plain.varTypes Try.pinned.checked.prog ++ Try.f7.resultTypes.toList).any (Try.pinned.checked.prog.wideKeysFrom ·))) = true := by kernel_rfl
theorem evenSplits_k18 : (Rows.fnExactEvenSplitsSpec.vars.all (Try.pinned.checked.prog.varReadable ·)) = true := by kernel_rfl
theorem evenSplits_k19 : (Try.f7.resultTypes.all (fun t => Try.pinned.checked.prog.readableRec t && decide (t < Try.pinned.checked.prog.types.size))) = true := by kernel_rfl
theorem evenSplits_k20 : ((Rows.fnExactEvenSplitsRow.ifacesOut == Try.f7.resultTypes.toList.any (Try.pinned.checked.prog.ifacesRec ·))) = true := by kernel_rfl
theorem evenSplits_k21 : ((Rows.fnExactEvenSplitsRow.loopsOut == Try.f7.resultTypes.toList.any (Try.pinned.checked.prog.loopsFrom ·))) = true := by kernel_rfl
theorem evenSplits_k22 : ((Rows.fnExactEvenSplitsRow.plainKeys == Try.pinned.checked.prog.plainKeys)) = true := by kernel_rfl
theorem evenSplits_k23 : (Rows.fnExactEvenSplitsRow.shortTexts.isNone) = true := by kernel_rfl
theorem evenSplits_k24 : (Try.pinned.checked.prog.stopsHeard) = true := by kernel_rfl
theorem evenSplits_k25 : (Try.pinned.checked.prog.mayEnter) = true := x_enter
theorem evenSplits_k26 : ((Rows.fnExactEvenSplitsRow.lifted == Try.pinned.checked.prog.liftsFinal)) = true := by rw [x_lifts]; rfl
theorem evenSplits_k27 : ((Try.pinned.checked.prog.make == some Rows.fnExactEvenSplitsRow.make)) = true := by rw [x_make]; rfl
theorem evenSplits_k28 : ((Rows.fnExactEvenSplitsRow.kinds == (if Rows.fnExactEvenSplitsRow.domain.isEmpty then [] else Try.f7.params.toList.map fun t => match Try.pinned.checked.prog.underlying t with | some (.int k) => some k | _ => none))) = true := by kernel_rfl
theorem evenSplits_k29 : ((Rows.fnExactEvenSplitsRow.pinned == Rows.fnExactEvenSplitsRow.pinnedBy)) = true := by kernel_rfl
theorem evenSplits_k30 : ((Rows.fnExactEvenSplitsRow.veiled == (Try.f7.params.toList ++ Rows.fnExactEvenSplitsSpec.plain.varTypes Try.pinned.checked.prog ++ Try.f7.resultTypes.toList).any (Try.pinned.checked.prog.veiledRec ·))) = true := by kernel_rfl
theorem evenSplits_k31 : (Rows.fnExactEvenSplitsRow.veiledFits Try.pinned.checked.prog Try.f7.params.toList (Try.f7.params.toList ++ Rows.fnExactEvenSplitsSpec.plain.varTypes Try.pinned.checked.prog ++ Try.f7.resultTypes.toList)) = true := by kernel_rfl
theorem evenSplits_pkg : decide (Check.packageOf Try.f7.name = "main") = false := by kernel_rfl
theorem evenSplits_inst : Func.isInstance Try.pinned.checked.prog Try.f7 Rows.fnExactEvenSplitsRow.origin Rows.fnExactEvenSplitsRow.targs := of_decide_eq_true (by kernel_rfl)
theorem evenSplits_wrap : Func.isWrapper Try.pinned.checked.prog Try.f7 Rows.fnExactEvenSplitsRow.wrapper Rows.fnExactEvenSplitsRow.mainSum := by
  unfold Func.isWrapper; rw [if_neg (of_decide_eq_false evenSplits_pkg)]; exact ⟨rfl, rfl⟩
set_option maxRecDepth 100000 in
theorem evenSplits_closed : joinedFacts Try.pinned.checked.prog 7 Try.f7 Rows.fnExactEvenSplitsSpec Rows.fnExactEvenSplitsRow = true :=
  (and_of (and_of (and_of (and_of (and_of (and_of (and_of (and_of (and_of (and_of (and_of (and_of (and_of (and_of (and_of (and_of (and_of (and_of (and_of (and_of (and_of (and_of (and_of (and_of (and_of (and_of (and_of (and_of (and_of (and_of (and_of evenSplits_k0 evenSplits_k1) evenSplits_k2) evenSplits_k3) evenSplits_k4) evenSplits_k5) evenSplits_k6) evenSplits_k7) evenSplits_k8) evenSplits_k9) evenSplits_k10) evenSplits_k11) evenSplits_k12) evenSplits_k13) evenSplits_k14) evenSplits_k15) evenSplits_k16) evenSplits_k17) evenSplits_k18) evenSplits_k19) evenSplits_k20) evenSplits_k21) evenSplits_k22) evenSplits_k23) evenSplits_k24) evenSplits_k25) evenSplits_k26) evenSplits_k27) evenSplits_k28) evenSplits_k29) evenSplits_k30) evenSplits_k31)
theorem evenSplits_holds : Rows.FnExactEvenSplitsSaid :=
  OpenClaim.holds_of_wide 7 Try.f7 rfl rfl rfl rfl rfl rfl rfl ⟨rfl, rfl, rfl, rfl, rfl⟩ rfl rfl rfl rfl rfl (by kernel_rfl) Try.func7 evenSplits_closed
    evenSplits_inst evenSplits_wrap (fun os started H enc _ => evenSplits_lifted os started H enc)
end Go.Proofs.Ytcpbbpgiicakcaa
