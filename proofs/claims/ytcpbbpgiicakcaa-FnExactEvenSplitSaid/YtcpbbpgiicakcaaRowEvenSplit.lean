/-
EvenSplit answers as its model at every graph, and the graph is as it was. No condition.
-/
import Derived.Test.YtcpbbpgiicakcaaLR
import Derived.Test.YtcpbbpgiicakcaaP
import Derived.Test.YtcpbbpgiicakcaaQ1
namespace Go.Proofs.Ytcpbbpgiicakcaa
open Go.ChangeShapes Go.WideShapes Go.ChangeAt Go.RowKit
set_option maxRecDepth 100000 in
theorem evenSplit_lifted (os : Os) (started : os.Started) (H : Type) (enc : TypeId × Value → H) :
    ReturnsInHanded {} Try.checked os 3 .any (Rows.fnExactEvenSplitSpec.pre6 enc Try.prog Try.f3 Rows.fnExactEvenSplitRow.domain false) (Rows.fnExactEvenSplitSpec.post enc Try.prog Try.f3 false true false false) := by
  refine returnsInHanded_of_change (C := Try.checked) Try.own started (by kernel_rfl) Try.func3
    (ChangeSpec.witness6 (enc := enc) (C := Try.checked) false ⟨#[], #[.agg #[.slice none 0 0, .bool false]], []⟩ 8 (by kernel_rfl) (by kernel_rfl) (by kernel_rfl) (by kernel_rfl)) ?_
  intro W base args ds gs before hval0 hW hcnd _
  have hval : ∀ (j : Nat) t v, Try.f3.params[j]? = some t → args[j]? = some v → Value.okWide Try.prog W .any base t v := hval0
  have hW' := hW
  obtain ⟨p, q, hA0, hV, rfl, hfz, hnd⟩ := hW
  have hA : DataW.TrodAll enc Try.prog W 0 (fun _ => true) true Try.f3.params.toList args.toList ds p := hA0
  rw [Try.params3] at hA hval
  obtain ⟨v0, d0, rfl, rfl, h0⟩ := trodAll_one hA
  obtain ⟨rfl, rfl⟩ := trodVars_none hV
  obtain ⟨A0, n0, c0, f0, own0, rfl, hn0, hs0, hw0⟩ := open_graph (hval 0 24 v0 rfl rfl) h0
  clear hA0 hval0
  simp only [List.append_nil] at hW'
  have hlt0 : ∀ x ∈ p, x.block < W.heap.size := fun x hx => hW'.lt x (by simp [hx])
  refine (lawEvenSplit A0 n0 c0 f0 own0 W hn0 hs0).mono fun e W' ⟨he, hb⟩ => ?_
  subst he
  exact ⟨_, rfl, post_of_below (pa := p) (pv := []) hW' (fun _ _ _ => trodAll_mk1 (shut_bool Try.underlying4 true))
    (fun sp hsp => trodAll_mk1 (stays Try.laidOut (by kernel_rfl) (of_decide_eq_true (by kernel_rfl)) h0 hb hlt0 (fun x hx => hsp x (by simp [hx])))) (fun _ _ => rfl) (by simp) hb
    (ok_one (by kernel_rfl) rfl (okWide_bool_mk Try.underlying4 true))⟩
theorem evenSplit_k0 : (Rows.fnExactEvenSplitRow.wf (OpenSpec.ofChange Rows.fnExactEvenSplitSpec)) = true := by kernel_rfl
theorem evenSplit_k1 : (laidOutB Try.pinned.checked.prog) = true := by kernel_rfl
theorem evenSplit_k2 : (mapsRowed Try.pinned.checked.prog) = true := by kernel_rfl
theorem evenSplit_k3 : (Try.f3.params.all (Try.pinned.checked.prog.readableRec ·)) = true := by kernel_rfl
theorem evenSplit_k4 : (namedTie Try.pinned.checked.prog Rows.fnExactEvenSplitRow.named Rows.fnExactEvenSplitSpec.vars) = true := by kernel_rfl
theorem evenSplit_k5 : ((Rows.fnExactEvenSplitRow.stops == [])) = true := by kernel_rfl
theorem evenSplit_k6 : ((Try.pinned.checked.prog.stops == [])) = true := by kernel_rfl
theorem evenSplit_k7 : ((Rows.fnExactEvenSplitRow.knobs == [])) = true := by kernel_rfl
theorem evenSplit_k8 : ((Try.pinned.checked.prog.stopKnobs == [])) = true := by kernel_rfl
theorem evenSplit_k9 : ((Rows.fnExactEvenSplitRow.inPlace == Try.pinned.checked.prog.inPlace 3)) = true := by kernel_rfl
theorem evenSplit_k10 : ((Rows.fnExactEvenSplitRow.unfollowed == Try.pinned.checked.prog.unfollowed 3)) = true := by kernel_rfl
theorem evenSplit_k11 : ((Rows.fnExactEvenSplitRow.recurses == Try.pinned.checked.prog.recurses 3)) = true := by kernel_rfl
theorem evenSplit_k12 : ((Rows.fnExactEvenSplitRow.named == Try.pinned.checked.prog.varsNamed 3)) = true := by kernel_rfl
theorem evenSplit_k13 : ((Rows.fnExactEvenSplitRow.maps == (Try.f3.params.toList ++ Rows.fnExactEvenSplitSpec.plain.varTypes Try.pinned.checked.prog).any (Try.pinned.checked.prog.mapsRec ·))) = true := by kernel_rfl
theorem evenSplit_k14 : ((Rows.fnExactEvenSplitRow.ifaces == (Try.f3.params.toList ++ Rows.fnExactEvenSplitSpec.plain.varTypes Try.pinned.checked.prog).any (Try.pinned.checked.prog.ifacesRec ·))) = true := by kernel_rfl
theorem evenSplit_k15 : ((Rows.fnExactEvenSplitRow.mapsOut == Try.pinned.checked.prog.mapsAmong Try.f3.resultTypes.toList)) = true := by kernel_rfl
theorem evenSplit_k16 : ((Rows.fnExactEvenSplitRow.loops == (Try.f3.params.toList ++ Rows.fnExactEvenSplitSpec.plain.varTypes Try.pinned.checked.prog).any (Try.pinned.checked.prog.loopsFrom ·))) = true := by kernel_rfl
theorem evenSplit_k17 : ((Rows.fnExactEvenSplitRow.wideKeys == (Try.f3.params.toList ++ Rows.fnExactEvenSplitSpec.plain.varTypes Try.pinned.checked.prog ++ Try.f3.resultTypes.toList).any (Try.pinned.checked.prog.wideKeysFrom ·))) = true := by kernel_rfl
theorem evenSplit_k18 : (Rows.fnExactEvenSplitSpec.vars.all (Try.pinned.checked.prog.varReadable ·)) = true := by kernel_rfl
theorem evenSplit_k19 : (Try.f3.resultTypes.all (fun t => Try.pinned.checked.prog.readableRec t && decide (t < Try.pinned.checked.prog.types.size))) = true := by kernel_rfl
theorem evenSplit_k20 : ((Rows.fnExactEvenSplitRow.ifacesOut == Try.f3.resultTypes.toList.any (Try.pinned.checked.prog.ifacesRec ·))) = true := by kernel_rfl
theorem evenSplit_k21 : ((Rows.fnExactEvenSplitRow.loopsOut == Try.f3.resultTypes.toList.any (Try.pinned.checked.prog.loopsFrom ·))) = true := by kernel_rfl
theorem evenSplit_k22 : ((Rows.fnExactEvenSplitRow.plainKeys == Try.pinned.checked.prog.plainKeys)) = true := by kernel_rfl
theorem evenSplit_k23 : (Rows.fnExactEvenSplitRow.shortTexts.isNone) = true := by kernel_rfl
theorem evenSplit_k24 : (Try.pinned.checked.prog.stopsHeard) = true := by kernel_rfl
theorem evenSplit_k25 : (Try.pinned.checked.prog.mayEnter) = true := x_enter
theorem evenSplit_k26 : ((Rows.fnExactEvenSplitRow.lifted == Try.pinned.checked.prog.liftsFinal)) = true := by rw [x_lifts]; rfl
theorem evenSplit_k27 : ((Try.pinned.checked.prog.make == some Rows.fnExactEvenSplitRow.make)) = true := by rw [x_make]; rfl
theorem evenSplit_k28 : ((Rows.fnExactEvenSplitRow.kinds == (if Rows.fnExactEvenSplitRow.domain.isEmpty then [] else Try.f3.params.toList.map fun t => match Try.pinned.checked.prog.underlying t with | some (.int k) => some k | _ => none))) = true := by kernel_rfl
theorem evenSplit_k29 : ((Rows.fnExactEvenSplitRow.pinned == Rows.fnExactEvenSplitRow.pinnedBy)) = true := by kernel_rfl
theorem evenSplit_k30 : ((Rows.fnExactEvenSplitRow.veiled == (Try.f3.params.toList ++ Rows.fnExactEvenSplitSpec.plain.varTypes Try.pinned.checked.prog ++ Try.f3.resultTypes.toList).any (Try.pinned.checked.prog.veiledRec ·))) = true := by kernel_rfl
theorem evenSplit_k31 : (Rows.fnExactEvenSplitRow.veiledFits Try.pinned.checked.prog Try.f3.params.toList (Try.f3.params.toList ++ Rows.fnExactEvenSplitSpec.plain.varTypes Try.pinned.checked.prog ++ Try.f3.resultTypes.toList)) = true := by kernel_rfl
theorem evenSplit_pkg : decide (Check.packageOf Try.f3.name = "main") = false := by kernel_rfl
theorem evenSplit_inst : Func.isInstance Try.pinned.checked.prog Try.f3 Rows.fnExactEvenSplitRow.origin Rows.fnExactEvenSplitRow.targs := of_decide_eq_true (by kernel_rfl)
theorem evenSplit_wrap : Func.isWrapper Try.pinned.checked.prog Try.f3 Rows.fnExactEvenSplitRow.wrapper Rows.fnExactEvenSplitRow.mainSum := by
  unfold Func.isWrapper; rw [if_neg (of_decide_eq_false evenSplit_pkg)]; exact ⟨rfl, rfl⟩
set_option maxRecDepth 100000 in
theorem evenSplit_closed : joinedFacts Try.pinned.checked.prog 3 Try.f3 Rows.fnExactEvenSplitSpec Rows.fnExactEvenSplitRow = true :=
  (and_of (and_of (and_of (and_of (and_of (and_of (and_of (and_of (and_of (and_of (and_of (and_of (and_of (and_of (and_of (and_of (and_of (and_of (and_of (and_of (and_of (and_of (and_of (and_of (and_of (and_of (and_of (and_of (and_of (and_of (and_of evenSplit_k0 evenSplit_k1) evenSplit_k2) evenSplit_k3) evenSplit_k4) evenSplit_k5) evenSplit_k6) evenSplit_k7) evenSplit_k8) evenSplit_k9) evenSplit_k10) evenSplit_k11) evenSplit_k12) evenSplit_k13) evenSplit_k14) evenSplit_k15) evenSplit_k16) evenSplit_k17) evenSplit_k18) evenSplit_k19) evenSplit_k20) evenSplit_k21) evenSplit_k22) evenSplit_k23) evenSplit_k24) evenSplit_k25) evenSplit_k26) evenSplit_k27) evenSplit_k28) evenSplit_k29) evenSplit_k30) evenSplit_k31)
theorem evenSplit_holds : Rows.FnExactEvenSplitSaid :=
  OpenClaim.holds_of_wide 3 Try.f3 rfl rfl rfl rfl rfl rfl rfl ⟨rfl, rfl, rfl, rfl, rfl⟩ rfl rfl rfl rfl rfl (by kernel_rfl) Try.func3 evenSplit_closed
    evenSplit_inst evenSplit_wrap (fun os started H enc _ => evenSplit_lifted os started H enc)
end Go.Proofs.Ytcpbbpgiicakcaa
