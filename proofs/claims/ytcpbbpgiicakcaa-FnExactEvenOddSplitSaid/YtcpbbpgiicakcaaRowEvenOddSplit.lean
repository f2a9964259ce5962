/-
EvenOddSplit answers as its model at every graph, and the graph is as it was. No condition.
-/
import Derived.Test.YtcpbbpgiicakcaaLR
import Derived.Test.YtcpbbpgiicakcaaP
import Derived.Test.YtcpbbpgiicakcaaQ1
namespace Go.Proofs.Ytcpbbpgiicakcaa
open Go.ChangeShapes Go.WideShapes Go.ChangeAt Go.RowKit
set_option maxRecDepth 100000 in
theorem evenOddSplit_lifted (os : Os) (started : os.Started) (H : Type) (enc : TypeId × Value → H) :
    ReturnsInHanded {} Try.checked os 4 .any (Rows.fnExactEvenOddSplitSpec.pre6 enc Try.prog Try.f4 Rows.fnExactEvenOddSplitRow.domain false) (Rows.fnExactEvenOddSplitSpec.post enc Try.prog Try.f4 false true false false) := by
  refine returnsInHanded_of_change (C := Try.checked) Try.own started (by kernel_rfl) Try.func4
    (ChangeSpec.witness6 (enc := enc) (C := Try.checked) false ⟨#[], #[.agg #[.slice none 0 0, .bool false]], []⟩ 8 (by kernel_rfl) (by kernel_rfl) (by kernel_rfl) (by kernel_rfl)) ?_
  intro W base args ds gs before hval0 hW hcnd _
  have hval : ∀ (j : Nat) t v, Try.f4.params[j]? = some t → args[j]? = some v → Value.okWide Try.prog W .any base t v := hval0
  have hW' := hW
  obtain ⟨p, q, hA0, hV, rfl, hfz, hnd⟩ := hW
  have hA : DataW.TrodAll enc Try.prog W 0 (fun _ => true) true Try.f4.params.toList args.toList ds p := hA0
  rw [Try.params4] at hA hval
  obtain ⟨v0, d0, rfl, rfl, h0⟩ := trodAll_one hA
  obtain ⟨rfl, rfl⟩ := trodVars_none hV
  obtain ⟨A0, n0, c0, f0, own0, rfl, hn0, hs0, hw0⟩ := open_graph (hval 0 24 v0 rfl rfl) h0
  clear hA0 hval0
  simp only [List.append_nil] at hW'
  have hlt0 : ∀ x ∈ p, x.block < W.heap.size := fun x hx => hW'.lt x (by simp [hx])
  refine (lawEvenOddSplit A0 n0 c0 f0 own0 W hn0 hs0).mono fun e W' ⟨he, hb⟩ => ?_
  subst he
  exact ⟨_, rfl, post_of_below (pa := p) (pv := []) hW' (fun _ _ _ => trodAll_mk1 (shut_bool Try.underlying4 true))
    (fun sp hsp => trodAll_mk1 (stays Try.laidOut (by kernel_rfl) (of_decide_eq_true (by kernel_rfl)) h0 hb hlt0 (fun x hx => hsp x (by simp [hx])))) (fun _ _ => rfl) (by simp) hb
    (ok_one (by kernel_rfl) rfl (okWide_bool_mk Try.underlying4 true))⟩
theorem evenOddSplit_k0 : (Rows.fnExactEvenOddSplitRow.wf (OpenSpec.ofChange Rows.fnExactEvenOddSplitSpec)) = true := by kernel_rfl
theorem evenOddSplit_k1 : (laidOutB Try.pinned.checked.prog) = true := by kernel_rfl
theorem evenOddSplit_k2 : (mapsRowed Try.pinned.checked.prog) = true := by kernel_rfl
theorem evenOddSplit_k3 : (Try.f4.params.all (Try.pinned.checked.prog.readableRec ·)) = true := by kernel_rfl
theorem evenOddSplit_k4 : (namedTie Try.pinned.checked.prog Rows.fnExactEvenOddSplitRow.named Rows.fnExactEvenOddSplitSpec.vars) = true := by kernel_rfl
theorem evenOddSplit_k5 : ((Rows.fnExactEvenOddSplitRow.stops == [])) = true := by kernel_rfl
theorem evenOddSplit_k6 : ((Try.pinned.checked.prog.stops == [])) = true := by kernel_rfl
theorem evenOddSplit_k7 : ((Rows.fnExactEvenOddSplitRow.knobs == [])) = true := by kernel_rfl
theorem evenOddSplit_k8 : ((Try.pinned.checked.prog.stopKnobs == [])) = true := by kernel_rfl
theorem evenOddSplit_k9 : ((Rows.fnExactEvenOddSplitRow.inPlace == Try.pinned.checked.prog.inPlace 4)) = true := by kernel_rfl
theorem evenOddSplit_k10 : ((Rows.fnExactEvenOddSplitRow.unfollowed == Try.pinned.checked.prog.unfollowed 4)) = true := by kernel_rfl
theorem evenOddSplit_k11 : ((Rows.fnExactEvenOddSplitRow.recurses == Try.pinned.checked.prog.recurses 4)) = true := by kernel_rfl
theorem evenOddSplit_k12 : ((Rows.fnExactEvenOddSplitRow.named == Try.pinned.checked.prog.varsNamed 4)) = true := by kernel_rfl
theorem evenOddSplit_k13 : ((Rows.fnExactEvenOddSplitRow.maps == (Try.f4.params.toList ++ Rows.fnExactEvenOddSplitSpec.plain.varTypes Try.pinned.checked.prog).any (Try.pinned.checked.prog.mapsRec ·))) = true := by kernel_rfl
theorem evenOddSplit_k14 : ((Rows.fnExactEvenOddSplitRow.ifaces == (Try.f4.params.toList ++ Rows.fnExactEvenOddSplitSpec.plain.varTypes Try.pinned.checked.prog).any (Try.pinned.checked.prog.ifacesRec ·))) = true := by kernel_rfl
theorem evenOddSplit_k15 : ((Rows.fnExactEvenOddSplitRow.mapsOut == Try.pinned.checked.prog.mapsAmong Try.f4.resultTypes.toList)) = true := by kernel_rfl
theorem evenOddSplit_k16 : ((Rows.fnExactEvenOddSplitRow.loops == (Try.f4.params.toList ++ Rows.fnExactEvenOddSplitSpec.plain.varTypes Try.pinned.checked.prog).any (Try.pinned.checked.prog.loopsFrom ·))) = true := by kernel_rfl
theorem evenOddSplit_k17 : ((Rows.fnExactEvenOddSplitRow.wideKeys == (Try.f4.params.toList ++ Rows.fnExactEvenOddSplitSpec.plain.varTypes Try.pinned.checked.prog ++ Try.f4.resultTypes.toList).any (Try.pinned.checked.prog.wideKeysFrom ·))) = true := by kernel_rfl
theorem evenOddSplit_k18 : (Rows.fnExactEvenOddSplitSpec.vars.all (Try.pinned.checked.prog.varReadable ·)) = true := by kernel_rfl
theorem evenOddSplit_k19 : (Try.f4.resultTypes.all (fun t => Try.pinned.checked.prog.readableRec t && decide (t < Try.pinned.checked.prog.types.size))) = true := by kernel_rfl
theorem evenOddSplit_k20 : ((Rows.fnExactEvenOddSplitRow.ifacesOut == Try.f4.resultTypes.toList.any (Try.pinned.checked.prog.ifacesRec ·))) = true := by kernel_rfl
theorem evenOddSplit_k21 : ((Rows.fnExactEvenOddSplitRow.loopsOut == Try.f4.resultTypes.toList.any (Try.pinned.checked.prog.loopsFrom ·))) = true := by kernel_rfl
theorem evenOddSplit_k22 : ((Rows.fnExactEvenOddSplitRow.plainKeys == Try.pinned.checked.prog.plainKeys)) = true := by kernel_rfl
theorem evenOddSplit_k23 : (Rows.fnExactEvenOddSplitRow.shortTexts.isNone) = true := by kernel_rfl
theorem evenOddSplit_k24 : (Try.pinned.checked.prog.stopsHeard) = true := by kernel_rfl
theorem evenOddSplit_k25 : (Try.pinned.checked.prog.mayEnter) = true := x_enter
theorem evenOddSplit_k26 : ((Rows.fnExactEvenOddSplitRow.lifted == Try.pinned.checked.prog.liftsFinal)) = true := by rw [x_lifts]; rfl
theorem evenOddSplit_k27 : ((Try.pinned.checked.prog.make == some Rows.fnExactEvenOddSplitRow.make)) = true := by rw [x_make]; rfl
theorem evenOddSplit_k28 : ((Rows.fnExactEvenOddSplitRow.kinds == (if Rows.fnExactEvenOddSplitRow.domain.isEmpty then [] else Try.f4.params.toList.map fun t => match Try.pinned.checked.prog.underlying t with | some (.int k) => some k | _ => none))) = true := by kernel_rfl
theorem evenOddSplit_k29 : ((Rows.fnExactEvenOddSplitRow.pinned == Rows.fnExactEvenOddSplitRow.pinnedBy)) = true := by kernel_rfl
theorem evenOddSplit_k30 : ((Rows.fnExactEvenOddSplitRow.veiled == (Try.f4.params.toList ++ Rows.fnExactEvenOddSplitSpec.plain.varTypes Try.pinned.checked.prog ++ Try.f4.resultTypes.toList).any (Try.pinned.checked.prog.veiledRec ·))) = true := by kernel_rfl
theorem evenOddSplit_k31 : (Rows.fnExactEvenOddSplitRow.veiledFits Try.pinned.checked.prog Try.f4.params.toList (Try.f4.params.toList ++ Rows.fnExactEvenOddSplitSpec.plain.varTypes Try.pinned.checked.prog ++ Try.f4.resultTypes.toList)) = true := by kernel_rfl
theorem evenOddSplit_pkg : decide (Check.packageOf Try.f4.name = "main") = false := by kernel_rfl
theorem evenOddSplit_inst : Func.isInstance Try.pinned.checked.prog Try.f4 Rows.fnExactEvenOddSplitRow.origin Rows.fnExactEvenOddSplitRow.targs := of_decide_eq_true (by kernel_rfl)
theorem evenOddSplit_wrap : Func.isWrapper Try.pinned.checked.prog Try.f4 Rows.fnExactEvenOddSplitRow.wrapper Rows.fnExactEvenOddSplitRow.mainSum := by
  unfold Func.isWrapper; rw [if_neg (of_decide_eq_false evenOddSplit_pkg)]; exact ⟨rfl, rfl⟩
set_option maxRecDepth 100000 in
theorem evenOddSplit_closed : joinedFacts Try.pinned.checked.prog 4 Try.f4 Rows.fnExactEvenOddSplitSpec Rows.fnExactEvenOddSplitRow = true :=
  (and_of (and_of (and_of (and_of (and_of (and_of (and_of (and_of (and_of (and_of (and_of (and_of (and_of (and_of (and_of (and_of (and_of (and_of (and_of (and_of (and_of (and_of (and_of (and_of (and_of (and_of (and_of (and_of (and_of (and_of (and_of evenOddSplit_k0 evenOddSplit_k1) evenOddSplit_k2) evenOddSplit_k3) evenOddSplit_k4) evenOddSplit_k5) evenOddSplit_k6) evenOddSplit_k7) evenOddSplit_k8) evenOddSplit_k9) evenOddSplit_k10) evenOddSplit_k11) evenOddSplit_k12) evenOddSplit_k13) evenOddSplit_k14) evenOddSplit_k15) evenOddSplit_k16) evenOddSplit_k17) evenOddSplit_k18) evenOddSplit_k19) evenOddSplit_k20) evenOddSplit_k21) evenOddSplit_k22) evenOddSplit_k23) evenOddSplit_k24) evenOddSplit_k25) evenOddSplit_k26) evenOddSplit_k27) evenOddSplit_k28) evenOddSplit_k29) evenOddSplit_k30) evenOddSplit_k31)
theorem evenOddSplit_holds : Rows.FnExactEvenOddSplitSaid :=
  OpenClaim.holds_of_wide 4 Try.f4 rfl rfl rfl rfl rfl rfl rfl ⟨rfl, rfl, rfl, rfl, rfl⟩ rfl rfl rfl rfl rfl (by kernel_rfl) Try.func4 evenOddSplit_closed
    evenOddSplit_inst evenOddSplit_wrap (fun os started H enc _ => evenOddSplit_lifted os started H enc)
end Go.Proofs.Ytcpbbpgiicakcaa
