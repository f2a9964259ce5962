/-
CountEvenOdd answers as its model at every graph, and the graph is as it was. No condition.
-/
import Derived.Test.YtcpbbpgiicakcaaLR
import Derived.Test.YtcpbbpgiicakcaaP
import Derived.Test.YtcpbbpgiicakcaaQ1
namespace Go.Proofs.Ytcpbbpgiicakcaa
open Go.ChangeShapes Go.WideShapes Go.ChangeAt Go.RowKit
set_option maxRecDepth 100000 in
theorem countEvenOdd_lifted (os : Os) (started : os.Started) (H : Type) (enc : TypeId × Value → H) :
    ReturnsInHanded {} Try.checked os 6 .any (Rows.fnExactCountEvenOddSpec.pre6 enc Try.prog Try.f6 Rows.fnExactCountEvenOddRow.domain false) (Rows.fnExactCountEvenOddSpec.post enc Try.prog Try.f6 false true false false) := by
  refine returnsInHanded_of_change (C := Try.checked) Try.own started (by kernel_rfl) Try.func6
    (ChangeSpec.witness6 (enc := enc) (C := Try.checked) false ⟨#[], #[.agg #[.slice none 0 0, .bool false]], []⟩ 8 (by kernel_rfl) (by kernel_rfl) (by kernel_rfl) (by kernel_rfl)) ?_
  intro W base args ds gs before hval0 hW hcnd _
  have hval : ∀ (j : Nat) t v, Try.f6.params[j]? = some t → args[j]? = some v → Value.okWide Try.prog W .any base t v := hval0
  have hW' := hW
  obtain ⟨p, q, hA0, hV, rfl, hfz, hnd⟩ := hW
  have hA : DataW.TrodAll enc Try.prog W 0 (fun _ => true) true Try.f6.params.toList args.toList ds p := hA0
  rw [Try.params6] at hA hval
  obtain ⟨v0, d0, rfl, rfl, h0⟩ := trodAll_one hA
  obtain ⟨rfl, rfl⟩ := trodVars_none hV
  obtain ⟨A0, n0, c0, f0, own0, rfl, hn0, hs0, hw0⟩ := open_graph (hval 0 24 v0 rfl rfl) h0
  clear hA0 hval0
  simp only [List.append_nil] at hW'
  have hlt0 : ∀ x ∈ p, x.block < W.heap.size := fun x hx => hW'.lt x (by simp [hx])
  refine (lawCountEvenOdd A0 n0 c0 f0 own0 W hn0 hs0).mono fun e W' ⟨he, hb⟩ => ?_
  subst he
  exact ⟨_, rfl, post_of_below (pa := p) (pv := []) hW' (fun _ _ _ => trodAll_mk1 (shut_bool Try.underlying4 true))
    (fun sp hsp => trodAll_mk1 (stays Try.laidOut (by kernel_rfl) (of_decide_eq_true (by kernel_rfl)) h0 hb hlt0 (fun x hx => hsp x (by simp [hx])))) (fun _ _ => rfl) (by simp) hb
    (ok_one (by kernel_rfl) rfl (okWide_bool_mk Try.underlying4 true))⟩
theorem countEvenOdd_k0 : (Rows.fnExactCountEvenOddRow.wf (OpenSpec.ofChange Rows.fnExactCountEvenOddSpec)) = true := by kernel_rfl
theorem countEvenOdd_k1 : (laidOutB Try.pinned.checked.prog) = true := by kernel_rfl
theorem countEvenOdd_k2 : (mapsRowed Try.pinned.checked.prog) = true := by kernel_rfl
theorem countEvenOdd_k3 : (Try.f6.params.all (Try.pinned.checked.prog.readableRec ·)) = true := by kernel_rfl
theorem countEvenOdd_k4 : (namedTie Try.pinned.checked.prog Rows.fnExactCountEvenOddRow.named Rows.fnExactCountEvenOddSpec.vars) = true := by kernel_rfl
theorem countEvenOdd_k5 : ((Rows.fnExactCountEvenOddRow.stops == [])) = true := by kernel_rfl
theorem countEvenOdd_k6 : ((Try.pinned.checked.prog.stops == [])) = true := by kernel_rfl
theorem countEvenOdd_k7 : ((Rows.fnExactCountEvenOddRow.knobs == [])) = true := by kernel_rfl
theorem countEvenOdd_k8 : ((Try.pinned.checked.prog.stopKnobs == [])) = true := by kernel_rfl
theorem countEvenOdd_k9 : ((Rows.fnExactCountEvenOddRow.inPlace == Try.pinned.checked.prog.inPlace 6)) = true := by kernel_rfl
theorem countEvenOdd_k10 : ((Rows.fnExactCountEvenOddRow.unfollowed == Try.pinned.checked.prog.unfollowed 6)) = true := by kernel_rfl
theorem countEvenOdd_k11 : ((Rows.fnExactCountEvenOddRow.recurses == Try.pinned.checked.prog.recurses 6)) = true := by kernel_rfl
theorem countEvenOdd_k12 : ((Rows.fnExactCountEvenOddRow.named == Try.pinned.checked.prog.varsNamed 6)) = true := by kernel_rfl
theorem countEvenOdd_k13 : ((Rows.fnExactCountEvenOddRow.maps == (Try.f6.params.toList ++ Rows.fnExactCountEvenOddSpec.plain.varTypes Try.pinned.checked.prog).any (Try.pinned.checked.prog.mapsRec ·))) = true := by kernel_rfl
theorem countEvenOdd_k14 : ((Rows.fnExactCountEvenOddRow.ifaces == (Try.f6.params.toList ++ Rows.fnExactCountEvenOddSpec.plain.varTypes Try.pinned.checked.prog).any (Try.pinned.checked.prog.ifacesRec ·))) = true := by kernel_rfl
theorem countEvenOdd_k15 : ((Rows.fnExactCountEvenOddRow.mapsOut == Try.pinned.checked.prog.mapsAmong Try.f6.resultTypes.toList)) = true := by kernel_rfl
theorem countEvenOdd_k16 : ((Rows.fnExactCountEvenOddRow.loops == (Try.f6.params.toList ++ Rows.fnExactCountEvenOddSpec.plain.varTypes Try.pinned.checked.prog).any (Try.pinned.checked.prog.loopsFrom ·))) = true := by kernel_rfl
theorem countEvenOdd_k17 : ((Rows.fnExactCountEvenOddRow.wideKeys == (Try.f6.params.toList ++ Rows.fnExactCountEvenOddSpec.plain.varTypes Try.pinned.checked.prog ++ Try.f6.resultTypes.toList).any (Try.pinned.checked.prog.wideKeysFrom ·))) = true := by kernel_rfl
theorem countEvenOdd_k18 : (Rows.fnExactCountEvenOddSpec.vars.all (Try.pinned.checked.prog.varReadable ·)) = true := by kernel_rfl
theorem countEvenOdd_k19 : (Try.f6.resultTypes.all (fun t => Try.pinned.checked.prog.readableRec t && decide (t < Try.pinned.checked.prog.types.size))) = true := by kernel_rfl
theorem countEvenOdd_k20 : ((Rows.fnExactCountEvenOddRow.ifacesOut == Try.f6.resultTypes.toList.any (Try.pinned.checked.prog.ifacesRec ·))) = true := by kernel_rfl
theorem countEvenOdd_k21 : ((Rows.fnExactCountEvenOddRow.loopsOut == Try.f6.resultTypes.toList.any (Try.pinned.checked.prog.loopsFrom ·))) = true := by kernel_rfl
theorem countEvenOdd_k22 : ((Rows.fnExactCountEvenOddRow.plainKeys == Try.pinned.checked.prog.plainKeys)) = true := by kernel_rfl
theorem countEvenOdd_k23 : (Rows.fnExactCountEvenOddRow.shortTexts.isNone) = true := by kernel_rfl
theorem countEvenOdd_k24 : (Try.pinned.checked.prog.stopsHeard) = true := by kernel_rfl
theorem countEvenOdd_k25 : (Try.pinned.checked.prog.mayEnter) = true := x_enter
theorem countEvenOdd_k26 : ((Rows.fnExactCountEvenOddRow.lifted == Try.pinned.checked.prog.liftsFinal)) = true := by rw [x_lifts]; rfl
theorem countEvenOdd_k27 : ((Try.pinned.checked.prog.make == some Rows.fnExactCountEvenOddRow.make)) = true := by rw [x_make]; rfl
theorem countEvenOdd_k28 : ((Rows.fnExactCountEvenOddRow.kinds == (if Rows.fnExactCountEvenOddRow.domain.isEmpty then [] else Try.f6.params.toList.map fun t => match Try.pinned.checked.prog.underlying t with | some (.int k) => some k | _ => none))) = true := by kernel_rfl
theorem countEvenOdd_k29 : ((Rows.fnExactCountEvenOddRow.pinned == Rows.fnExactCountEvenOddRow.pinnedBy)) = true := by kernel_rfl
theorem countEvenOdd_k30 : ((Rows.fnExactCountEvenOddRow.veiled == (Try.f6.params.toList ++ Rows.fnExactCountEvenOddSpec.plain.varTypes Try.pinned.checked.prog ++ Try.f6.resultTypes.toList).any (Try.pinned.checked.prog.veiledRec ·))) = true := by kernel_rfl
theorem countEvenOdd_k31 : (Rows.fnExactCountEvenOddRow.veiledFits Try.pinned.checked.prog Try.f6.params.toList (Try.f6.params.toList ++ Rows.fnExactCountEvenOddSpec.plain.varTypes Try.pinned.checked.prog ++ Try.f6.resultTypes.toList)) = true := by kernel_rfl
theorem countEvenOdd_pkg : decide (Check.packageOf Try.f6.name = "main") = false := by kernel_rfl
theorem countEvenOdd_inst : Func.isInstance Try.pinned.checked.prog Try.f6 Rows.fnExactCountEvenOddRow.origin Rows.fnExactCountEvenOddRow.targs := of_decide_eq_true (by kernel_rfl)
theorem countEvenOdd_wrap : Func.isWrapper Try.pinned.checked.prog Try.f6 Rows.fnExactCountEvenOddRow.wrapper Rows.fnExactCountEvenOddRow.mainSum := by
  unfold Func.isWrapper; rw [if_neg (of_decide_eq_false countEvenOdd_pkg)]; exact ⟨rfl, rfl⟩
set_option maxRecDepth 100000 in
theorem countEvenOdd_closed : joinedFacts Try.pinned.checked.prog 6 Try.f6 Rows.fnExactCountEvenOddSpec Rows.fnExactCountEvenOddRow = true :=
  (and_of (and_of (and_of (and_of (and_of (and_of (and_of (and_of (and_of (and_of (and_of (and_of (and_of (and_of (and_of (and_of (and_of (and_of (and_of (and_of (and_of (and_of (and_of (and_of (and_of (and_of (and_of (and_of (and_of (and_of (and_of countEvenOdd_k0 countEvenOdd_k1) countEvenOdd_k2) countEvenOdd_k3) countEvenOdd_k4) countEvenOdd_k5) countEvenOdd_k6) countEvenOdd_k7) countEvenOdd_k8) countEvenOdd_k9) countEvenOdd_k10) countEvenOdd_k11) countEvenOdd_k12) countEvenOdd_k13) countEvenOdd_k14) countEvenOdd_k15) countEvenOdd_k16) countEvenOdd_k17) countEvenOdd_k18) countEvenOdd_k19) countEvenOdd_k20) countEvenOdd_k21) countEvenOdd_k22) countEvenOdd_k23) countEvenOdd_k24) countEvenOdd_k25) countEvenOdd_k26) countEvenOdd_k27) countEvenOdd_k28) countEvenOdd_k29) countEvenOdd_k30) countEvenOdd_k31)
theorem countEvenOdd_holds : Rows.FnExactCountEvenOddSaid :=
  OpenClaim.holds_of_wide 6 Try.f6 rfl rfl rfl rfl rfl rfl rfl ⟨rfl, rfl, rfl, rfl, rfl⟩ rfl rfl rfl rfl rfl (by kernel_rfl) Try.func6 countEvenOdd_closed
    countEvenOdd_inst countEvenOdd_wrap (fun os started H enc _ => countEvenOdd_lifted os started H enc)
end Go.Proofs.Ytcpbbpgiicakcaa
