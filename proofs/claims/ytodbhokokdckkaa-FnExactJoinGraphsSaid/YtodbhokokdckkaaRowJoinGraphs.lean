/-
JoinGraphs answers as its model at every two graph values, leaves its arguments as they were, and its answers share no memory. No condition.
-/
import Derived.Test.YtodbhokokdckkaaJZ
import Derived.Test.YtodbhokokdckkaaP
import Derived.Test.YtodbhokokdckkaaQ1
namespace Go.Proofs.Ytodbhokokdckkaa
open Go.ChangeShapes Go.WideShapes Go.ChangeAt Go.RowKit
set_option maxRecDepth 100000 in
theorem joinGraphs_lifted (os : Os) (started : os.Started) (H : Type) (enc : TypeId × Value → H) :
    ReturnsInHanded {} Try.checked os 3 .any (Rows.fnExactJoinGraphsSpec.pre6 enc Try.prog Try.f3 Rows.fnExactJoinGraphsRow.domain false) (Rows.fnExactJoinGraphsSpec.post enc Try.prog Try.f3 false true false false) := by
  refine returnsInHanded_of_change (C := Try.checked) Try.own started (by kernel_rfl) Try.func3
    (ChangeSpec.witness6 (enc := enc) (C := Try.checked) false ⟨#[], #[.agg #[.slice none 0 0, .bool false], .agg #[.slice none 0 0, .bool false]], []⟩ 8 (by kernel_rfl) (by kernel_rfl) (by kernel_rfl) (by kernel_rfl)) ?_
  intro W base args ds gs before hval0 hW hcnd _
  have hval : ∀ (j : Nat) t v, Try.f3.params[j]? = some t → args[j]? = some v → Value.okWide Try.prog W .any base t v := hval0
  have hW' := hW
  obtain ⟨p, q, hA0, hV, rfl, hfz, hnd⟩ := hW
  have hA : DataW.TrodAll enc Try.prog W 0 (fun _ => true) true Try.f3.params.toList args.toList ds p := hA0
  rw [Try.params3] at hA hval
  obtain ⟨v0, v1, d0, d1, p0, p1, rfl, rfl, rfl, h0, h1⟩ := trodAll_two hA
  obtain ⟨rfl, rfl⟩ := trodVars_none hV
  obtain ⟨A0, n0, c0, f0, own0, rfl, hn0, hs0, hw0⟩ := open_graph (hval 0 24 v0 rfl rfl) h0
  obtain ⟨A1, n1, c1, f1, own1, rfl, hn1, hs1, hw1⟩ := open_graph (hval 1 24 v1 rfl rfl) h1
  clear hA0 hval0
  simp only [List.append_nil] at hW'
  have hlt0 : ∀ x ∈ p0, x.block < W.heap.size := fun x hx => hW'.lt x (by simp [hx])
  have hlt1 : ∀ x ∈ p1, x.block < W.heap.size := fun x hx => hW'.lt x (by simp [hx])
  refine (lawJoin A0 n0 c0 f0 own0 A1 n1 c1 f1 own1 W hn0 hn1 hs0 hs1).mono fun e W' ⟨he, hb⟩ => ?_
  subst he
  exact ⟨_, rfl, post_of_below (pa := p0 ++ p1) (pv := []) hW' (fun _ _ _ => trodAll_mk1 (shut_bool Try.underlying4 true))
    (fun sp hsp => trodAll_mk2 (stays Try.laidOut (by kernel_rfl) (of_decide_eq_true (by kernel_rfl)) h0 hb hlt0 (fun x hx => hsp x (by simp [hx]))) (stays Try.laidOut (by kernel_rfl) (of_decide_eq_true (by kernel_rfl)) h1 hb hlt1 (fun x hx => hsp x (by simp [hx])))) (fun _ _ => rfl) (by simp) hb
    (ok_one (by kernel_rfl) rfl (okWide_bool_mk Try.underlying4 true))⟩
theorem joinGraphs_k0 : (Rows.fnExactJoinGraphsRow.wf (OpenSpec.ofChange Rows.fnExactJoinGraphsSpec)) = true := by kernel_rfl
theorem joinGraphs_k1 : (laidOutB Try.pinned.checked.prog) = true := by kernel_rfl
theorem joinGraphs_k2 : (mapsRowed Try.pinned.checked.prog) = true := by kernel_rfl
theorem joinGraphs_k3 : (Try.f3.params.all (Try.pinned.checked.prog.readableRec ·)) = true := by kernel_rfl
theorem joinGraphs_k4 : (namedTie Try.pinned.checked.prog Rows.fnExactJoinGraphsRow.named Rows.fnExactJoinGraphsSpec.vars) = true := by kernel_rfl
theorem joinGraphs_k5 : ((Rows.fnExactJoinGraphsRow.stops == [])) = true := by kernel_rfl
theorem joinGraphs_k6 : ((Try.pinned.checked.prog.stops == [])) = true := by kernel_rfl
theorem joinGraphs_k7 : ((Rows.fnExactJoinGraphsRow.knobs == [])) = true := by kernel_rfl
theorem joinGraphs_k8 : ((Try.pinned.checked.prog.stopKnobs == [])) = true := by kernel_rfl
theorem joinGraphs_k9 : ((Rows.fnExactJoinGraphsRow.inPlace == Try.pinned.checked.prog.inPlace 3)) = true := by kernel_rfl
theorem joinGraphs_k10 : ((Rows.fnExactJoinGraphsRow.unfollowed == Try.pinned.checked.prog.unfollowed 3)) = true := by kernel_rfl
theorem joinGraphs_k11 : ((Rows.fnExactJoinGraphsRow.recurses == Try.pinned.checked.prog.recurses 3)) = true := by kernel_rfl
theorem joinGraphs_k12 : ((Rows.fnExactJoinGraphsRow.named == Try.pinned.checked.prog.varsNamed 3)) = true := by kernel_rfl
theorem joinGraphs_k13 : ((Rows.fnExactJoinGraphsRow.maps == (Try.f3.params.toList ++ Rows.fnExactJoinGraphsSpec.plain.varTypes Try.pinned.checked.prog).any (Try.pinned.checked.prog.mapsRec ·))) = true := by kernel_rfl
theorem joinGraphs_k14 : ((Rows.fnExactJoinGraphsRow.ifaces == (Try.f3.params.toList ++ Rows.fnExactJoinGraphsSpec.plain.varTypes Try.pinned.checked.prog).any (Try.pinned.checked.prog.ifacesRec ·))) = true := by kernel_rfl
theorem joinGraphs_k15 : ((Rows.fnExactJoinGraphsRow.mapsOut == Try.pinned.checked.prog.mapsAmong Try.f3.resultTypes.toList)) = true := by kernel_rfl
theorem joinGraphs_k16 : ((Rows.fnExactJoinGraphsRow.loops == (Try.f3.params.toList ++ Rows.fnExactJoinGraphsSpec.plain.varTypes Try.pinned.checked.prog).any (Try.pinned.checked.prog.loopsFrom ·))) = true := by kernel_rfl
theorem joinGraphs_k17 : ((Rows.fnExactJoinGraphsRow.wideKeys == (Try.f3.params.toList ++ Rows.fnExactJoinGraphsSpec.plain.varTypes Try.pinned.checked.prog ++ Try.f3.resultTypes.toList).any (Try.pinned.checked.prog.wideKeysFrom ·))) = true := by kernel_rfl
theorem joinGraphs_k18 : (Rows.fnExactJoinGraphsSpec.vars.all (Try.pinned.checked.prog.varReadable ·)) = true := by kernel_rfl
theorem joinGraphs_k19 : (Try.f3.resultTypes.all (fun t => Try.pinned.checked.prog.readableRec t && decide (t < Try.pinned.checked.prog.types.size))) = true := by kernel_rfl
theorem joinGraphs_k20 : ((Rows.fnExactJoinGraphsRow.ifacesOut == Try.f3.resultTypes.toList.any (Try.pinned.checked.prog.ifacesRec ·))) = true := by kernel_rfl
theorem joinGraphs_k21 : ((Rows.fnExactJoinGraphsRow.loopsOut == Try.f3.resultTypes.toList.any (Try.pinned.checked.prog.loopsFrom ·))) = true := by kernel_rfl
theorem joinGraphs_k22 : ((Rows.fnExactJoinGraphsRow.plainKeys == Try.pinned.checked.prog.plainKeys)) = true := by kernel_rfl
theorem joinGraphs_k23 : (Rows.fnExactJoinGraphsRow.shortTexts.isNone) = true := by kernel_rfl
theorem joinGraphs_k24 : (Try.pinned.checked.prog.stopsHeard) = true := by kernel_rfl
theorem joinGraphs_k25 : (Try.pinned.checked.prog.mayEnter) = true := x_enter
theorem joinGraphs_k26 : ((Rows.fnExactJoinGraphsRow.lifted == Try.pinned.checked.prog.liftsFinal)) = true := by rw [x_lifts]; rfl
theorem joinGraphs_k27 : ((Try.pinned.checked.prog.make == some Rows.fnExactJoinGraphsRow.make)) = true := by rw [x_make]; rfl
theorem joinGraphs_k28 : ((Rows.fnExactJoinGraphsRow.kinds == (if Rows.fnExactJoinGraphsRow.domain.isEmpty then [] else Try.f3.params.toList.map fun t => match Try.pinned.checked.prog.underlying t with | some (.int k) => some k | _ => none))) = true := by kernel_rfl
theorem joinGraphs_k29 : ((Rows.fnExactJoinGraphsRow.pinned == Rows.fnExactJoinGraphsRow.pinnedBy)) = true := by kernel_rfl
theorem joinGraphs_k30 : ((Rows.fnExactJoinGraphsRow.veiled == (Try.f3.params.toList ++ Rows.fnExactJoinGraphsSpec.plain.varTypes Try.pinned.checked.prog ++ Try.f3.resultTypes.toList).any (Try.pinned.checked.prog.veiledRec ·))) = true := by kernel_rfl
theorem joinGraphs_k31 : (Rows.fnExactJoinGraphsRow.veiledFits Try.pinned.checked.prog Try.f3.params.toList (Try.f3.params.toList ++ Rows.fnExactJoinGraphsSpec.plain.varTypes Try.pinned.checked.prog ++ Try.f3.resultTypes.toList)) = true := by kernel_rfl
theorem joinGraphs_pkg : decide (Check.packageOf Try.f3.name = "main") = false := by kernel_rfl
theorem joinGraphs_inst : Func.isInstance Try.pinned.checked.prog Try.f3 Rows.fnExactJoinGraphsRow.origin Rows.fnExactJoinGraphsRow.targs := of_decide_eq_true (by kernel_rfl)
theorem joinGraphs_wrap : Func.isWrapper Try.pinned.checked.prog Try.f3 Rows.fnExactJoinGraphsRow.wrapper Rows.fnExactJoinGraphsRow.mainSum := by
  unfold Func.isWrapper; rw [if_neg (of_decide_eq_false joinGraphs_pkg)]; exact ⟨rfl, rfl⟩
theorem joinGraphs_closed : joinedFacts Try.pinned.checked.prog 3 Try.f3 Rows.fnExactJoinGraphsSpec Rows.fnExactJoinGraphsRow = true :=
  (and_of (and_of (and_of (and_of (and_of (and_of (and_of (and_of (and_of (and_of (and_of (and_of (and_of (and_of (and_of (and_of (and_of (and_of (and_of (and_of (and_of (and_of (and_of (and_of (and_of (and_of (and_of (and_of (and_of (and_of (and_of joinGraphs_k0 joinGraphs_k1) joinGraphs_k2) joinGraphs_k3) joinGraphs_k4) joinGraphs_k5) joinGraphs_k6) joinGraphs_k7) joinGraphs_k8) joinGraphs_k9) joinGraphs_k10) joinGraphs_k11) joinGraphs_k12) joinGraphs_k13) joinGraphs_k14) joinGraphs_k15) joinGraphs_k16) joinGraphs_k17) joinGraphs_k18) joinGraphs_k19) joinGraphs_k20) joinGraphs_k21) joinGraphs_k22) joinGraphs_k23) joinGraphs_k24) joinGraphs_k25) joinGraphs_k26) joinGraphs_k27) joinGraphs_k28) joinGraphs_k29) joinGraphs_k30) joinGraphs_k31)
theorem joinGraphs_holds : Rows.FnExactJoinGraphsSaid :=
  OpenClaim.holds_of_wide 3 Try.f3 rfl rfl rfl rfl rfl rfl rfl ⟨rfl, rfl, rfl, rfl, rfl⟩ rfl rfl rfl rfl rfl (by kernel_rfl) Try.func3 joinGraphs_closed
    joinGraphs_inst joinGraphs_wrap (fun os started H enc _ => joinGraphs_lifted os started H enc)
end Go.Proofs.Ytodbhokokdckkaa
