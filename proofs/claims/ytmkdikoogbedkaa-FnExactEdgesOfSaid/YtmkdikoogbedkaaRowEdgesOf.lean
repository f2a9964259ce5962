/-
EdgesOf answers as its model at every graph, its answers share no memory, and the graph is as it was. No condition.
-/
import Derived.Test.YtmkdikoogbedkaaGM
import Derived.Test.YtmkdikoogbedkaaP
import Derived.Test.YtmkdikoogbedkaaQ1
namespace Go.Proofs.Ytmkdikoogbedkaa
open Go.ChangeShapes Go.WideShapes Go.ChangeAt Go.RowKit
set_option maxRecDepth 100000 in
theorem edgesOf_lifted (os : Os) (started : os.Started) (H : Type) (enc : TypeId × Value → H) :
    ReturnsInHanded {} Try.checked os 15 .any (Rows.fnExactEdgesOfSpec.pre6 enc Try.prog Try.f15 Rows.fnExactEdgesOfRow.domain false) (Rows.fnExactEdgesOfSpec.post enc Try.prog Try.f15 false true false false) := by
  refine returnsInHanded_of_change (C := Try.checked) Try.own started (by kernel_rfl) Try.func15
    (ChangeSpec.witness6 (enc := enc) (C := Try.checked) false ⟨#[], #[.agg #[.slice none 0 0, .bool false]], []⟩ 8 (by kernel_rfl) (by kernel_rfl) (by kernel_rfl) (by kernel_rfl)) ?_
  intro W base args ds gs before hval0 hW hcnd _
  have hval : ∀ (j : Nat) t v, Try.f15.params[j]? = some t → args[j]? = some v → Value.okWide Try.prog W .any base t v := hval0
  have hW' := hW
  obtain ⟨p, q, hA0, hV, rfl, hfz, hnd⟩ := hW
  have hA : DataW.TrodAll enc Try.prog W 0 (fun _ => true) true Try.f15.params.toList args.toList ds p := hA0
  rw [Try.params15] at hA hval
  obtain ⟨v0, d0, rfl, rfl, h0⟩ := trodAll_one hA
  obtain ⟨rfl, rfl⟩ := trodVars_none hV
  obtain ⟨A0, n0, c0, f0, own0, rfl, hn0, hs0, hw0⟩ := open_graph (hval 0 47 v0 rfl rfl) h0
  clear hA0 hval0
  simp only [List.append_nil] at hW'
  have hlt0 : ∀ x ∈ p, x.block < W.heap.size := fun x hx => hW'.lt x (by simp [hx])
  refine (lawEdgesOf A0 n0 c0 f0 own0 W hn0 hs0).mono fun e W' ⟨he, hb⟩ => ?_
  subst he
  exact ⟨_, rfl, post_of_below (pa := p) (pv := []) hW' (fun _ _ _ => trodAll_mk1 (shut_bool Try.underlying4 true))
    (fun sp hsp => trodAll_mk1 (stays Try.laidOut (by kernel_rfl) (of_decide_eq_true (by kernel_rfl)) h0 hb hlt0 (fun x hx => hsp x (by simp [hx])))) (fun _ _ => rfl) (by simp) hb
    (ok_one (by kernel_rfl) rfl (okWide_bool_mk Try.underlying4 true))⟩
theorem edgesOf_k0 : (Rows.fnExactEdgesOfRow.wf (OpenSpec.ofChange Rows.fnExactEdgesOfSpec)) = true := by kernel_rfl
theorem edgesOf_k1 : (laidOutB Try.pinned.checked.prog) = true := by kernel_rfl
theorem edgesOf_k2 : (mapsRowed Try.pinned.checked.prog) = true := by kernel_rfl
theorem edgesOf_k3 : (Try.f15.params.all (Try.pinned.checked.prog.readableRec ·)) = true := by kernel_rfl
theorem edgesOf_k4 : (namedTie Try.pinned.checked.prog Rows.fnExactEdgesOfRow.named Rows.fnExactEdgesOfSpec.vars) = true := by kernel_rfl
theorem edgesOf_k5 : ((Rows.fnExactEdgesOfRow.stops == [])) = true := by kernel_rfl
theorem edgesOf_k6 : ((Try.pinned.checked.prog.stops == [])) = true := by kernel_rfl
theorem edgesOf_k7 : ((Rows.fnExactEdgesOfRow.knobs == [])) = true := by kernel_rfl
theorem edgesOf_k8 : ((Try.pinned.checked.prog.stopKnobs == [])) = true := by kernel_rfl
theorem edgesOf_k9 : ((Rows.fnExactEdgesOfRow.inPlace == Try.pinned.checked.prog.inPlace 15)) = true := by kernel_rfl
theorem edgesOf_k10 : ((Rows.fnExactEdgesOfRow.unfollowed == Try.pinned.checked.prog.unfollowed 15)) = true := by kernel_rfl
theorem edgesOf_k11 : ((Rows.fnExactEdgesOfRow.recurses == Try.pinned.checked.prog.recurses 15)) = true := by kernel_rfl
theorem edgesOf_k12 : ((Rows.fnExactEdgesOfRow.named == Try.pinned.checked.prog.varsNamed 15)) = true := by kernel_rfl
theorem edgesOf_k13 : ((Rows.fnExactEdgesOfRow.maps == (Try.f15.params.toList ++ Rows.fnExactEdgesOfSpec.plain.varTypes Try.pinned.checked.prog).any (Try.pinned.checked.prog.mapsRec ·))) = true := by kernel_rfl
theorem edgesOf_k14 : ((Rows.fnExactEdgesOfRow.ifaces == (Try.f15.params.toList ++ Rows.fnExactEdgesOfSpec.plain.varTypes Try.pinned.checked.prog).any (Try.pinned.checked.prog.ifacesRec ·))) = true := by kernel_rfl
theorem edgesOf_k15 : ((Rows.fnExactEdgesOfRow.mapsOut == Try.pinned.checked.prog.mapsAmong Try.f15.resultTypes.toList)) = true := by kernel_rfl
theorem edgesOf_k16 : ((Rows.fnExactEdgesOfRow.loops == (Try.f15.params.toList ++ Rows.fnExactEdgesOfSpec.plain.varTypes Try.pinned.checked.prog).any (Try.pinned.checked.prog.loopsFrom ·))) = true := by kernel_rfl
theorem edgesOf_k17 : ((Rows.fnExactEdgesOfRow.wideKeys == (Try.f15.params.toList ++ Rows.fnExactEdgesOfSpec.plain.varTypes Try.pinned.checked.prog ++ Try.f15.resultTypes.toList).any (Try.pinned.checked.prog.wideKeysFrom ·))) = true := by kernel_rfl
theorem edgesOf_k18 : (Rows.fnExactEdgesOfSpec.vars.all (Try.pinned.checked.prog.varReadable ·)) = true := by kernel_rfl
theorem edgesOf_k19 : (Try.f15.resultTypes.all (fun t => Try.pinned.checked.prog.readableRec t && decide (t < Try.pinned.checked.prog.types.size))) = true := by kernel_rfl
theorem edgesOf_k20 : ((Rows.fnExactEdgesOfRow.ifacesOut == Try.f15.resultTypes.toList.any (Try.pinned.checked.prog.ifacesRec ·))) = true := by kernel_rfl
theorem edgesOf_k21 : ((Rows.fnExactEdgesOfRow.loopsOut == Try.f15.resultTypes.toList.any (Try.pinned.checked.prog.loopsFrom ·))) = true := by kernel_rfl
theorem edgesOf_k22 : ((Rows.fnExactEdgesOfRow.plainKeys == Try.pinned.checked.prog.plainKeys)) = true := by kernel_rfl
theorem edgesOf_k23 : (Rows.fnExactEdgesOfRow.shortTexts.isNone) = true := by kernel_rfl
theorem edgesOf_k24 : (Try.pinned.checked.prog.stopsHeard) = true := by kernel_rfl
theorem edgesOf_k25 : (Try.pinned.checked.prog.mayEnter) = true := x_enter
theorem edgesOf_k26 : ((Rows.fnExactEdgesOfRow.lifted == Try.pinned.checked.prog.liftsFinal)) = true := by rw [x_lifts]; rfl
theorem edgesOf_k27 : ((Try.pinned.checked.prog.make == some Rows.fnExactEdgesOfRow.make)) = true := by rw [x_make]; rfl
theorem edgesOf_k28 : ((Rows.fnExactEdgesOfRow.kinds == (if Rows.fnExactEdgesOfRow.domain.isEmpty then [] else Try.f15.params.toList.map fun t => match Try.pinned.checked.prog.underlying t with | some (.int k) => some k | _ => none))) = true := by kernel_rfl
theorem edgesOf_k29 : ((Rows.fnExactEdgesOfRow.pinned == Rows.fnExactEdgesOfRow.pinnedBy)) = true := by kernel_rfl
theorem edgesOf_k30 : ((Rows.fnExactEdgesOfRow.veiled == (Try.f15.params.toList ++ Rows.fnExactEdgesOfSpec.plain.varTypes Try.pinned.checked.prog ++ Try.f15.resultTypes.toList).any (Try.pinned.checked.prog.veiledRec ·))) = true := by kernel_rfl
theorem edgesOf_k31 : (Rows.fnExactEdgesOfRow.veiledFits Try.pinned.checked.prog Try.f15.params.toList (Try.f15.params.toList ++ Rows.fnExactEdgesOfSpec.plain.varTypes Try.pinned.checked.prog ++ Try.f15.resultTypes.toList)) = true := by kernel_rfl
theorem edgesOf_pkg : decide (Check.packageOf Try.f15.name = "main") = false := by kernel_rfl
theorem edgesOf_inst : Func.isInstance Try.pinned.checked.prog Try.f15 Rows.fnExactEdgesOfRow.origin Rows.fnExactEdgesOfRow.targs := of_decide_eq_true (by kernel_rfl)
theorem edgesOf_wrap : Func.isWrapper Try.pinned.checked.prog Try.f15 Rows.fnExactEdgesOfRow.wrapper Rows.fnExactEdgesOfRow.mainSum := by
  unfold Func.isWrapper; rw [if_neg (of_decide_eq_false edgesOf_pkg)]; exact ⟨rfl, rfl⟩
set_option maxRecDepth 100000 in
theorem edgesOf_closed : joinedFacts Try.pinned.checked.prog 15 Try.f15 Rows.fnExactEdgesOfSpec Rows.fnExactEdgesOfRow = true :=
  (and_of (and_of (and_of (and_of (and_of (and_of (and_of (and_of (and_of (and_of (and_of (and_of (and_of (and_of (and_of (and_of (and_of (and_of (and_of (and_of (and_of (and_of (and_of (and_of (and_of (and_of (and_of (and_of (and_of (and_of (and_of edgesOf_k0 edgesOf_k1) edgesOf_k2) edgesOf_k3) edgesOf_k4) edgesOf_k5) edgesOf_k6) edgesOf_k7) edgesOf_k8) edgesOf_k9) edgesOf_k10) edgesOf_k11) edgesOf_k12) edgesOf_k13) edgesOf_k14) edgesOf_k15) edgesOf_k16) edgesOf_k17) edgesOf_k18) edgesOf_k19) edgesOf_k20) edgesOf_k21) edgesOf_k22) edgesOf_k23) edgesOf_k24) edgesOf_k25) edgesOf_k26) edgesOf_k27) edgesOf_k28) edgesOf_k29) edgesOf_k30) edgesOf_k31)
theorem edgesOf_holds : Rows.FnExactEdgesOfSaid :=
  OpenClaim.holds_of_wide 15 Try.f15 rfl rfl rfl rfl rfl rfl rfl ⟨rfl, rfl, rfl, rfl, rfl⟩ rfl rfl rfl rfl rfl (by kernel_rfl) Try.func15 edgesOf_closed
    edgesOf_inst edgesOf_wrap (fun os started H enc _ => edgesOf_lifted os started H enc)
end Go.Proofs.Ytmkdikoogbedkaa
