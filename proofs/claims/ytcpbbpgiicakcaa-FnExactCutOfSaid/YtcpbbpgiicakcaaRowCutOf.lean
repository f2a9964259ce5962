/-
CutOf answers as its model at every graph and set, its answers share no memory, and the graph is as it was. No condition.
-/
import Derived.Test.YtcpbbpgiicakcaaGR
import Derived.Test.YtcpbbpgiicakcaaP
import Derived.Test.YtcpbbpgiicakcaaQ1
namespace Go.Proofs.Ytcpbbpgiicakcaa
open Go.ChangeShapes Go.WideShapes Go.ChangeAt Go.RowKit
set_option maxRecDepth 100000 in
theorem cutOf_lifted (os : Os) (started : os.Started) (H : Type) (enc : TypeId × Value → H) :
    ReturnsInHanded {} Try.checked os 10 .any (Rows.fnExactCutOfSpec.pre6 enc Try.prog Try.f10 Rows.fnExactCutOfRow.domain false) (Rows.fnExactCutOfSpec.post enc Try.prog Try.f10 false true false false) := by
  refine returnsInHanded_of_change (C := Try.checked) Try.own started (by kernel_rfl) Try.func10
    (ChangeSpec.witness6 (enc := enc) (C := Try.checked) false ⟨#[], #[.agg #[.slice none 0 0, .bool false], .int .i64 0], []⟩ 8 (by kernel_rfl) (by kernel_rfl) (by kernel_rfl) (by kernel_rfl)) ?_
  intro W base args ds gs before hval0 hW hcnd _
  have hval : ∀ (j : Nat) t v, Try.f10.params[j]? = some t → args[j]? = some v → Value.okWide Try.prog W .any base t v := hval0
  have hW' := hW
  obtain ⟨p, q, hA0, hV, rfl, hfz, hnd⟩ := hW
  have hA : DataW.TrodAll enc Try.prog W 0 (fun _ => true) true Try.f10.params.toList args.toList ds p := hA0
  rw [Try.params10] at hA hval
  obtain ⟨v0, v1, d0, d1, p0, p1, rfl, rfl, rfl, h0, h1⟩ := trodAll_two hA
  obtain ⟨rfl, rfl⟩ := trodVars_none hV
  obtain ⟨A0, n0, c0, f0, own0, rfl, hn0, hs0, hw0⟩ := open_graph (hval 0 24 v0 rfl rfl) h0
  obtain ⟨a1, rfl, rfl, rfl, wa1⟩ := open_int Try.underlying3 (hval 1 3 v1 rfl rfl) h1
  clear hA0 hval0
  simp only [List.append_nil] at hW'
  have hlt0 : ∀ x ∈ p0, x.block < W.heap.size := fun x hx => hW'.lt x (by simp [hx])
  refine (lawCutOf A0 n0 c0 f0 own0 a1 W hn0 hs0).mono fun e W' ⟨he, hb⟩ => ?_
  subst he
  exact ⟨_, rfl, post_of_below (pa := p0 ++ ([])) (pv := []) hW' (fun _ _ _ => trodAll_mk1 (shut_bool Try.underlying4 true))
    (fun sp hsp => trodAll_mk2 (stays Try.laidOut (by kernel_rfl) (of_decide_eq_true (by kernel_rfl)) h0 hb hlt0 (fun x hx => hsp x (by simp [hx]))) (shut_int Try.underlying3 wa1)) (fun _ _ => rfl) (by simp) hb
    (ok_one (by kernel_rfl) rfl (okWide_bool_mk Try.underlying4 true))⟩
theorem cutOf_k0 : (Rows.fnExactCutOfRow.wf (OpenSpec.ofChange Rows.fnExactCutOfSpec)) = true := by kernel_rfl
theorem cutOf_k1 : (laidOutB Try.pinned.checked.prog) = true := by kernel_rfl
theorem cutOf_k2 : (mapsRowed Try.pinned.checked.prog) = true := by kernel_rfl
theorem cutOf_k3 : (Try.f10.params.all (Try.pinned.checked.prog.readableRec ·)) = true := by kernel_rfl
theorem cutOf_k4 : (namedTie Try.pinned.checked.prog Rows.fnExactCutOfRow.named Rows.fnExactCutOfSpec.vars) = true := by kernel_rfl
theorem cutOf_k5 : ((Rows.fnExactCutOfRow.stops == [])) = true := by kernel_rfl
theorem cutOf_k6 : ((Try.pinned.checked.prog.stops == [])) = true := by kernel_rfl
theorem cutOf_k7 : ((Rows.fnExactCutOfRow.knobs == [])) = true := by kernel_rfl
theorem cutOf_k8 : ((Try.pinned.checked.prog.stopKnobs == [])) = true := by kernel_rfl
theorem cutOf_k9 : ((Rows.fnExactCutOfRow.inPlace == Try.pinned.checked.prog.inPlace 10)) = true := by kernel_rfl
theorem cutOf_k10 : ((Rows.fnExactCutOfRow.unfollowed == Try.pinned.checked.prog.unfollowed 10)) = true := by kernel_rfl
theorem cutOf_k11 : ((Rows.fnExactCutOfRow.recurses == Try.pinned.checked.prog.recurses 10)) = true := by kernel_rfl
theorem cutOf_k12 : ((Rows.fnExactCutOfRow.named == Try.pinned.checked.prog.varsNamed 10)) = true := by kernel_rfl
theorem cutOf_k13 : ((Rows.fnExactCutOfRow.maps == (Try.f10.params.toList ++ Rows.fnExactCutOfSpec.plain.varTypes Try.pinned.checked.prog).any (Try.pinned.checked.prog.mapsRec ·))) = true := by kernel_rfl
theorem cutOf_k14 : ((Rows.fnExactCutOfRow.ifaces == (Try.f10.params.toList ++ Rows.fnExactCutOfSpec.plain.varTypes Try.pinned.checked.prog).any (Try.pinned.checked.prog.ifacesRec ·))) = true := by kernel_rfl
theorem cutOf_k15 : ((Rows.fnExactCutOfRow.mapsOut == Try.pinned.checked.prog.mapsAmong Try.f10.resultTypes.toList)) = true := by kernel_rfl
theorem cutOf_k16 : ((Rows.fnExactCutOfRow.loops == (Try.f10.params.toList ++ Rows.fnExactCutOfSpec.plain.varTypes Try.pinned.checked.prog).any (Try.pinned.checked.prog.loopsFrom ·))) = true := by kernel_rfl
theorem cutOf_k17 : ((Rows.fnExactCutOfRow.wideKeys == (Try.f10.params.toList ++ Rows.fnExactCutOfSpec.plain.varTypes Try.pinned.checked.prog ++ Try.f10.resultTypes.toList).any (Try.pinned.checked.prog.wideKeysFrom ·))) = true := by kernel_rfl
theorem cutOf_k18 : (Rows.fnExactCutOfSpec.vars.all (Try.pinned.checked.prog.varReadable ·)) = true := by kernel_rfl
theorem cutOf_k19 : (Try.f10.resultTypes.all (fun t => Try.pinned.checked.prog.readableRec t && decide (t < Try.pinned.checked.prog.types.size))) = true := by kernel_rfl
theorem cutOf_k20 : ((Rows.fnExactCutOfRow.ifacesOut == Try.f10.resultTypes.toList.any (Try.pinned.checked.prog.ifacesRec ·))) = true := by kernel_rfl
theorem cutOf_k21 : ((Rows.fnExactCutOfRow.loopsOut == Try.f10.resultTypes.toList.any (Try.pinned.checked.prog.loopsFrom ·))) = true := by kernel_rfl
theorem cutOf_k22 : ((Rows.fnExactCutOfRow.plainKeys == Try.pinned.checked.prog.plainKeys)) = true := by kernel_rfl
theorem cutOf_k23 : (Rows.fnExactCutOfRow.shortTexts.isNone) = true := by kernel_rfl
theorem cutOf_k24 : (Try.pinned.checked.prog.stopsHeard) = true := by kernel_rfl
theorem cutOf_k25 : (Try.pinned.checked.prog.mayEnter) = true := x_enter
theorem cutOf_k26 : ((Rows.fnExactCutOfRow.lifted == Try.pinned.checked.prog.liftsFinal)) = true := by rw [x_lifts]; rfl
theorem cutOf_k27 : ((Try.pinned.checked.prog.make == some Rows.fnExactCutOfRow.make)) = true := by rw [x_make]; rfl
theorem cutOf_k28 : ((Rows.fnExactCutOfRow.kinds == (if Rows.fnExactCutOfRow.domain.isEmpty then [] else Try.f10.params.toList.map fun t => match Try.pinned.checked.prog.underlying t with | some (.int k) => some k | _ => none))) = true := by kernel_rfl
theorem cutOf_k29 : ((Rows.fnExactCutOfRow.pinned == Rows.fnExactCutOfRow.pinnedBy)) = true := by kernel_rfl
theorem cutOf_k30 : ((Rows.fnExactCutOfRow.veiled == (Try.f10.params.toList ++ Rows.fnExactCutOfSpec.plain.varTypes Try.pinned.checked.prog ++ Try.f10.resultTypes.toList).any (Try.pinned.checked.prog.veiledRec ·))) = true := by kernel_rfl
theorem cutOf_k31 : (Rows.fnExactCutOfRow.veiledFits Try.pinned.checked.prog Try.f10.params.toList (Try.f10.params.toList ++ Rows.fnExactCutOfSpec.plain.varTypes Try.pinned.checked.prog ++ Try.f10.resultTypes.toList)) = true := by kernel_rfl
theorem cutOf_pkg : decide (Check.packageOf Try.f10.name = "main") = false := by kernel_rfl
theorem cutOf_inst : Func.isInstance Try.pinned.checked.prog Try.f10 Rows.fnExactCutOfRow.origin Rows.fnExactCutOfRow.targs := of_decide_eq_true (by kernel_rfl)
theorem cutOf_wrap : Func.isWrapper Try.pinned.checked.prog Try.f10 Rows.fnExactCutOfRow.wrapper Rows.fnExactCutOfRow.mainSum := by
  unfold Func.isWrapper; rw [if_neg (of_decide_eq_false cutOf_pkg)]; exact ⟨rfl, rfl⟩
set_option maxRecDepth 100000 in
theorem cutOf_closed : joinedFacts Try.pinned.checked.prog 10 Try.f10 Rows.fnExactCutOfSpec Rows.fnExactCutOfRow = true :=
  (and_of (and_of (and_of (and_of (and_of (and_of (and_of (and_of (and_of (and_of (and_of (and_of (and_of (and_of (and_of (and_of (and_of (and_of (and_of (and_of (and_of (and_of (and_of (and_of (and_of (and_of (and_of (and_of (and_of (and_of (and_of cutOf_k0 cutOf_k1) cutOf_k2) cutOf_k3) cutOf_k4) cutOf_k5) cutOf_k6) cutOf_k7) cutOf_k8) cutOf_k9) cutOf_k10) cutOf_k11) cutOf_k12) cutOf_k13) cutOf_k14) cutOf_k15) cutOf_k16) cutOf_k17) cutOf_k18) cutOf_k19) cutOf_k20) cutOf_k21) cutOf_k22) cutOf_k23) cutOf_k24) cutOf_k25) cutOf_k26) cutOf_k27) cutOf_k28) cutOf_k29) cutOf_k30) cutOf_k31)
theorem cutOf_holds : Rows.FnExactCutOfSaid :=
  OpenClaim.holds_of_wide 10 Try.f10 rfl rfl rfl rfl rfl rfl rfl ⟨rfl, rfl, rfl, rfl, rfl⟩ rfl rfl rfl rfl rfl (by kernel_rfl) Try.func10 cutOf_closed
    cutOf_inst cutOf_wrap (fun os started H enc _ => cutOf_lifted os started H enc)
end Go.Proofs.Ytcpbbpgiicakcaa
