/-
IsEvenEdges answers as its model at every graph and list of lists, and both are as they were. No condition.
-/
import Derived.Test.YtcpbbpgiicakcaaYG
import Derived.Test.YtcpbbpgiicakcaaPR
import Derived.Test.YtcpbbpgiicakcaaQ1
namespace Go.Proofs.Ytcpbbpgiicakcaa
open Go.ChangeShapes Go.WideShapes Go.ChangeAt Go.RowKit
set_option maxRecDepth 100000 in
theorem isEvenEdges_lifted (os : Os) (started : os.Started) (H : Type) (enc : TypeId × Value → H) :
    ReturnsInHanded {} Try.checked os 11 .any (Rows.fnExactIsEvenEdgesSpec.pre6 enc Try.prog Try.f11 Rows.fnExactIsEvenEdgesRow.domain false) (Rows.fnExactIsEvenEdgesSpec.post enc Try.prog Try.f11 false true false false) := by
  refine returnsInHanded_of_change (C := Try.checked) Try.own started (by kernel_rfl) Try.func11
    (ChangeSpec.witness6 (enc := enc) (C := Try.checked) false ⟨#[], #[.agg #[.slice none 0 0, .bool false], .slice none 0 0], []⟩ 8 (by kernel_rfl) (by kernel_rfl) (by kernel_rfl) (by kernel_rfl)) ?_
  intro W base args ds gs before hval0 hW hcnd _
  have hval : ∀ (j : Nat) t v, Try.f11.params[j]? = some t → args[j]? = some v → Value.okWide Try.prog W .any base t v := hval0
  have hW' := hW
  obtain ⟨p, q, hA0, hV, rfl, hfz, hnd⟩ := hW
  have hA : DataW.TrodAll enc Try.prog W 0 (fun _ => true) true Try.f11.params.toList args.toList ds p := hA0
  rw [Try.params11] at hA hval
  obtain ⟨v0, v1, d0, d1, p0, p1, rfl, rfl, rfl, h0, h1⟩ := trodAll_two hA
  obtain ⟨rfl, rfl⟩ := trodVars_none hV
  obtain ⟨A0, n0, c0, f0, own0, rfl, hn0, hs0, hw0⟩ := open_graph (hval 0 24 v0 rfl rfl) h0
  obtain ⟨A1, n1, c1, Ai1, ln1, C1, R1, rfl, hn1, hl1, hr1⟩ := open_rows_arg (hval 1 37 v1 rfl rfl) h1
  clear hA0 hval0
  simp only [List.append_nil] at hW'
  have hlt0 : ∀ x ∈ p0, x.block < W.heap.size := fun x hx => hW'.lt x (by simp [hx])
  have hlt1 : ∀ x ∈ p1, x.block < W.heap.size := fun x hx => hW'.lt x (by simp [hx])
  refine (lawIsEvenEdges A0 n0 c0 f0 own0 A1 n1 c1 Ai1 ln1 C1 R1 W hn0 hs0 hn1 hl1 hr1).mono fun e W' ⟨he, hb⟩ => ?_
  subst he
  exact ⟨_, rfl, post_of_below (pa := p0 ++ (p1)) (pv := []) hW' (fun _ _ _ => trodAll_mk1 (shut_bool Try.underlying4 true))
    (fun sp hsp => trodAll_mk2 (stays Try.laidOut (by kernel_rfl) (of_decide_eq_true (by kernel_rfl)) h0 hb hlt0 (fun x hx => hsp x (by simp [hx]))) (stays Try.laidOut (by kernel_rfl) (of_decide_eq_true (by kernel_rfl)) h1 hb hlt1 (fun x hx => hsp x (by simp [hx])))) (fun _ _ => rfl) (by simp) hb
    (ok_one (by kernel_rfl) rfl (okWide_bool_mk Try.underlying4 true))⟩
theorem isEvenEdges_k0 : (Rows.fnExactIsEvenEdgesRow.wf (OpenSpec.ofChange Rows.fnExactIsEvenEdgesSpec)) = true := by kernel_rfl
theorem isEvenEdges_k1 : (laidOutB Try.pinned.checked.prog) = true := by kernel_rfl
theorem isEvenEdges_k2 : (mapsRowed Try.pinned.checked.prog) = true := by kernel_rfl
theorem isEvenEdges_k3 : (Try.f11.params.all (Try.pinned.checked.prog.readableRec ·)) = true := by kernel_rfl
theorem isEvenEdges_k4 : (namedTie Try.pinned.checked.prog Rows.fnExactIsEvenEdgesRow.named Rows.fnExactIsEvenEdgesSpec.vars) = true := by kernel_rfl
theorem isEvenEdges_k5 : ((Rows.fnExactIsEvenEdgesRow.stops == [])) = true := by kernel_rfl
theorem isEvenEdges_k6 : ((Try.pinned.checked.prog.stops == [])) = true := by kernel_rfl
theorem isEvenEdges_k7 : ((Rows.fnExactIsEvenEdgesRow.knobs == [])) = true := by kernel_rfl
theorem isEvenEdges_k8 : ((Try.pinned.checked.prog.stopKnobs == [])) = true := by kernel_rfl
theorem isEvenEdges_k9 : ((Rows.fnExactIsEvenEdgesRow.inPlace == Try.pinned.checked.prog.inPlace 11)) = true := by kernel_rfl
theorem isEvenEdges_k10 : ((Rows.fnExactIsEvenEdgesRow.unfollowed == Try.pinned.checked.prog.unfollowed 11)) = true := by kernel_rfl
theorem isEvenEdges_k11 : ((Rows.fnExactIsEvenEdgesRow.recurses == Try.pinned.checked.prog.recurses 11)) = true := by kernel_rfl
theorem isEvenEdges_k12 : ((Rows.fnExactIsEvenEdgesRow.named == Try.pinned.checked.prog.varsNamed 11)) = true := by kernel_rfl
theorem isEvenEdges_k13 : ((Rows.fnExactIsEvenEdgesRow.maps == (Try.f11.params.toList ++ Rows.fnExactIsEvenEdgesSpec.plain.varTypes Try.pinned.checked.prog).any (Try.pinned.checked.prog.mapsRec ·))) = true := by kernel_rfl
theorem isEvenEdges_k14 : ((Rows.fnExactIsEvenEdgesRow.ifaces == (Try.f11.params.toList ++ Rows.fnExactIsEvenEdgesSpec.plain.varTypes Try.pinned.checked.prog).any (Try.pinned.checked.prog.ifacesRec ·))) = true := by kernel_rfl
theorem isEvenEdges_k15 : ((Rows.fnExactIsEvenEdgesRow.mapsOut == Try.pinned.checked.prog.mapsAmong Try.f11.resultTypes.toList)) = true := by kernel_rfl
theorem isEvenEdges_k16 : ((Rows.fnExactIsEvenEdgesRow.loops == (Try.f11.params.toList ++ Rows.fnExactIsEvenEdgesSpec.plain.varTypes Try.pinned.checked.prog).any (Try.pinned.checked.prog.loopsFrom ·))) = true := by kernel_rfl
theorem isEvenEdges_k17 : ((Rows.fnExactIsEvenEdgesRow.wideKeys == (Try.f11.params.toList ++ Rows.fnExactIsEvenEdgesSpec.plain.varTypes Try.pinned.checked.prog ++ Try.f11.resultTypes.toList).any (Try.pinned.checked.prog.wideKeysFrom ·))) = true := by kernel_rfl
theorem isEvenEdges_k18 : (Rows.fnExactIsEvenEdgesSpec.vars.all (Try.pinned.checked.prog.varReadable ·)) = true := by kernel_rfl
theorem isEvenEdges_k19 : (Try.f11.resultTypes.all (fun t => Try.pinned.checked.prog.readableRec t && decide (t < Try.pinned.checked.prog.types.size))) = true := by kernel_rfl
theorem isEvenEdges_k20 : ((Rows.fnExactIsEvenEdgesRow.ifacesOut == Try.f11.resultTypes.toList.any (Try.pinned.checked.prog.ifacesRec ·))) = true := by kernel_rfl
theorem isEvenEdges_k21 : ((Rows.fnExactIsEvenEdgesRow.loopsOut == Try.f11.resultTypes.toList.any (Try.pinned.checked.prog.loopsFrom ·))) = true := by kernel_rfl
theorem isEvenEdges_k22 : ((Rows.fnExactIsEvenEdgesRow.plainKeys == Try.pinned.checked.prog.plainKeys)) = true := by kernel_rfl
theorem isEvenEdges_k23 : (Rows.fnExactIsEvenEdgesRow.shortTexts.isNone) = true := by kernel_rfl
theorem isEvenEdges_k24 : (Try.pinned.checked.prog.stopsHeard) = true := by kernel_rfl
theorem isEvenEdges_k25 : (Try.pinned.checked.prog.mayEnter) = true := x_enter
theorem isEvenEdges_k26 : ((Rows.fnExactIsEvenEdgesRow.lifted == Try.pinned.checked.prog.liftsFinal)) = true := by rw [x_lifts]; rfl
theorem isEvenEdges_k27 : ((Try.pinned.checked.prog.make == some Rows.fnExactIsEvenEdgesRow.make)) = true := by rw [x_make]; rfl
theorem isEvenEdges_k28 : ((Rows.fnExactIsEvenEdgesRow.kinds == (if Rows.fnExactIsEvenEdgesRow.domain.isEmpty then [] else Try.f11.params.toList.map fun t => match Try.pinned.checked.prog.underlying t with | some (.int k) => some k | _ => none))) = true := by kernel_rfl
theorem isEvenEdges_k29 : ((Rows.fnExactIsEvenEdgesRow.pinned == Rows.fnExactIsEvenEdgesRow.pinnedBy)) = true := by kernel_rfl
theorem isEvenEdges_k30 : ((Rows.fnExactIsEvenEdgesRow.veiled == (Try.f11.params.toList ++ Rows.fnExactIsEvenEdgesSpec.plain.varTypes Try.pinned.checked.prog ++ Try.f11.resultTypes.toList).any (Try.pinned.checked.prog.veiledRec ·))) = true := by kernel_rfl
theorem isEvenEdges_k31 : (Rows.fnExactIsEvenEdgesRow.veiledFits Try.pinned.checked.prog Try.f11.params.toList (Try.f11.params.toList ++ Rows.fnExactIsEvenEdgesSpec.plain.varTypes Try.pinned.checked.prog ++ Try.f11.resultTypes.toList)) = true := by kernel_rfl
theorem isEvenEdges_pkg : decide (Check.packageOf Try.f11.name = "main") = false := by kernel_rfl
theorem isEvenEdges_inst : Func.isInstance Try.pinned.checked.prog Try.f11 Rows.fnExactIsEvenEdgesRow.origin Rows.fnExactIsEvenEdgesRow.targs := of_decide_eq_true (by kernel_rfl)
theorem isEvenEdges_wrap : Func.isWrapper Try.pinned.checked.prog Try.f11 Rows.fnExactIsEvenEdgesRow.wrapper Rows.fnExactIsEvenEdgesRow.mainSum := by
  unfold Func.isWrapper; rw [if_neg (of_decide_eq_false isEvenEdges_pkg)]; exact ⟨rfl, rfl⟩
set_option maxRecDepth 100000 in
theorem isEvenEdges_closed : joinedFacts Try.pinned.checked.prog 11 Try.f11 Rows.fnExactIsEvenEdgesSpec Rows.fnExactIsEvenEdgesRow = true :=
  (and_of (and_of (and_of (and_of (and_of (and_of (and_of (and_of (and_of (and_of (and_of (and_of (and_of (and_of (and_of (and_of (and_of (and_of (and_of (and_of (and_of (and_of (and_of (and_of (and_of (and_of (and_of (and_of (and_of (and_of (and_of isEvenEdges_k0 isEvenEdges_k1) isEvenEdges_k2) isEvenEdges_k3) isEvenEdges_k4) isEvenEdges_k5) isEvenEdges_k6) isEvenEdges_k7) isEvenEdges_k8) isEvenEdges_k9) isEvenEdges_k10) isEvenEdges_k11) isEvenEdges_k12) isEvenEdges_k13) isEvenEdges_k14) isEvenEdges_k15) isEvenEdges_k16) isEvenEdges_k17) isEvenEdges_k18) isEvenEdges_k19) isEvenEdges_k20) isEvenEdges_k21) isEvenEdges_k22) isEvenEdges_k23) isEvenEdges_k24) isEvenEdges_k25) isEvenEdges_k26) isEvenEdges_k27) isEvenEdges_k28) isEvenEdges_k29) isEvenEdges_k30) isEvenEdges_k31)
theorem isEvenEdges_holds : Rows.FnExactIsEvenEdgesSaid :=
  OpenClaim.holds_of_wide 11 Try.f11 rfl rfl rfl rfl rfl rfl rfl ⟨rfl, rfl, rfl, rfl, rfl⟩ rfl rfl rfl rfl rfl (by kernel_rfl) Try.func11 isEvenEdges_closed
    isEvenEdges_inst isEvenEdges_wrap (fun os started H enc _ => isEvenEdges_lifted os started H enc)
end Go.Proofs.Ytcpbbpgiicakcaa
