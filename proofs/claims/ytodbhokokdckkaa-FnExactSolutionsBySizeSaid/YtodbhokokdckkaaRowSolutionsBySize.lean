/-
SolutionsBySize answers as its model at every graph value and number, leaves its argument as it was, and its answers share no memory. No condition.
-/
import Derived.Test.YtodbhokokdckkaaLC
import Derived.Test.YtodbhokokdckkaaP
import Derived.Test.YtodbhokokdckkaaQ1
namespace Go.Proofs.Ytodbhokokdckkaa
open Go.ChangeShapes Go.WideShapes Go.ChangeAt Go.RowKit
set_option maxRecDepth 100000 in
theorem solutionsBySize_lifted (os : Os) (started : os.Started) (H : Type) (enc : TypeId × Value → H) :
    ReturnsInHanded {} Try.checked os 19 .any (Rows.fnExactSolutionsBySizeSpec.pre6 enc Try.prog Try.f19 Rows.fnExactSolutionsBySizeRow.domain false) (Rows.fnExactSolutionsBySizeSpec.post enc Try.prog Try.f19 false true false false) := by
  refine returnsInHanded_of_change (C := Try.checked) Try.own started (by kernel_rfl) Try.func19
    (ChangeSpec.witness6 (enc := enc) (C := Try.checked) false ⟨#[], #[.agg #[.slice none 0 0, .bool false], .int .i64 0], []⟩ 8 (by kernel_rfl) (by kernel_rfl) (by kernel_rfl) (by kernel_rfl)) ?_
  intro W base args ds gs before hval0 hW hcnd _
  have hval : ∀ (j : Nat) t v, Try.f19.params[j]? = some t → args[j]? = some v → Value.okWide Try.prog W .any base t v := hval0
  have hW' := hW
  obtain ⟨p, q, hA0, hV, rfl, hfz, hnd⟩ := hW
  have hA : DataW.TrodAll enc Try.prog W 0 (fun _ => true) true Try.f19.params.toList args.toList ds p := hA0
  rw [Try.params19] at hA hval
  obtain ⟨v0, v1, d0, d1, p0, p1, rfl, rfl, rfl, h0, h1⟩ := trodAll_two hA
  obtain ⟨rfl, rfl⟩ := trodVars_none hV
  obtain ⟨A0, n0, c0, f0, own0, rfl, hn0, hs0, hw0⟩ := open_graph (hval 0 24 v0 rfl rfl) h0
  obtain ⟨a1, rfl, rfl, rfl, wa1⟩ := open_int Try.underlying3 (hval 1 3 v1 rfl rfl) h1
  clear hA0 hval0
  simp only [List.append_nil] at hW'
  have hlt0 : ∀ x ∈ p0, x.block < W.heap.size := fun x hx => hW'.lt x (by simp [hx])
  refine (lawSBS A0 n0 c0 f0 own0 a1 W hn0 hs0).mono fun e W' ⟨he, hb⟩ => ?_
  subst he
  exact ⟨_, rfl, post_of_below (pa := p0 ++ []) (pv := []) hW' (fun _ _ _ => trodAll_mk1 (shut_bool Try.underlying4 true))
    (fun sp hsp => trodAll_mk2 (stays Try.laidOut (by kernel_rfl) (of_decide_eq_true (by kernel_rfl)) h0 hb hlt0 (fun x hx => hsp x (by simp [hx]))) (shut_int Try.underlying3 wa1)) (fun _ _ => rfl) (by simp) hb
    (ok_one (by kernel_rfl) rfl (okWide_bool_mk Try.underlying4 true))⟩
theorem solutionsBySize_k0 : (Rows.fnExactSolutionsBySizeRow.wf (OpenSpec.ofChange Rows.fnExactSolutionsBySizeSpec)) = true := by kernel_rfl
theorem solutionsBySize_k1 : (laidOutB Try.pinned.checked.prog) = true := by kernel_rfl
theorem solutionsBySize_k2 : (mapsRowed Try.pinned.checked.prog) = true := by kernel_rfl
theorem solutionsBySize_k3 : (Try.f19.params.all (Try.pinned.checked.prog.readableRec ·)) = true := by kernel_rfl
theorem solutionsBySize_k4 : (namedTie Try.pinned.checked.prog Rows.fnExactSolutionsBySizeRow.named Rows.fnExactSolutionsBySizeSpec.vars) = true := by kernel_rfl
theorem solutionsBySize_k5 : ((Rows.fnExactSolutionsBySizeRow.stops == [])) = true := by kernel_rfl
theorem solutionsBySize_k6 : ((Try.pinned.checked.prog.stops == [])) = true := by kernel_rfl
theorem solutionsBySize_k7 : ((Rows.fnExactSolutionsBySizeRow.knobs == [])) = true := by kernel_rfl
theorem solutionsBySize_k8 : ((Try.pinned.checked.prog.stopKnobs == [])) = true := by kernel_rfl
theorem solutionsBySize_k9 : ((Rows.fnExactSolutionsBySizeRow.inPlace == Try.pinned.checked.prog.inPlace 19)) = true := by kernel_rfl
theorem solutionsBySize_k10 : ((Rows.fnExactSolutionsBySizeRow.unfollowed == Try.pinned.checked.prog.unfollowed 19)) = true := by kernel_rfl
theorem solutionsBySize_k11 : ((Rows.fnExactSolutionsBySizeRow.recurses == Try.pinned.checked.prog.recurses 19)) = true := by kernel_rfl
theorem solutionsBySize_k12 : ((Rows.fnExactSolutionsBySizeRow.named == Try.pinned.checked.prog.varsNamed 19)) = true := by kernel_rfl
theorem solutionsBySize_k13 : ((Rows.fnExactSolutionsBySizeRow.maps == (Try.f19.params.toList ++ Rows.fnExactSolutionsBySizeSpec.plain.varTypes Try.pinned.checked.prog).any (Try.pinned.checked.prog.mapsRec ·))) = true := by kernel_rfl
theorem solutionsBySize_k14 : ((Rows.fnExactSolutionsBySizeRow.ifaces == (Try.f19.params.toList ++ Rows.fnExactSolutionsBySizeSpec.plain.varTypes Try.pinned.checked.prog).any (Try.pinned.checked.prog.ifacesRec ·))) = true := by kernel_rfl
theorem solutionsBySize_k15 : ((Rows.fnExactSolutionsBySizeRow.mapsOut == Try.pinned.checked.prog.mapsAmong Try.f19.resultTypes.toList)) = true := by kernel_rfl
theorem solutionsBySize_k16 : ((Rows.fnExactSolutionsBySizeRow.loops == (Try.f19.params.toList ++ Rows.fnExactSolutionsBySizeSpec.plain.varTypes Try.pinned.checked.prog).any (Try.pinned.checked.prog.loopsFrom ·))) = true := by kernel_rfl
theorem solutionsBySize_k17 : ((Rows.fnExactSolutionsBySizeRow.wideKeys == (Try.f19.params.toList ++ Rows.fnExactSolutionsBySizeSpec.plain.varTypes Try.pinned.checked.prog ++ Try.f19.resultTypes.toList).any (Try.pinned.checked.prog.wideKeysFrom ·))) = true := by kernel_rfl
theorem solutionsBySize_k18 : (Rows.fnExactSolutionsBySizeSpec.vars.all (Try.pinned.checked.prog.varReadable ·)) = true := by kernel_rfl
theorem solutionsBySize_k19 : (Try.f19.resultTypes.all (fun t => Try.pinned.checked.prog.readableRec t && decide (t < Try.pinned.checked.prog.types.size))) = true := by kernel_rfl
theorem solutionsBySize_k20 : ((Rows.fnExactSolutionsBySizeRow.ifacesOut == Try.f19.resultTypes.toList.any (Try.pinned.checked.prog.ifacesRec ·))) = true := by kernel_rfl
theorem solutionsBySize_k21 : ((Rows.fnExactSolutionsBySizeRow.loopsOut == Try.f19.resultTypes.toList.any (Try.pinned.checked.prog.loopsFrom ·))) = true := by kernel_rfl
theorem solutionsBySize_k22 : ((Rows.fnExactSolutionsBySizeRow.plainKeys == Try.pinned.checked.prog.plainKeys)) = true := by kernel_rfl
theorem solutionsBySize_k23 : (Rows.fnExactSolutionsBySizeRow.shortTexts.isNone) = true := by kernel_rfl
theorem solutionsBySize_k24 : (Try.pinned.checked.prog.stopsHeard) = true := by kernel_rfl
theorem solutionsBySize_k25 : (Try.pinned.checked.prog.mayEnter) = true := x_enter
theorem solutionsBySize_k26 : ((Rows.fnExactSolutionsBySizeRow.lifted == Try.pinned.checked.prog.liftsFinal)) = true := by rw [x_lifts]; rfl
theorem solutionsBySize_k27 : ((Try.pinned.checked.prog.make == some Rows.fnExactSolutionsBySizeRow.make)) = true := by rw [x_make]; rfl
theorem solutionsBySize_k28 : ((Rows.fnExactSolutionsBySizeRow.kinds == (if Rows.fnExactSolutionsBySizeRow.domain.isEmpty then [] else Try.f19.params.toList.map fun t => match Try.pinned.checked.prog.underlying t with | some (.int k) => some k | _ => none))) = true := by kernel_rfl
theorem solutionsBySize_k29 : ((Rows.fnExactSolutionsBySizeRow.pinned == Rows.fnExactSolutionsBySizeRow.pinnedBy)) = true := by kernel_rfl
theorem solutionsBySize_k30 : ((Rows.fnExactSolutionsBySizeRow.veiled == (Try.f19.params.toList ++ Rows.fnExactSolutionsBySizeSpec.plain.varTypes Try.pinned.checked.prog ++ Try.f19.resultTypes.toList).any (Try.pinned.checked.prog.veiledRec ·))) = true := by kernel_rfl
theorem solutionsBySize_k31 : (Rows.fnExactSolutionsBySizeRow.veiledFits Try.pinned.checked.prog Try.f19.params.toList (Try.f19.params.toList ++ Rows.fnExactSolutionsBySizeSpec.plain.varTypes Try.pinned.checked.prog ++ Try.f19.resultTypes.toList)) = true := by kernel_rfl
theorem solutionsBySize_pkg : decide (Check.packageOf Try.f19.name = "main") = false := by kernel_rfl
theorem solutionsBySize_inst : Func.isInstance Try.pinned.checked.prog Try.f19 Rows.fnExactSolutionsBySizeRow.origin Rows.fnExactSolutionsBySizeRow.targs := of_decide_eq_true (by kernel_rfl)
theorem solutionsBySize_wrap : Func.isWrapper Try.pinned.checked.prog Try.f19 Rows.fnExactSolutionsBySizeRow.wrapper Rows.fnExactSolutionsBySizeRow.mainSum := by
  unfold Func.isWrapper; rw [if_neg (of_decide_eq_false solutionsBySize_pkg)]; exact ⟨rfl, rfl⟩
theorem solutionsBySize_closed : joinedFacts Try.pinned.checked.prog 19 Try.f19 Rows.fnExactSolutionsBySizeSpec Rows.fnExactSolutionsBySizeRow = true :=
  (and_of (and_of (and_of (and_of (and_of (and_of (and_of (and_of (and_of (and_of (and_of (and_of (and_of (and_of (and_of (and_of (and_of (and_of (and_of (and_of (and_of (and_of (and_of (and_of (and_of (and_of (and_of (and_of (and_of (and_of (and_of solutionsBySize_k0 solutionsBySize_k1) solutionsBySize_k2) solutionsBySize_k3) solutionsBySize_k4) solutionsBySize_k5) solutionsBySize_k6) solutionsBySize_k7) solutionsBySize_k8) solutionsBySize_k9) solutionsBySize_k10) solutionsBySize_k11) solutionsBySize_k12) solutionsBySize_k13) solutionsBySize_k14) solutionsBySize_k15) solutionsBySize_k16) solutionsBySize_k17) solutionsBySize_k18) solutionsBySize_k19) solutionsBySize_k20) solutionsBySize_k21) solutionsBySize_k22) solutionsBySize_k23) solutionsBySize_k24) solutionsBySize_k25) solutionsBySize_k26) solutionsBySize_k27) solutionsBySize_k28) solutionsBySize_k29) solutionsBySize_k30) solutionsBySize_k31)
theorem solutionsBySize_holds : Rows.FnExactSolutionsBySizeSaid :=
  OpenClaim.holds_of_wide 19 Try.f19 rfl rfl rfl rfl rfl rfl rfl ⟨rfl, rfl, rfl, rfl, rfl⟩ rfl rfl rfl rfl rfl (by kernel_rfl) Try.func19 solutionsBySize_closed
    solutionsBySize_inst solutionsBySize_wrap (fun os started H enc _ => solutionsBySize_lifted os started H enc)
end Go.Proofs.Ytodbhokokdckkaa
