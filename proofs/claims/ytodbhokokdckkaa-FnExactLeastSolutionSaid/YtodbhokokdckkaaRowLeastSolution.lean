/-
LeastSolution answers as its model at every graph value and number, and leaves its argument as it was. No condition.
-/
import Derived.Test.YtodbhokokdckkaaLZ
import Derived.Test.YtodbhokokdckkaaP
import Derived.Test.YtodbhokokdckkaaQ1
namespace Go.Proofs.Ytodbhokokdckkaa
open Go.ChangeShapes Go.WideShapes Go.ChangeAt Go.RowKit
set_option maxRecDepth 100000 in
theorem leastSolution_lifted (os : Os) (started : os.Started) (H : Type) (enc : TypeId × Value → H) :
    ReturnsInHanded {} Try.checked os 15 .any (Rows.fnExactLeastSolutionSpec.pre6 enc Try.prog Try.f15 Rows.fnExactLeastSolutionRow.domain false) (Rows.fnExactLeastSolutionSpec.post enc Try.prog Try.f15 false true false false) := by
  refine returnsInHanded_of_change (C := Try.checked) Try.own started (by kernel_rfl) Try.func15
    (ChangeSpec.witness6 (enc := enc) (C := Try.checked) false ⟨#[], #[.agg #[.slice none 0 0, .bool false], .int .i64 0], []⟩ 8 (by kernel_rfl) (by kernel_rfl) (by kernel_rfl) (by kernel_rfl)) ?_
  intro W base args ds gs before hval0 hW hcnd _
  have hval : ∀ (j : Nat) t v, Try.f15.params[j]? = some t → args[j]? = some v → Value.okWide Try.prog W .any base t v := hval0
  have hW' := hW
  obtain ⟨p, q, hA0, hV, rfl, hfz, hnd⟩ := hW
  have hA : DataW.TrodAll enc Try.prog W 0 (fun _ => true) true Try.f15.params.toList args.toList ds p := hA0
  rw [Try.params15] at hA hval
  obtain ⟨v0, v1, d0, d1, p0, p1, rfl, rfl, rfl, h0, h1⟩ := trodAll_two hA
  obtain ⟨rfl, rfl⟩ := trodVars_none hV
  obtain ⟨A0, n0, c0, f0, own0, rfl, hn0, hs0, hw0⟩ := open_graph (hval 0 24 v0 rfl rfl) h0
  obtain ⟨a1, rfl, rfl, rfl, wa1⟩ := open_int Try.underlying3 (hval 1 3 v1 rfl rfl) h1
  clear hA0 hval0
  simp only [List.append_nil] at hW'
  have hlt0 : ∀ x ∈ p0, x.block < W.heap.size := fun x hx => hW'.lt x (by simp [hx])
  refine (lawLeast A0 n0 c0 f0 own0 a1 W hn0 hs0).mono fun e W' ⟨he, hb⟩ => ?_
  subst he
  exact ⟨_, rfl, post_of_below (pa := p0 ++ []) (pv := []) hW' (fun _ _ _ => trodAll_mk1 (shut_bool Try.underlying4 true))
    (fun sp hsp => trodAll_mk2 (stays Try.laidOut (by kernel_rfl) (of_decide_eq_true (by kernel_rfl)) h0 hb hlt0 (fun x hx => hsp x (by simp [hx]))) (shut_int Try.underlying3 wa1)) (fun _ _ => rfl) (by simp) hb
    (ok_one (by kernel_rfl) rfl (okWide_bool_mk Try.underlying4 true))⟩
theorem leastSolution_k0 : (Rows.fnExactLeastSolutionRow.wf (OpenSpec.ofChange Rows.fnExactLeastSolutionSpec)) = true := by kernel_rfl
theorem leastSolution_k1 : (laidOutB Try.pinned.checked.prog) = true := by kernel_rfl
theorem leastSolution_k2 : (mapsRowed Try.pinned.checked.prog) = true := by kernel_rfl
theorem leastSolution_k3 : (Try.f15.params.all (Try.pinned.checked.prog.readableRec ·)) = true := by kernel_rfl
theorem leastSolution_k4 : (namedTie Try.pinned.checked.prog Rows.fnExactLeastSolutionRow.named Rows.fnExactLeastSolutionSpec.vars) = true := by kernel_rfl
theorem leastSolution_k5 : ((Rows.fnExactLeastSolutionRow.stops == [])) = true := by kernel_rfl
theorem leastSolution_k6 : ((Try.pinned.checked.prog.stops == [])) = true := by kernel_rfl
theorem leastSolution_k7 : ((Rows.fnExactLeastSolutionRow.knobs == [])) = true := by kernel_rfl
theorem leastSolution_k8 : ((Try.pinned.checked.prog.stopKnobs == [])) = true := by kernel_rfl
theorem leastSolution_k9 : ((Rows.fnExactLeastSolutionRow.inPlace == Try.pinned.checked.prog.inPlace 15)) = true := by kernel_rfl
theorem leastSolution_k10 : ((Rows.fnExactLeastSolutionRow.unfollowed == Try.pinned.checked.prog.unfollowed 15)) = true := by kernel_rfl
theorem leastSolution_k11 : ((Rows.fnExactLeastSolutionRow.recurses == Try.pinned.checked.prog.recurses 15)) = true := by kernel_rfl
theorem leastSolution_k12 : ((Rows.fnExactLeastSolutionRow.named == Try.pinned.checked.prog.varsNamed 15)) = true := by kernel_rfl
theorem leastSolution_k13 : ((Rows.fnExactLeastSolutionRow.maps == (Try.f15.params.toList ++ Rows.fnExactLeastSolutionSpec.plain.varTypes Try.pinned.checked.prog).any (Try.pinned.checked.prog.mapsRec ·))) = true := by kernel_rfl
theorem leastSolution_k14 : ((Rows.fnExactLeastSolutionRow.ifaces == (Try.f15.params.toList ++ Rows.fnExactLeastSolutionSpec.plain.varTypes Try.pinned.checked.prog).any (Try.pinned.checked.prog.ifacesRec ·))) = true := by kernel_rfl
theorem leastSolution_k15 : ((Rows.fnExactLeastSolutionRow.mapsOut == Try.pinned.checked.prog.mapsAmong Try.f15.resultTypes.toList)) = true := by kernel_rfl
theorem leastSolution_k16 : ((Rows.fnExactLeastSolutionRow.loops == (Try.f15.params.toList ++ Rows.fnExactLeastSolutionSpec.plain.varTypes Try.pinned.checked.prog).any (Try.pinned.checked.prog.loopsFrom ·))) = true := by kernel_rfl
theorem leastSolution_k17 : ((Rows.fnExactLeastSolutionRow.wideKeys == (Try.f15.params.toList ++ Rows.fnExactLeastSolutionSpec.plain.varTypes Try.pinned.checked.prog ++ Try.f15.resultTypes.toList).any (Try.pinned.checked.prog.wideKeysFrom ·))) = true := by kernel_rfl
theorem leastSolution_k18 : (Rows.fnExactLeastSolutionSpec.vars.all (Try.pinned.checked.prog.varReadable ·)) = true := by kernel_rfl
theorem leastSolution_k19 : (Try.f15.resultTypes.all (fun t => Try.pinned.checked.prog.readableRec t && decide (t < Try.pinned.checked.prog.types.size))) = true := by kernel_rfl
theorem leastSolution_k20 : ((Rows.fnExactLeastSolutionRow.ifacesOut == Try.f15.resultTypes.toList.any (Try.pinned.checked.prog.ifacesRec ·))) = true := by kernel_rfl
theorem leastSolution_k21 : ((Rows.fnExactLeastSolutionRow.loopsOut == Try.f15.resultTypes.toList.any (Try.pinned.checked.prog.loopsFrom ·))) = true := by kernel_rfl
theorem leastSolution_k22 : ((Rows.fnExactLeastSolutionRow.plainKeys == Try.pinned.checked.prog.plainKeys)) = true := by kernel_rfl
theorem leastSolution_k23 : (Rows.fnExactLeastSolutionRow.shortTexts.isNone) = true := by kernel_rfl
theorem leastSolution_k24 : (Try.pinned.checked.prog.stopsHeard) = true := by kernel_rfl
theorem leastSolution_k25 : (Try.pinned.checked.prog.mayEnter) = true := x_enter
theorem leastSolution_k26 : ((Rows.fnExactLeastSolutionRow.lifted == Try.pinned.checked.prog.liftsFinal)) = true := by rw [x_lifts]; rfl
theorem leastSolution_k27 : ((Try.pinned.checked.prog.make == some Rows.fnExactLeastSolutionRow.make)) = true := by rw [x_make]; rfl
theorem leastSolution_k28 : ((Rows.fnExactLeastSolutionRow.kinds == (if Rows.fnExactLeastSolutionRow.domain.isEmpty then [] else Try.f15.params.toList.map fun t => match Try.pinned.checked.prog.underlying t with | some (.int k) => some k | _ => none))) = true := by kernel_rfl
theorem leastSolution_k29 : ((Rows.fnExactLeastSolutionRow.pinned == Rows.fnExactLeastSolutionRow.pinnedBy)) = true := by kernel_rfl
theorem leastSolution_k30 : ((Rows.fnExactLeastSolutionRow.veiled == (Try.f15.params.toList ++ Rows.fnExactLeastSolutionSpec.plain.varTypes Try.pinned.checked.prog ++ Try.f15.resultTypes.toList).any (Try.pinned.checked.prog.veiledRec ·))) = true := by kernel_rfl
theorem leastSolution_k31 : (Rows.fnExactLeastSolutionRow.veiledFits Try.pinned.checked.prog Try.f15.params.toList (Try.f15.params.toList ++ Rows.fnExactLeastSolutionSpec.plain.varTypes Try.pinned.checked.prog ++ Try.f15.resultTypes.toList)) = true := by kernel_rfl
theorem leastSolution_pkg : decide (Check.packageOf Try.f15.name = "main") = false := by kernel_rfl
theorem leastSolution_inst : Func.isInstance Try.pinned.checked.prog Try.f15 Rows.fnExactLeastSolutionRow.origin Rows.fnExactLeastSolutionRow.targs := of_decide_eq_true (by kernel_rfl)
theorem leastSolution_wrap : Func.isWrapper Try.pinned.checked.prog Try.f15 Rows.fnExactLeastSolutionRow.wrapper Rows.fnExactLeastSolutionRow.mainSum := by
  unfold Func.isWrapper; rw [if_neg (of_decide_eq_false leastSolution_pkg)]; exact ⟨rfl, rfl⟩
theorem leastSolution_closed : joinedFacts Try.pinned.checked.prog 15 Try.f15 Rows.fnExactLeastSolutionSpec Rows.fnExactLeastSolutionRow = true :=
  (and_of (and_of (and_of (and_of (and_of (and_of (and_of (and_of (and_of (and_of (and_of (and_of (and_of (and_of (and_of (and_of (and_of (and_of (and_of (and_of (and_of (and_of (and_of (and_of (and_of (and_of (and_of (and_of (and_of (and_of (and_of leastSolution_k0 leastSolution_k1) leastSolution_k2) leastSolution_k3) leastSolution_k4) leastSolution_k5) leastSolution_k6) leastSolution_k7) leastSolution_k8) leastSolution_k9) leastSolution_k10) leastSolution_k11) leastSolution_k12) leastSolution_k13) leastSolution_k14) leastSolution_k15) leastSolution_k16) leastSolution_k17) leastSolution_k18) leastSolution_k19) leastSolution_k20) leastSolution_k21) leastSolution_k22) leastSolution_k23) leastSolution_k24) leastSolution_k25) leastSolution_k26) leastSolution_k27) leastSolution_k28) leastSolution_k29) leastSolution_k30) leastSolution_k31)
theorem leastSolution_holds : Rows.FnExactLeastSolutionSaid :=
  OpenClaim.holds_of_wide 15 Try.f15 rfl rfl rfl rfl rfl rfl rfl ⟨rfl, rfl, rfl, rfl, rfl⟩ rfl rfl rfl rfl rfl (by kernel_rfl) Try.func15 leastSolution_closed
    leastSolution_inst leastSolution_wrap (fun os started H enc _ => leastSolution_lifted os started H enc)
end Go.Proofs.Ytodbhokokdckkaa
