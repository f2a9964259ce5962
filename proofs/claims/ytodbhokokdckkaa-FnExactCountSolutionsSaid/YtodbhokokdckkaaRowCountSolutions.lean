/-
CountSolutions answers as its model at every graph value and number, and leaves its argument as it was. No condition.
-/
import Derived.Test.YtodbhokokdckkaaLX
import Derived.Test.YtodbhokokdckkaaP
import Derived.Test.YtodbhokokdckkaaQ1
namespace Go.Proofs.Ytodbhokokdckkaa
open Go.ChangeShapes Go.WideShapes Go.ChangeAt Go.RowKit
set_option maxRecDepth 100000 in
theorem countSolutions_lifted (os : Os) (started : os.Started) (H : Type) (enc : TypeId × Value → H) :
    ReturnsInHanded {} Try.checked os 14 .any (Rows.fnExactCountSolutionsSpec.pre6 enc Try.prog Try.f14 Rows.fnExactCountSolutionsRow.domain false) (Rows.fnExactCountSolutionsSpec.post enc Try.prog Try.f14 false true false false) := by
  refine returnsInHanded_of_change (C := Try.checked) Try.own started (by kernel_rfl) Try.func14
    (ChangeSpec.witness6 (enc := enc) (C := Try.checked) false ⟨#[], #[.agg #[.slice none 0 0, .bool false], .int .i64 0], []⟩ 8 (by kernel_rfl) (by kernel_rfl) (by kernel_rfl) (by kernel_rfl)) ?_
  intro W base args ds gs before hval0 hW hcnd _
  have hval : ∀ (j : Nat) t v, Try.f14.params[j]? = some t → args[j]? = some v → Value.okWide Try.prog W .any base t v := hval0
  have hW' := hW
  obtain ⟨p, q, hA0, hV, rfl, hfz, hnd⟩ := hW
  have hA : DataW.TrodAll enc Try.prog W 0 (fun _ => true) true Try.f14.params.toList args.toList ds p := hA0
  rw [Try.params14] at hA hval
  obtain ⟨v0, v1, d0, d1, p0, p1, rfl, rfl, rfl, h0, h1⟩ := trodAll_two hA
  obtain ⟨rfl, rfl⟩ := trodVars_none hV
  obtain ⟨A0, n0, c0, f0, own0, rfl, hn0, hs0, hw0⟩ := open_graph (hval 0 24 v0 rfl rfl) h0
  obtain ⟨a1, rfl, rfl, rfl, wa1⟩ := open_int Try.underlying3 (hval 1 3 v1 rfl rfl) h1
  clear hA0 hval0
  simp only [List.append_nil] at hW'
  have hlt0 : ∀ x ∈ p0, x.block < W.heap.size := fun x hx => hW'.lt x (by simp [hx])
  refine (lawCnt A0 n0 c0 f0 own0 a1 W hn0 hs0).mono fun e W' ⟨he, hb⟩ => ?_
  subst he
  exact ⟨_, rfl, post_of_below (pa := p0 ++ []) (pv := []) hW' (fun _ _ _ => trodAll_mk1 (shut_bool Try.underlying4 true))
    (fun sp hsp => trodAll_mk2 (stays Try.laidOut (by kernel_rfl) (of_decide_eq_true (by kernel_rfl)) h0 hb hlt0 (fun x hx => hsp x (by simp [hx]))) (shut_int Try.underlying3 wa1)) (fun _ _ => rfl) (by simp) hb
    (ok_one (by kernel_rfl) rfl (okWide_bool_mk Try.underlying4 true))⟩
theorem countSolutions_k0 : (Rows.fnExactCountSolutionsRow.wf (OpenSpec.ofChange Rows.fnExactCountSolutionsSpec)) = true := by kernel_rfl
theorem countSolutions_k1 : (laidOutB Try.pinned.checked.prog) = true := by kernel_rfl
theorem countSolutions_k2 : (mapsRowed Try.pinned.checked.prog) = true := by kernel_rfl
theorem countSolutions_k3 : (Try.f14.params.all (Try.pinned.checked.prog.readableRec ·)) = true := by kernel_rfl
theorem countSolutions_k4 : (namedTie Try.pinned.checked.prog Rows.fnExactCountSolutionsRow.named Rows.fnExactCountSolutionsSpec.vars) = true := by kernel_rfl
theorem countSolutions_k5 : ((Rows.fnExactCountSolutionsRow.stops == [])) = true := by kernel_rfl
theorem countSolutions_k6 : ((Try.pinned.checked.prog.stops == [])) = true := by kernel_rfl
theorem countSolutions_k7 : ((Rows.fnExactCountSolutionsRow.knobs == [])) = true := by kernel_rfl
theorem countSolutions_k8 : ((Try.pinned.checked.prog.stopKnobs == [])) = true := by kernel_rfl
theorem countSolutions_k9 : ((Rows.fnExactCountSolutionsRow.inPlace == Try.pinned.checked.prog.inPlace 14)) = true := by kernel_rfl
theorem countSolutions_k10 : ((Rows.fnExactCountSolutionsRow.unfollowed == Try.pinned.checked.prog.unfollowed 14)) = true := by kernel_rfl
theorem countSolutions_k11 : ((Rows.fnExactCountSolutionsRow.recurses == Try.pinned.checked.prog.recurses 14)) = true := by kernel_rfl
theorem countSolutions_k12 : ((Rows.fnExactCountSolutionsRow.named == Try.pinned.checked.prog.varsNamed 14)) = true := by kernel_rfl
theorem countSolutions_k13 : ((Rows.fnExactCountSolutionsRow.maps == (Try.f14.params.toList ++ Rows.fnExactCountSolutionsSpec.plain.varTypes Try.pinned.checked.prog).any (Try.pinned.checked.prog.mapsRec ·))) = true := by kernel_rfl
theorem countSolutions_k14 : ((Rows.fnExactCountSolutionsRow.ifaces == (Try.f14.params.toList ++ Rows.fnExactCountSolutionsSpec.plain.varTypes Try.pinned.checked.prog).any (Try.pinned.checked.prog.ifacesRec ·))) = true := by kernel_rfl
theorem countSolutions_k15 : ((Rows.fnExactCountSolutionsRow.mapsOut == Try.pinned.checked.prog.mapsAmong Try.f14.resultTypes.toList)) = true := by kernel_rfl
theorem countSolutions_k16 : ((Rows.fnExactCountSolutionsRow.loops == (Try.f14.params.toList ++ Rows.fnExactCountSolutionsSpec.plain.varTypes Try.pinned.checked.prog).any (Try.pinned.checked.prog.loopsFrom ·))) = true := by kernel_rfl
theorem countSolutions_k17 : ((Rows.fnExactCountSolutionsRow.wideKeys == (Try.f14.params.toList ++ Rows.fnExactCountSolutionsSpec.plain.varTypes Try.pinned.checked.prog ++ Try.f14.resultTypes.toList).any (Try.pinned.checked.prog.wideKeysFrom ·))) = true := by kernel_rfl
theorem countSolutions_k18 : (Rows.fnExactCountSolutionsSpec.vars.all (Try.pinned.checked.prog.varReadable ·)) = true := by kernel_rfl
theorem countSolutions_k19 : (Try.f14.resultTypes.all (fun t => Try.pinned.checked.prog.readableRec t && decide (t < Try.pinned.checked.prog.types.size))) = true := by kernel_rfl
theorem countSolutions_k20 : ((Rows.fnExactCountSolutionsRow.ifacesOut == Try.f14.resultTypes.toList.any (Try.pinned.checked.prog.ifacesRec ·))) = true := by kernel_rfl
theorem countSolutions_k21 : ((Rows.fnExactCountSolutionsRow.loopsOut == Try.f14.resultTypes.toList.any (Try.pinned.checked.prog.loopsFrom ·))) = true := by kernel_rfl
theorem countSolutions_k22 : ((Rows.fnExactCountSolutionsRow.plainKeys == Try.pinned.checked.prog.plainKeys)) = true := by kernel_rfl
theorem countSolutions_k23 : (Rows.fnExactCountSolutionsRow.shortTexts.isNone) = true := by kernel_rfl
theorem countSolutions_k24 : (Try.pinned.checked.prog.stopsHeard) = true := by kernel_rfl
theorem countSolutions_k25 : (Try.pinned.checked.prog.mayEnter) = true := x_enter
theorem countSolutions_k26 : ((Rows.fnExactCountSolutionsRow.lifted == Try.pinned.checked.prog.liftsFinal)) = true := by rw [x_lifts]; rfl
theorem countSolutions_k27 : ((Try.pinned.checked.prog.make == some Rows.fnExactCountSolutionsRow.make)) = true := by rw [x_make]; rfl
theorem countSolutions_k28 : ((Rows.fnExactCountSolutionsRow.kinds == (if Rows.fnExactCountSolutionsRow.domain.isEmpty then [] else Try.f14.params.toList.map fun t => match Try.pinned.checked.prog.underlying t with | some (.int k) => some k | _ => none))) = true := by kernel_rfl
theorem countSolutions_k29 : ((Rows.fnExactCountSolutionsRow.pinned == Rows.fnExactCountSolutionsRow.pinnedBy)) = true := by kernel_rfl
theorem countSolutions_k30 : ((Rows.fnExactCountSolutionsRow.veiled == (Try.f14.params.toList ++ Rows.fnExactCountSolutionsSpec.plain.varTypes Try.pinned.checked.prog ++ Try.f14.resultTypes.toList).any (Try.pinned.checked.prog.veiledRec ·))) = true := by kernel_rfl
theorem countSolutions_k31 : (Rows.fnExactCountSolutionsRow.veiledFits Try.pinned.checked.prog Try.f14.params.toList (Try.f14.params.toList ++ Rows.fnExactCountSolutionsSpec.plain.varTypes Try.pinned.checked.prog ++ Try.f14.resultTypes.toList)) = true := by kernel_rfl
theorem countSolutions_pkg : decide (Check.packageOf Try.f14.name = "main") = false := by kernel_rfl
theorem countSolutions_inst : Func.isInstance Try.pinned.checked.prog Try.f14 Rows.fnExactCountSolutionsRow.origin Rows.fnExactCountSolutionsRow.targs := of_decide_eq_true (by kernel_rfl)
theorem countSolutions_wrap : Func.isWrapper Try.pinned.checked.prog Try.f14 Rows.fnExactCountSolutionsRow.wrapper Rows.fnExactCountSolutionsRow.mainSum := by
  unfold Func.isWrapper; rw [if_neg (of_decide_eq_false countSolutions_pkg)]; exact ⟨rfl, rfl⟩
theorem countSolutions_closed : joinedFacts Try.pinned.checked.prog 14 Try.f14 Rows.fnExactCountSolutionsSpec Rows.fnExactCountSolutionsRow = true :=
  (and_of (and_of (and_of (and_of (and_of (and_of (and_of (and_of (and_of (and_of (and_of (and_of (and_of (and_of (and_of (and_of (and_of (and_of (and_of (and_of (and_of (and_of (and_of (and_of (and_of (and_of (and_of (and_of (and_of (and_of (and_of countSolutions_k0 countSolutions_k1) countSolutions_k2) countSolutions_k3) countSolutions_k4) countSolutions_k5) countSolutions_k6) countSolutions_k7) countSolutions_k8) countSolutions_k9) countSolutions_k10) countSolutions_k11) countSolutions_k12) countSolutions_k13) countSolutions_k14) countSolutions_k15) countSolutions_k16) countSolutions_k17) countSolutions_k18) countSolutions_k19) countSolutions_k20) countSolutions_k21) countSolutions_k22) countSolutions_k23) countSolutions_k24) countSolutions_k25) countSolutions_k26) countSolutions_k27) countSolutions_k28) countSolutions_k29) countSolutions_k30) countSolutions_k31)
theorem countSolutions_holds : Rows.FnExactCountSolutionsSaid :=
  OpenClaim.holds_of_wide 14 Try.f14 rfl rfl rfl rfl rfl rfl rfl ⟨rfl, rfl, rfl, rfl, rfl⟩ rfl rfl rfl rfl rfl (by kernel_rfl) Try.func14 countSolutions_closed
    countSolutions_inst countSolutions_wrap (fun os started H enc _ => countSolutions_lifted os started H enc)
end Go.Proofs.Ytodbhokokdckkaa
