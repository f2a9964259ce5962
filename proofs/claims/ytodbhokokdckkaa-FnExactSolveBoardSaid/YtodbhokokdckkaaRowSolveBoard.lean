/-
SolveBoard answers as its model at every graph value and number, and leaves its argument as it was. No condition.
-/
import Derived.Test.YtodbhokokdckkaaLS
import Derived.Test.YtodbhokokdckkaaP
import Derived.Test.YtodbhokokdckkaaQ1
namespace Go.Proofs.Ytodbhokokdckkaa
open Go.ChangeShapes Go.WideShapes Go.ChangeAt Go.RowKit
set_option maxRecDepth 100000 in
theorem solveBoard_lifted (os : Os) (started : os.Started) (H : Type) (enc : TypeId × Value → H) :
    ReturnsInHanded {} Try.checked os 12 .any (Rows.fnExactSolveBoardSpec.pre6 enc Try.prog Try.f12 Rows.fnExactSolveBoardRow.domain false) (Rows.fnExactSolveBoardSpec.post enc Try.prog Try.f12 false true false false) := by
  refine returnsInHanded_of_change (C := Try.checked) Try.own started (by kernel_rfl) Try.func12
    (ChangeSpec.witness6 (enc := enc) (C := Try.checked) false ⟨#[], #[.agg #[.slice none 0 0, .bool false], .int .i64 0], []⟩ 8 (by kernel_rfl) (by kernel_rfl) (by kernel_rfl) (by kernel_rfl)) ?_
  intro W base args ds gs before hval0 hW hcnd _
  have hval : ∀ (j : Nat) t v, Try.f12.params[j]? = some t → args[j]? = some v → Value.okWide Try.prog W .any base t v := hval0
  have hW' := hW
  obtain ⟨p, q, hA0, hV, rfl, hfz, hnd⟩ := hW
  have hA : DataW.TrodAll enc Try.prog W 0 (fun _ => true) true Try.f12.params.toList args.toList ds p := hA0
  rw [Try.params12] at hA hval
  obtain ⟨v0, v1, d0, d1, p0, p1, rfl, rfl, rfl, h0, h1⟩ := trodAll_two hA
  obtain ⟨rfl, rfl⟩ := trodVars_none hV
  obtain ⟨A0, n0, c0, f0, own0, rfl, hn0, hs0, hw0⟩ := open_graph (hval 0 24 v0 rfl rfl) h0
  obtain ⟨a1, rfl, rfl, rfl, wa1⟩ := open_int Try.underlying3 (hval 1 3 v1 rfl rfl) h1
  clear hA0 hval0
  simp only [List.append_nil] at hW'
  have hlt0 : ∀ x ∈ p0, x.block < W.heap.size := fun x hx => hW'.lt x (by simp [hx])
  refine (lawSolve A0 n0 c0 f0 own0 a1 W hn0 hs0).mono fun e W' ⟨he, hb⟩ => ?_
  subst he
  exact ⟨_, rfl, post_of_below (pa := p0 ++ []) (pv := []) hW' (fun _ _ _ => trodAll_mk1 (shut_bool Try.underlying4 true))
    (fun sp hsp => trodAll_mk2 (stays Try.laidOut (by kernel_rfl) (of_decide_eq_true (by kernel_rfl)) h0 hb hlt0 (fun x hx => hsp x (by simp [hx]))) (shut_int Try.underlying3 wa1)) (fun _ _ => rfl) (by simp) hb
    (ok_one (by kernel_rfl) rfl (okWide_bool_mk Try.underlying4 true))⟩
theorem solveBoard_k0 : (Rows.fnExactSolveBoardRow.wf (OpenSpec.ofChange Rows.fnExactSolveBoardSpec)) = true := by kernel_rfl
theorem solveBoard_k1 : (laidOutB Try.pinned.checked.prog) = true := by kernel_rfl
theorem solveBoard_k2 : (mapsRowed Try.pinned.checked.prog) = true := by kernel_rfl
theorem solveBoard_k3 : (Try.f12.params.all (Try.pinned.checked.prog.readableRec ·)) = true := by kernel_rfl
theorem solveBoard_k4 : (namedTie Try.pinned.checked.prog Rows.fnExactSolveBoardRow.named Rows.fnExactSolveBoardSpec.vars) = true := by kernel_rfl
theorem solveBoard_k5 : ((Rows.fnExactSolveBoardRow.stops == [])) = true := by kernel_rfl
theorem solveBoard_k6 : ((Try.pinned.checked.prog.stops == [])) = true := by kernel_rfl
theorem solveBoard_k7 : ((Rows.fnExactSolveBoardRow.knobs == [])) = true := by kernel_rfl
theorem solveBoard_k8 : ((Try.pinned.checked.prog.stopKnobs == [])) = true := by kernel_rfl
theorem solveBoard_k9 : ((Rows.fnExactSolveBoardRow.inPlace == Try.pinned.checked.prog.inPlace 12)) = true := by kernel_rfl
theorem solveBoard_k10 : ((Rows.fnExactSolveBoardRow.unfollowed == Try.pinned.checked.prog.unfollowed 12)) = true := by kernel_rfl
theorem solveBoard_k11 : ((Rows.fnExactSolveBoardRow.recurses == Try.pinned.checked.prog.recurses 12)) = true := by kernel_rfl
theorem solveBoard_k12 : ((Rows.fnExactSolveBoardRow.named == Try.pinned.checked.prog.varsNamed 12)) = true := by kernel_rfl
theorem solveBoard_k13 : ((Rows.fnExactSolveBoardRow.maps == (Try.f12.params.toList ++ Rows.fnExactSolveBoardSpec.plain.varTypes Try.pinned.checked.prog).any (Try.pinned.checked.prog.mapsRec ·))) = true := by kernel_rfl
theorem solveBoard_k14 : ((Rows.fnExactSolveBoardRow.ifaces == (Try.f12.params.toList ++ Rows.fnExactSolveBoardSpec.plain.varTypes Try.pinned.checked.prog).any (Try.pinned.checked.prog.ifacesRec ·))) = true := by kernel_rfl
theorem solveBoard_k15 : ((Rows.fnExactSolveBoardRow.mapsOut == Try.pinned.checked.prog.mapsAmong Try.f12.resultTypes.toList)) = true := by kernel_rfl
theorem solveBoard_k16 : ((Rows.fnExactSolveBoardRow.loops == (Try.f12.params.toList ++ Rows.fnExactSolveBoardSpec.plain.varTypes Try.pinned.checked.prog).any (Try.pinned.checked.prog.loopsFrom ·))) = true := by kernel_rfl
theorem solveBoard_k17 : ((Rows.fnExactSolveBoardRow.wideKeys == (Try.f12.params.toList ++ Rows.fnExactSolveBoardSpec.plain.varTypes Try.pinned.checked.prog ++ Try.f12.resultTypes.toList).any (Try.pinned.checked.prog.wideKeysFrom ·))) = true := by kernel_rfl
theorem solveBoard_k18 : (Rows.fnExactSolveBoardSpec.vars.all (Try.pinned.checked.prog.varReadable ·)) = true := by kernel_rfl
theorem solveBoard_k19 : (Try.f12.resultTypes.all (fun t => Try.pinned.checked.prog.readableRec t && decide (t < Try.pinned.checked.prog.types.size))) = true := by kernel_rfl
theorem solveBoard_k20 : ((Rows.fnExactSolveBoardRow.ifacesOut == Try.f12.resultTypes.toList.any (Try.pinned.checked.prog.ifacesRec ·))) = true := by kernel_rfl
theorem solveBoard_k21 : ((Rows.fnExactSolveBoardRow.loopsOut == Try.f12.resultTypes.toList.any (Try.pinned.checked.prog.loopsFrom ·))) = true := by kernel_rfl
theorem solveBoard_k22 : ((Rows.fnExactSolveBoardRow.plainKeys == Try.pinned.checked.prog.plainKeys)) = true := by kernel_rfl
theorem solveBoard_k23 : (Rows.fnExactSolveBoardRow.shortTexts.isNone) = true := by kernel_rfl
theorem solveBoard_k24 : (Try.pinned.checked.prog.stopsHeard) = true := by kernel_rfl
theorem solveBoard_k25 : (Try.pinned.checked.prog.mayEnter) = true := x_enter
theorem solveBoard_k26 : ((Rows.fnExactSolveBoardRow.lifted == Try.pinned.checked.prog.liftsFinal)) = true := by rw [x_lifts]; rfl
theorem solveBoard_k27 : ((Try.pinned.checked.prog.make == some Rows.fnExactSolveBoardRow.make)) = true := by rw [x_make]; rfl
theorem solveBoard_k28 : ((Rows.fnExactSolveBoardRow.kinds == (if Rows.fnExactSolveBoardRow.domain.isEmpty then [] else Try.f12.params.toList.map fun t => match Try.pinned.checked.prog.underlying t with | some (.int k) => some k | _ => none))) = true := by kernel_rfl
theorem solveBoard_k29 : ((Rows.fnExactSolveBoardRow.pinned == Rows.fnExactSolveBoardRow.pinnedBy)) = true := by kernel_rfl
theorem solveBoard_k30 : ((Rows.fnExactSolveBoardRow.veiled == (Try.f12.params.toList ++ Rows.fnExactSolveBoardSpec.plain.varTypes Try.pinned.checked.prog ++ Try.f12.resultTypes.toList).any (Try.pinned.checked.prog.veiledRec ·))) = true := by kernel_rfl
theorem solveBoard_k31 : (Rows.fnExactSolveBoardRow.veiledFits Try.pinned.checked.prog Try.f12.params.toList (Try.f12.params.toList ++ Rows.fnExactSolveBoardSpec.plain.varTypes Try.pinned.checked.prog ++ Try.f12.resultTypes.toList)) = true := by kernel_rfl
theorem solveBoard_pkg : decide (Check.packageOf Try.f12.name = "main") = false := by kernel_rfl
theorem solveBoard_inst : Func.isInstance Try.pinned.checked.prog Try.f12 Rows.fnExactSolveBoardRow.origin Rows.fnExactSolveBoardRow.targs := of_decide_eq_true (by kernel_rfl)
theorem solveBoard_wrap : Func.isWrapper Try.pinned.checked.prog Try.f12 Rows.fnExactSolveBoardRow.wrapper Rows.fnExactSolveBoardRow.mainSum := by
  unfold Func.isWrapper; rw [if_neg (of_decide_eq_false solveBoard_pkg)]; exact ⟨rfl, rfl⟩
theorem solveBoard_closed : joinedFacts Try.pinned.checked.prog 12 Try.f12 Rows.fnExactSolveBoardSpec Rows.fnExactSolveBoardRow = true :=
  (and_of (and_of (and_of (and_of (and_of (and_of (and_of (and_of (and_of (and_of (and_of (and_of (and_of (and_of (and_of (and_of (and_of (and_of (and_of (and_of (and_of (and_of (and_of (and_of (and_of (and_of (and_of (and_of (and_of (and_of (and_of solveBoard_k0 solveBoard_k1) solveBoard_k2) solveBoard_k3) solveBoard_k4) solveBoard_k5) solveBoard_k6) solveBoard_k7) solveBoard_k8) solveBoard_k9) solveBoard_k10) solveBoard_k11) solveBoard_k12) solveBoard_k13) solveBoard_k14) solveBoard_k15) solveBoard_k16) solveBoard_k17) solveBoard_k18) solveBoard_k19) solveBoard_k20) solveBoard_k21) solveBoard_k22) solveBoard_k23) solveBoard_k24) solveBoard_k25) solveBoard_k26) solveBoard_k27) solveBoard_k28) solveBoard_k29) solveBoard_k30) solveBoard_k31)
theorem solveBoard_holds : Rows.FnExactSolveBoardSaid :=
  OpenClaim.holds_of_wide 12 Try.f12 rfl rfl rfl rfl rfl rfl rfl ⟨rfl, rfl, rfl, rfl, rfl⟩ rfl rfl rfl rfl rfl (by kernel_rfl) Try.func12 solveBoard_closed
    solveBoard_inst solveBoard_wrap (fun os started H enc _ => solveBoard_lifted os started H enc)
end Go.Proofs.Ytodbhokokdckkaa
