/-
SolveByChase answers as its model at every three numbers and bool. No condition.
-/
import Derived.Test.YtggcjmdadomlaaaRO
import Derived.Test.YtggcjmdadomlaaaP
import Derived.Test.YtggcjmdadomlaaaQ1
namespace Go.Proofs.Ytggcjmdadomlaaa
open Go.ChangeShapes Go.WideShapes Go.ChangeAt Go.RowKit
set_option maxRecDepth 100000 in
theorem solveByChase_lifted (os : Os) (started : os.Started) (H : Type) (enc : TypeId × Value → H) :
    ReturnsInHanded {} Try.checked os 7 .any (Rows.fnExactSolveByChaseSpec.pre6 enc Try.prog Try.f7 Rows.fnExactSolveByChaseRow.domain false) (Rows.fnExactSolveByChaseSpec.post enc Try.prog Try.f7 false true false false) := by
  refine returnsInHanded_of_change (C := Try.checked) Try.own started (by kernel_rfl) Try.func7
    (ChangeSpec.witness6 (enc := enc) (C := Try.checked) false ⟨#[], #[.int .i64 0, .int .i64 0, .bool false, .int .i64 0], []⟩ 8 (by kernel_rfl) (by kernel_rfl) (by kernel_rfl) (by kernel_rfl)) ?_
  intro W base args ds gs before hval0 hW hcnd _
  have hval : ∀ (j : Nat) t v, Try.f7.params[j]? = some t → args[j]? = some v → Value.okWide Try.prog W .any base t v := hval0
  have hW' := hW
  obtain ⟨p, q, hA0, hV, rfl, hfz, hnd⟩ := hW
  have hA : DataW.TrodAll enc Try.prog W 0 (fun _ => true) true Try.f7.params.toList args.toList ds p := hA0
  rw [Try.params7] at hA hval
  obtain ⟨v0, v1, v2, v3, d0, d1, d2, d3, p0, p1, p2, p3, rfl, rfl, rfl, h0, h1, h2, h3⟩ := trodAll_four hA
  obtain ⟨rfl, rfl⟩ := trodVars_none hV
  obtain ⟨a0, rfl, rfl, rfl, wa0⟩ := open_int Try.underlying3 (hval 0 3 v0 rfl rfl) h0
  obtain ⟨a1, rfl, rfl, rfl, wa1⟩ := open_int Try.underlying3 (hval 1 3 v1 rfl rfl) h1
  obtain ⟨b2, rfl, rfl, rfl⟩ := open_bool Try.underlying4 (hval 2 4 v2 rfl rfl) h2
  obtain ⟨a3, rfl, rfl, rfl, wa3⟩ := open_int Try.underlying3 (hval 3 3 v3 rfl rfl) h3
  clear hA0 hval0
  simp only [List.append_nil] at hW'
  refine (lawSolveBy a0 a1 b2 a3 W).mono fun e W' ⟨he, hb⟩ => ?_
  subst he
  exact ⟨_, rfl, post_of_below (pa := []) (pv := []) hW' (fun _ _ _ => trodAll_mk1 (shut_bool Try.underlying4 true))
    (fun sp hsp => trodAll_mk4 (shut_int Try.underlying3 wa0) (shut_int Try.underlying3 wa1) (shut_bool Try.underlying4 b2) (shut_int Try.underlying3 wa3)) (fun _ _ => rfl) (by simp) hb
    (ok_one (by kernel_rfl) rfl (okWide_bool_mk Try.underlying4 true))⟩
theorem solveByChase_k0 : (Rows.fnExactSolveByChaseRow.wf (OpenSpec.ofChange Rows.fnExactSolveByChaseSpec)) = true := by kernel_rfl
theorem solveByChase_k1 : (laidOutB Try.pinned.checked.prog) = true := by kernel_rfl
theorem solveByChase_k2 : (mapsRowed Try.pinned.checked.prog) = true := by kernel_rfl
theorem solveByChase_k3 : (Try.f7.params.all (Try.pinned.checked.prog.readableRec ·)) = true := by kernel_rfl
theorem solveByChase_k4 : (namedTie Try.pinned.checked.prog Rows.fnExactSolveByChaseRow.named Rows.fnExactSolveByChaseSpec.vars) = true := by kernel_rfl
theorem solveByChase_k5 : ((Rows.fnExactSolveByChaseRow.stops == [])) = true := by kernel_rfl
theorem solveByChase_k6 : ((Try.pinned.checked.prog.stops == [])) = true := by kernel_rfl
theorem solveByChase_k7 : ((Rows.fnExactSolveByChaseRow.knobs == [])) = true := by kernel_rfl
theorem solveByChase_k8 : ((Try.pinned.checked.prog.stopKnobs == [])) = true := by kernel_rfl
theorem solveByChase_k9 : ((Rows.fnExactSolveByChaseRow.inPlace == Try.pinned.checked.prog.inPlace 7)) = true := by kernel_rfl
theorem solveByChase_k10 : ((Rows.fnExactSolveByChaseRow.unfollowed == Try.pinned.checked.prog.unfollowed 7)) = true := by kernel_rfl
theorem solveByChase_k11 : ((Rows.fnExactSolveByChaseRow.recurses == Try.pinned.checked.prog.recurses 7)) = true := by kernel_rfl
theorem solveByChase_k12 : ((Rows.fnExactSolveByChaseRow.named == Try.pinned.checked.prog.varsNamed 7)) = true := by kernel_rfl
theorem solveByChase_k13 : ((Rows.fnExactSolveByChaseRow.maps == (Try.f7.params.toList ++ Rows.fnExactSolveByChaseSpec.plain.varTypes Try.pinned.checked.prog).any (Try.pinned.checked.prog.mapsRec ·))) = true := by kernel_rfl
theorem solveByChase_k14 : ((Rows.fnExactSolveByChaseRow.ifaces == (Try.f7.params.toList ++ Rows.fnExactSolveByChaseSpec.plain.varTypes Try.pinned.checked.prog).any (Try.pinned.checked.prog.ifacesRec ·))) = true := by kernel_rfl
theorem solveByChase_k15 : ((Rows.fnExactSolveByChaseRow.mapsOut == Try.pinned.checked.prog.mapsAmong Try.f7.resultTypes.toList)) = true := by kernel_rfl
theorem solveByChase_k16 : ((Rows.fnExactSolveByChaseRow.loops == (Try.f7.params.toList ++ Rows.fnExactSolveByChaseSpec.plain.varTypes Try.pinned.checked.prog).any (Try.pinned.checked.prog.loopsFrom ·))) = true := by kernel_rfl
theorem solveByChase_k17 : ((Rows.fnExactSolveByChaseRow.wideKeys == (Try.f7.params.toList ++ Rows.fnExactSolveByChaseSpec.plain.varTypes Try.pinned.checked.prog ++ Try.f7.resultTypes.toList).any (Try.pinned.checked.prog.wideKeysFrom ·))) = true := by kernel_rfl
theorem solveByChase_k18 : (Rows.fnExactSolveByChaseSpec.vars.all (Try.pinned.checked.prog.varReadable ·)) = true := by kernel_rfl
theorem solveByChase_k19 : (Try.f7.resultTypes.all (fun t => Try.pinned.checked.prog.readableRec t && decide (t < Try.pinned.checked.prog.types.size))) = true := by kernel_rfl
theorem solveByChase_k20 : ((Rows.fnExactSolveByChaseRow.ifacesOut == Try.f7.resultTypes.toList.any (Try.pinned.checked.prog.ifacesRec ·))) = true := by kernel_rfl
theorem solveByChase_k21 : ((Rows.fnExactSolveByChaseRow.loopsOut == Try.f7.resultTypes.toList.any (Try.pinned.checked.prog.loopsFrom ·))) = true := by kernel_rfl
theorem solveByChase_k22 : ((Rows.fnExactSolveByChaseRow.plainKeys == Try.pinned.checked.prog.plainKeys)) = true := by kernel_rfl
theorem solveByChase_k23 : (Rows.fnExactSolveByChaseRow.shortTexts.isNone) = true := by kernel_rfl
theorem solveByChase_k24 : (Try.pinned.checked.prog.stopsHeard) = true := by kernel_rfl
theorem solveByChase_k25 : (Try.pinned.checked.prog.mayEnter) = true := x_enter
theorem solveByChase_k26 : ((Rows.fnExactSolveByChaseRow.lifted == Try.pinned.checked.prog.liftsFinal)) = true := by rw [x_lifts]; rfl
theorem solveByChase_k27 : ((Try.pinned.checked.prog.make == some Rows.fnExactSolveByChaseRow.make)) = true := by rw [x_make]; rfl
theorem solveByChase_k28 : ((Rows.fnExactSolveByChaseRow.kinds == (if Rows.fnExactSolveByChaseRow.domain.isEmpty then [] else Try.f7.params.toList.map fun t => match Try.pinned.checked.prog.underlying t with | some (.int k) => some k | _ => none))) = true := by kernel_rfl
theorem solveByChase_k29 : ((Rows.fnExactSolveByChaseRow.pinned == Rows.fnExactSolveByChaseRow.pinnedBy)) = true := by kernel_rfl
theorem solveByChase_k30 : ((Rows.fnExactSolveByChaseRow.veiled == (Try.f7.params.toList ++ Rows.fnExactSolveByChaseSpec.plain.varTypes Try.pinned.checked.prog ++ Try.f7.resultTypes.toList).any (Try.pinned.checked.prog.veiledRec ·))) = true := by kernel_rfl
theorem solveByChase_k31 : (Rows.fnExactSolveByChaseRow.veiledFits Try.pinned.checked.prog Try.f7.params.toList (Try.f7.params.toList ++ Rows.fnExactSolveByChaseSpec.plain.varTypes Try.pinned.checked.prog ++ Try.f7.resultTypes.toList)) = true := by kernel_rfl
theorem solveByChase_pkg : decide (Check.packageOf Try.f7.name = "main") = false := by kernel_rfl
theorem solveByChase_inst : Func.isInstance Try.pinned.checked.prog Try.f7 Rows.fnExactSolveByChaseRow.origin Rows.fnExactSolveByChaseRow.targs := of_decide_eq_true (by kernel_rfl)
theorem solveByChase_wrap : Func.isWrapper Try.pinned.checked.prog Try.f7 Rows.fnExactSolveByChaseRow.wrapper Rows.fnExactSolveByChaseRow.mainSum := by
  unfold Func.isWrapper; rw [if_neg (of_decide_eq_false solveByChase_pkg)]; exact ⟨rfl, rfl⟩
set_option maxRecDepth 100000 in
theorem solveByChase_closed : joinedFacts Try.pinned.checked.prog 7 Try.f7 Rows.fnExactSolveByChaseSpec Rows.fnExactSolveByChaseRow = true :=
  (and_of (and_of (and_of (and_of (and_of (and_of (and_of (and_of (and_of (and_of (and_of (and_of (and_of (and_of (and_of (and_of (and_of (and_of (and_of (and_of (and_of (and_of (and_of (and_of (and_of (and_of (and_of (and_of (and_of (and_of (and_of solveByChase_k0 solveByChase_k1) solveByChase_k2) solveByChase_k3) solveByChase_k4) solveByChase_k5) solveByChase_k6) solveByChase_k7) solveByChase_k8) solveByChase_k9) solveByChase_k10) solveByChase_k11) solveByChase_k12) solveByChase_k13) solveByChase_k14) solveByChase_k15) solveByChase_k16) solveByChase_k17) solveByChase_k18) solveByChase_k19) solveByChase_k20) solveByChase_k21) solveByChase_k22) solveByChase_k23) solveByChase_k24) solveByChase_k25) solveByChase_k26) solveByChase_k27) solveByChase_k28) solveByChase_k29) solveByChase_k30) solveByChase_k31)
theorem solveByChase_holds : Rows.FnExactSolveByChaseSaid :=
  OpenClaim.holds_of_wide 7 Try.f7 rfl rfl rfl rfl rfl rfl rfl ⟨rfl, rfl, rfl, rfl, rfl⟩ rfl rfl rfl rfl rfl (by kernel_rfl) Try.func7 solveByChase_closed
    solveByChase_inst solveByChase_wrap (fun os started H enc _ => solveByChase_lifted os started H enc)
end Go.Proofs.Ytggcjmdadomlaaa
