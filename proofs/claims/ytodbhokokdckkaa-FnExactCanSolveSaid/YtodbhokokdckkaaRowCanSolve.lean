/-
CanSolve answers as its model at every graph value and number, and leaves its argument as it was. No condition.
-/
import Derived.Test.YtodbhokokdckkaaLS
import Derived.Test.YtodbhokokdckkaaP
import Derived.Test.YtodbhokokdckkaaQ1
namespace Go.Proofs.Ytodbhokokdckkaa
open Go.ChangeShapes Go.WideShapes Go.ChangeAt Go.RowKit
set_option maxRecDepth 100000 in
theorem canSolve_lifted (os : Os) (started : os.Started) (H : Type) (enc : TypeId × Value → H) :
    ReturnsInHanded {} Try.checked os 11 .any (Rows.fnExactCanSolveSpec.pre6 enc Try.prog Try.f11 Rows.fnExactCanSolveRow.domain false) (Rows.fnExactCanSolveSpec.post enc Try.prog Try.f11 false true false false) := by
  refine returnsInHanded_of_change (C := Try.checked) Try.own started (by kernel_rfl) Try.func11
    (ChangeSpec.witness6 (enc := enc) (C := Try.checked) false ⟨#[], #[.agg #[.slice none 0 0, .bool false], .int .i64 0], []⟩ 8 (by kernel_rfl) (by kernel_rfl) (by kernel_rfl) (by kernel_rfl)) ?_
  intro W base args ds gs before hval0 hW hcnd _
  have hval : ∀ (j : Nat) t v, Try.f11.params[j]? = some t → args[j]? = some v → Value.okWide Try.prog W .any base t v := hval0
  have hW' := hW
  obtain ⟨p, q, hA0, hV, rfl, hfz, hnd⟩ := hW
  have hA : DataW.TrodAll enc Try.prog W 0 (fun _ => true) true Try.f11.params.toList args.toList ds p := hA0
  rw [Try.params11] at hA hval
  obtain ⟨v0, v1, d0, d1, p0, p1, rfl, rfl, rfl, h0, h1⟩ := trodAll_two hA
  obtain ⟨rfl, rfl⟩ := trodVars_none hV
  obtain ⟨A0, n0, c0, f0, own0, rfl, hn0, hs0, hw0⟩ := open_graph (hval 0 24 v0 rfl rfl) h0
  obtain ⟨a1, rfl, rfl, rfl, wa1⟩ := open_int Try.underlying3 (hval 1 3 v1 rfl rfl) h1
  clear hA0 hval0
  simp only [List.append_nil] at hW'
  have hlt0 : ∀ x ∈ p0, x.block < W.heap.size := fun x hx => hW'.lt x (by simp [hx])
  refine (lawCan A0 n0 c0 f0 own0 a1 W hn0 hs0).mono fun e W' ⟨he, hb⟩ => ?_
  subst he
  exact ⟨_, rfl, post_of_below (pa := p0 ++ []) (pv := []) hW' (fun _ _ _ => trodAll_mk1 (shut_bool Try.underlying4 true))
    (fun sp hsp => trodAll_mk2 (stays Try.laidOut (by kernel_rfl) (of_decide_eq_true (by kernel_rfl)) h0 hb hlt0 (fun x hx => hsp x (by simp [hx]))) (shut_int Try.underlying3 wa1)) (fun _ _ => rfl) (by simp) hb
    (ok_one (by kernel_rfl) rfl (okWide_bool_mk Try.underlying4 true))⟩
theorem canSolve_k0 : (Rows.fnExactCanSolveRow.wf (OpenSpec.ofChange Rows.fnExactCanSolveSpec)) = true := by kernel_rfl
theorem canSolve_k1 : (laidOutB Try.pinned.checked.prog) = true := by kernel_rfl
theorem canSolve_k2 : (mapsRowed Try.pinned.checked.prog) = true := by kernel_rfl
theorem canSolve_k3 : (Try.f11.params.all (Try.pinned.checked.prog.readableRec ·)) = true := by kernel_rfl
theorem canSolve_k4 : (namedTie Try.pinned.checked.prog Rows.fnExactCanSolveRow.named Rows.fnExactCanSolveSpec.vars) = true := by kernel_rfl
theorem canSolve_k5 : ((Rows.fnExactCanSolveRow.stops == [])) = true := by kernel_rfl
theorem canSolve_k6 : ((Try.pinned.checked.prog.stops == [])) = true := by kernel_rfl
theorem canSolve_k7 : ((Rows.fnExactCanSolveRow.knobs == [])) = true := by kernel_rfl
theorem canSolve_k8 : ((Try.pinned.checked.prog.stopKnobs == [])) = true := by kernel_rfl
theorem canSolve_k9 : ((Rows.fnExactCanSolveRow.inPlace == Try.pinned.checked.prog.inPlace 11)) = true := by kernel_rfl
theorem canSolve_k10 : ((Rows.fnExactCanSolveRow.unfollowed == Try.pinned.checked.prog.unfollowed 11)) = true := by kernel_rfl
theorem canSolve_k11 : ((Rows.fnExactCanSolveRow.recurses == Try.pinned.checked.prog.recurses 11)) = true := by kernel_rfl
theorem canSolve_k12 : ((Rows.fnExactCanSolveRow.named == Try.pinned.checked.prog.varsNamed 11)) = true := by kernel_rfl
theorem canSolve_k13 : ((Rows.fnExactCanSolveRow.maps == (Try.f11.params.toList ++ Rows.fnExactCanSolveSpec.plain.varTypes Try.pinned.checked.prog).any (Try.pinned.checked.prog.mapsRec ·))) = true := by kernel_rfl
theorem canSolve_k14 : ((Rows.fnExactCanSolveRow.ifaces == (Try.f11.params.toList ++ Rows.fnExactCanSolveSpec.plain.varTypes Try.pinned.checked.prog).any (Try.pinned.checked.prog.ifacesRec ·))) = true := by kernel_rfl
theorem canSolve_k15 : ((Rows.fnExactCanSolveRow.mapsOut == Try.pinned.checked.prog.mapsAmong Try.f11.resultTypes.toList)) = true := by kernel_rfl
theorem canSolve_k16 : ((Rows.fnExactCanSolveRow.loops == (Try.f11.params.toList ++ Rows.fnExactCanSolveSpec.plain.varTypes Try.pinned.checked.prog).any (Try.pinned.checked.prog.loopsFrom ·))) = true := by kernel_rfl
theorem canSolve_k17 : ((Rows.fnExactCanSolveRow.wideKeys == (Try.f11.params.toList ++ Rows.fnExactCanSolveSpec.plain.varTypes Try.pinned.checked.prog ++ Try.f11.resultTypes.toList).any (Try.pinned.checked.prog.wideKeysFrom ·))) = true := by kernel_rfl
theorem canSolve_k18 : (Rows.fnExactCanSolveSpec.vars.all (Try.pinned.checked.prog.varReadable ·)) = true := by kernel_rfl
theorem canSolve_k19 : (Try.f11.resultTypes.all (fun t => Try.pinned.checked.prog.readableRec t && decide (t < Try.pinned.checked.prog.types.size))) = true := by kernel_rfl
theorem canSolve_k20 : ((Rows.fnExactCanSolveRow.ifacesOut == Try.f11.resultTypes.toList.any (Try.pinned.checked.prog.ifacesRec ·))) = true := by kernel_rfl
theorem canSolve_k21 : ((Rows.fnExactCanSolveRow.loopsOut == Try.f11.resultTypes.toList.any (Try.pinned.checked.prog.loopsFrom ·))) = true := by kernel_rfl
theorem canSolve_k22 : ((Rows.fnExactCanSolveRow.plainKeys == Try.pinned.checked.prog.plainKeys)) = true := by kernel_rfl
theorem canSolve_k23 : (Rows.fnExactCanSolveRow.shortTexts.isNone) = true := by kernel_rfl
theorem canSolve_k24 : (Try.pinned.checked.prog.stopsHeard) = true := by kernel_rfl
theorem canSolve_k25 : (Try.pinned.checked.prog.mayEnter) = true := x_enter
theorem canSolve_k26 : ((Rows.fnExactCanSolveRow.lifted == Try.pinned.checked.prog.liftsFinal)) = true := by rw [x_lifts]; rfl
theorem canSolve_k27 : ((Try.pinned.checked.prog.make == some Rows.fnExactCanSolveRow.make)) = true := by rw [x_make]; rfl
theorem canSolve_k28 : ((Rows.fnExactCanSolveRow.kinds == (if Rows.fnExactCanSolveRow.domain.isEmpty then [] else Try.f11.params.toList.map fun t => match Try.pinned.checked.prog.underlying t with | some (.int k) => some k | _ => none))) = true := by kernel_rfl
theorem canSolve_k29 : ((Rows.fnExactCanSolveRow.pinned == Rows.fnExactCanSolveRow.pinnedBy)) = true := by kernel_rfl
theorem canSolve_k30 : ((Rows.fnExactCanSolveRow.veiled == (Try.f11.params.toList ++ Rows.fnExactCanSolveSpec.plain.varTypes Try.pinned.checked.prog ++ Try.f11.resultTypes.toList).any (Try.pinned.checked.prog.veiledRec ·))) = true := by kernel_rfl
theorem canSolve_k31 : (Rows.fnExactCanSolveRow.veiledFits Try.pinned.checked.prog Try.f11.params.toList (Try.f11.params.toList ++ Rows.fnExactCanSolveSpec.plain.varTypes Try.pinned.checked.prog ++ Try.f11.resultTypes.toList)) = true := by kernel_rfl
theorem canSolve_pkg : decide (Check.packageOf Try.f11.name = "main") = false := by kernel_rfl
theorem canSolve_inst : Func.isInstance Try.pinned.checked.prog Try.f11 Rows.fnExactCanSolveRow.origin Rows.fnExactCanSolveRow.targs := of_decide_eq_true (by kernel_rfl)
theorem canSolve_wrap : Func.isWrapper Try.pinned.checked.prog Try.f11 Rows.fnExactCanSolveRow.wrapper Rows.fnExactCanSolveRow.mainSum := by
  unfold Func.isWrapper; rw [if_neg (of_decide_eq_false canSolve_pkg)]; exact ⟨rfl, rfl⟩
theorem canSolve_closed : joinedFacts Try.pinned.checked.prog 11 Try.f11 Rows.fnExactCanSolveSpec Rows.fnExactCanSolveRow = true :=
  (and_of (and_of (and_of (and_of (and_of (and_of (and_of (and_of (and_of (and_of (and_of (and_of (and_of (and_of (and_of (and_of (and_of (and_of (and_of (and_of (and_of (and_of (and_of (and_of (and_of (and_of (and_of (and_of (and_of (and_of (and_of canSolve_k0 canSolve_k1) canSolve_k2) canSolve_k3) canSolve_k4) canSolve_k5) canSolve_k6) canSolve_k7) canSolve_k8) canSolve_k9) canSolve_k10) canSolve_k11) canSolve_k12) canSolve_k13) canSolve_k14) canSolve_k15) canSolve_k16) canSolve_k17) canSolve_k18) canSolve_k19) canSolve_k20) canSolve_k21) canSolve_k22) canSolve_k23) canSolve_k24) canSolve_k25) canSolve_k26) canSolve_k27) canSolve_k28) canSolve_k29) canSolve_k30) canSolve_k31)
theorem canSolve_holds : Rows.FnExactCanSolveSaid :=
  OpenClaim.holds_of_wide 11 Try.f11 rfl rfl rfl rfl rfl rfl rfl ⟨rfl, rfl, rfl, rfl, rfl⟩ rfl rfl rfl rfl rfl (by kernel_rfl) Try.func11 canSolve_closed
    canSolve_inst canSolve_wrap (fun os started H enc _ => canSolve_lifted os started H enc)
end Go.Proofs.Ytodbhokokdckkaa
