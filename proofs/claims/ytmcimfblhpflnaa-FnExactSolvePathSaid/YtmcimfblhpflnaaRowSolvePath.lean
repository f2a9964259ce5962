/-
SolvePath answers as its model at every number, Own and lights. No condition.
-/
import Derived.Test.YtmcimfblhpflnaaLQ
import Derived.Test.YtmcimfblhpflnaaP
import Derived.Test.YtmcimfblhpflnaaQ1
namespace Go.Proofs.Ytmcimfblhpflnaa
open Go.ChangeShapes Go.WideShapes Go.ChangeAt Go.RowKit
set_option maxRecDepth 100000 in
theorem solvePath_lifted (os : Os) (started : os.Started) (H : Type) (enc : TypeId × Value → H) :
    ReturnsInHanded {} Try.checked os 8 .any (Rows.fnExactSolvePathSpec.pre6 enc Try.prog Try.f8 Rows.fnExactSolvePathRow.domain false) (Rows.fnExactSolvePathSpec.post enc Try.prog Try.f8 false true false false) := by
  refine returnsInHanded_of_change (C := Try.checked) Try.own started (by kernel_rfl) Try.func8
    (ChangeSpec.witness6 (enc := enc) (C := Try.checked) false ⟨#[], #[.int .i64 0, .bool false, .int .i64 0], []⟩ 8 (by kernel_rfl) (by kernel_rfl) (by kernel_rfl) (by kernel_rfl)) ?_
  intro W base args ds gs before hval0 hW hcnd _
  have hval : ∀ (j : Nat) t v, Try.f8.params[j]? = some t → args[j]? = some v → Value.okWide Try.prog W .any base t v := hval0
  have hW' := hW
  obtain ⟨p, q, hA0, hV, rfl, hfz, hnd⟩ := hW
  have hA : DataW.TrodAll enc Try.prog W 0 (fun _ => true) true Try.f8.params.toList args.toList ds p := hA0
  rw [Try.params8] at hA hval
  obtain ⟨v0, v1, v2, d0, d1, d2, p0, p1, p2, rfl, rfl, rfl, h0, h1, h2⟩ := trodAll_three hA
  obtain ⟨rfl, rfl⟩ := trodVars_none hV
  obtain ⟨a0, rfl, rfl, rfl, wa0⟩ := open_int Try.underlying3 (hval 0 3 v0 rfl rfl) h0
  obtain ⟨b1, rfl, rfl, rfl⟩ := open_bool Try.underlying4 (hval 1 4 v1 rfl rfl) h1
  obtain ⟨a2, rfl, rfl, rfl, wa2⟩ := open_int Try.underlying3 (hval 2 3 v2 rfl rfl) h2
  clear hA0 hval0
  simp only [List.append_nil] at hW'
  refine (lawSolvePath a0 b1 a2 W).mono fun e W' ⟨he, hb⟩ => ?_
  subst he
  exact ⟨_, rfl, post_of_below (pa := []) (pv := []) hW' (fun _ _ _ => trodAll_mk1 (shut_bool Try.underlying4 true))
    (fun sp hsp => trodAll_mk3 (shut_int Try.underlying3 wa0) (shut_bool Try.underlying4 b1) (shut_int Try.underlying3 wa2)) (fun _ _ => rfl) (by simp) hb
    (ok_one (by kernel_rfl) rfl (okWide_bool_mk Try.underlying4 true))⟩
theorem solvePath_k0 : (Rows.fnExactSolvePathRow.wf (OpenSpec.ofChange Rows.fnExactSolvePathSpec)) = true := by kernel_rfl
theorem solvePath_k1 : (laidOutB Try.pinned.checked.prog) = true := by kernel_rfl
theorem solvePath_k2 : (mapsRowed Try.pinned.checked.prog) = true := by kernel_rfl
theorem solvePath_k3 : (Try.f8.params.all (Try.pinned.checked.prog.readableRec ·)) = true := by kernel_rfl
theorem solvePath_k4 : (namedTie Try.pinned.checked.prog Rows.fnExactSolvePathRow.named Rows.fnExactSolvePathSpec.vars) = true := by kernel_rfl
theorem solvePath_k5 : ((Rows.fnExactSolvePathRow.stops == [])) = true := by kernel_rfl
theorem solvePath_k6 : ((Try.pinned.checked.prog.stops == [])) = true := by kernel_rfl
theorem solvePath_k7 : ((Rows.fnExactSolvePathRow.knobs == [])) = true := by kernel_rfl
theorem solvePath_k8 : ((Try.pinned.checked.prog.stopKnobs == [])) = true := by kernel_rfl
theorem solvePath_k9 : ((Rows.fnExactSolvePathRow.inPlace == Try.pinned.checked.prog.inPlace 8)) = true := by kernel_rfl
theorem solvePath_k10 : ((Rows.fnExactSolvePathRow.unfollowed == Try.pinned.checked.prog.unfollowed 8)) = true := by kernel_rfl
theorem solvePath_k11 : ((Rows.fnExactSolvePathRow.recurses == Try.pinned.checked.prog.recurses 8)) = true := by kernel_rfl
theorem solvePath_k12 : ((Rows.fnExactSolvePathRow.named == Try.pinned.checked.prog.varsNamed 8)) = true := by kernel_rfl
theorem solvePath_k13 : ((Rows.fnExactSolvePathRow.maps == (Try.f8.params.toList ++ Rows.fnExactSolvePathSpec.plain.varTypes Try.pinned.checked.prog).any (Try.pinned.checked.prog.mapsRec ·))) = true := by kernel_rfl
theorem solvePath_k14 : ((Rows.fnExactSolvePathRow.ifaces == (Try.f8.params.toList ++ Rows.fnExactSolvePathSpec.plain.varTypes Try.pinned.checked.prog).any (Try.pinned.checked.prog.ifacesRec ·))) = true := by kernel_rfl
theorem solvePath_k15 : ((Rows.fnExactSolvePathRow.mapsOut == Try.pinned.checked.prog.mapsAmong Try.f8.resultTypes.toList)) = true := by kernel_rfl
theorem solvePath_k16 : ((Rows.fnExactSolvePathRow.loops == (Try.f8.params.toList ++ Rows.fnExactSolvePathSpec.plain.varTypes Try.pinned.checked.prog).any (Try.pinned.checked.prog.loopsFrom ·))) = true := by kernel_rfl
theorem solvePath_k17 : ((Rows.fnExactSolvePathRow.wideKeys == (Try.f8.params.toList ++ Rows.fnExactSolvePathSpec.plain.varTypes Try.pinned.checked.prog ++ Try.f8.resultTypes.toList).any (Try.pinned.checked.prog.wideKeysFrom ·))) = true := by kernel_rfl
theorem solvePath_k18 : (Rows.fnExactSolvePathSpec.vars.all (Try.pinned.checked.prog.varReadable ·)) = true := by kernel_rfl
theorem solvePath_k19 : (Try.f8.resultTypes.all (fun t => Try.pinned.checked.prog.readableRec t && decide (t < Try.pinned.checked.prog.types.size))) = true := by kernel_rfl
theorem solvePath_k20 : ((Rows.fnExactSolvePathRow.ifacesOut == Try.f8.resultTypes.toList.any (Try.pinned.checked.prog.ifacesRec ·))) = true := by kernel_rfl
theorem solvePath_k21 : ((Rows.fnExactSolvePathRow.loopsOut == Try.f8.resultTypes.toList.any (Try.pinned.checked.prog.loopsFrom ·))) = true := by kernel_rfl
theorem solvePath_k22 : ((Rows.fnExactSolvePathRow.plainKeys == Try.pinned.checked.prog.plainKeys)) = true := by kernel_rfl
theorem solvePath_k23 : (Rows.fnExactSolvePathRow.shortTexts.isNone) = true := by kernel_rfl
theorem solvePath_k24 : (Try.pinned.checked.prog.stopsHeard) = true := by kernel_rfl
theorem solvePath_k25 : (Try.pinned.checked.prog.mayEnter) = true := x_enter
theorem solvePath_k26 : ((Rows.fnExactSolvePathRow.lifted == Try.pinned.checked.prog.liftsFinal)) = true := by rw [x_lifts]; rfl
theorem solvePath_k27 : ((Try.pinned.checked.prog.make == some Rows.fnExactSolvePathRow.make)) = true := by rw [x_make]; rfl
theorem solvePath_k28 : ((Rows.fnExactSolvePathRow.kinds == (if Rows.fnExactSolvePathRow.domain.isEmpty then [] else Try.f8.params.toList.map fun t => match Try.pinned.checked.prog.underlying t with | some (.int k) => some k | _ => none))) = true := by kernel_rfl
theorem solvePath_k29 : ((Rows.fnExactSolvePathRow.pinned == Rows.fnExactSolvePathRow.pinnedBy)) = true := by kernel_rfl
theorem solvePath_k30 : ((Rows.fnExactSolvePathRow.veiled == (Try.f8.params.toList ++ Rows.fnExactSolvePathSpec.plain.varTypes Try.pinned.checked.prog ++ Try.f8.resultTypes.toList).any (Try.pinned.checked.prog.veiledRec ·))) = true := by kernel_rfl
theorem solvePath_k31 : (Rows.fnExactSolvePathRow.veiledFits Try.pinned.checked.prog Try.f8.params.toList (Try.f8.params.toList ++ Rows.fnExactSolvePathSpec.plain.varTypes Try.pinned.checked.prog ++ Try.f8.resultTypes.toList)) = true := by kernel_rfl
theorem solvePath_pkg : decide (Check.packageOf Try.f8.name = "main") = false := by kernel_rfl
theorem solvePath_inst : Func.isInstance Try.pinned.checked.prog Try.f8 Rows.fnExactSolvePathRow.origin Rows.fnExactSolvePathRow.targs := of_decide_eq_true (by kernel_rfl)
theorem solvePath_wrap : Func.isWrapper Try.pinned.checked.prog Try.f8 Rows.fnExactSolvePathRow.wrapper Rows.fnExactSolvePathRow.mainSum := by
  unfold Func.isWrapper; rw [if_neg (of_decide_eq_false solvePath_pkg)]; exact ⟨rfl, rfl⟩
set_option maxRecDepth 100000 in
theorem solvePath_closed : joinedFacts Try.pinned.checked.prog 8 Try.f8 Rows.fnExactSolvePathSpec Rows.fnExactSolvePathRow = true :=
  (and_of (and_of (and_of (and_of (and_of (and_of (and_of (and_of (and_of (and_of (and_of (and_of (and_of (and_of (and_of (and_of (and_of (and_of (and_of (and_of (and_of (and_of (and_of (and_of (and_of (and_of (and_of (and_of (and_of (and_of (and_of solvePath_k0 solvePath_k1) solvePath_k2) solvePath_k3) solvePath_k4) solvePath_k5) solvePath_k6) solvePath_k7) solvePath_k8) solvePath_k9) solvePath_k10) solvePath_k11) solvePath_k12) solvePath_k13) solvePath_k14) solvePath_k15) solvePath_k16) solvePath_k17) solvePath_k18) solvePath_k19) solvePath_k20) solvePath_k21) solvePath_k22) solvePath_k23) solvePath_k24) solvePath_k25) solvePath_k26) solvePath_k27) solvePath_k28) solvePath_k29) solvePath_k30) solvePath_k31)
theorem solvePath_holds : Rows.FnExactSolvePathSaid :=
  OpenClaim.holds_of_wide 8 Try.f8 rfl rfl rfl rfl rfl rfl rfl ⟨rfl, rfl, rfl, rfl, rfl⟩ rfl rfl rfl rfl rfl (by kernel_rfl) Try.func8 solvePath_closed
    solvePath_inst solvePath_wrap (fun os started H enc _ => solvePath_lifted os started H enc)
end Go.Proofs.Ytmcimfblhpflnaa
