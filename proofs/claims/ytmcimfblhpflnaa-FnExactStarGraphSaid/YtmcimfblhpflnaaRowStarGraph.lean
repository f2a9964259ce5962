/-
StarGraph answers as its model at every number and Own, and its answers share no memory. No condition.
-/
import Derived.Test.YtmcimfblhpflnaaLG
import Derived.Test.YtmcimfblhpflnaaP
import Derived.Test.YtmcimfblhpflnaaQ1
namespace Go.Proofs.Ytmcimfblhpflnaa
open Go.ChangeShapes Go.WideShapes Go.ChangeAt Go.RowKit
set_option maxRecDepth 100000 in
theorem starGraph_lifted (os : Os) (started : os.Started) (H : Type) (enc : TypeId × Value → H) :
    ReturnsInHanded {} Try.checked os 6 .any (Rows.fnExactStarGraphSpec.pre6 enc Try.prog Try.f6 Rows.fnExactStarGraphRow.domain false) (Rows.fnExactStarGraphSpec.post enc Try.prog Try.f6 false true false false) := by
  refine returnsInHanded_of_change (C := Try.checked) Try.own started (by kernel_rfl) Try.func6
    (ChangeSpec.witness6 (enc := enc) (C := Try.checked) false ⟨#[], #[.int .i64 0, .bool false], []⟩ 8 (by kernel_rfl) (by kernel_rfl) (by kernel_rfl) (by kernel_rfl)) ?_
  intro W base args ds gs before hval0 hW hcnd _
  have hval : ∀ (j : Nat) t v, Try.f6.params[j]? = some t → args[j]? = some v → Value.okWide Try.prog W .any base t v := hval0
  have hW' := hW
  obtain ⟨p, q, hA0, hV, rfl, hfz, hnd⟩ := hW
  have hA : DataW.TrodAll enc Try.prog W 0 (fun _ => true) true Try.f6.params.toList args.toList ds p := hA0
  rw [Try.params6] at hA hval
  obtain ⟨v0, v1, d0, d1, p0, p1, rfl, rfl, rfl, h0, h1⟩ := trodAll_two hA
  obtain ⟨rfl, rfl⟩ := trodVars_none hV
  obtain ⟨a0, rfl, rfl, rfl, wa0⟩ := open_int Try.underlying3 (hval 0 3 v0 rfl rfl) h0
  obtain ⟨b1, rfl, rfl, rfl⟩ := open_bool Try.underlying4 (hval 1 4 v1 rfl rfl) h1
  clear hA0 hval0
  simp only [List.append_nil] at hW'
  refine (lawStar a0 b1 W).mono fun e W' ⟨he, hb⟩ => ?_
  subst he
  exact ⟨_, rfl, post_of_below (pa := []) (pv := []) hW' (fun _ _ _ => trodAll_mk1 (shut_bool Try.underlying4 true))
    (fun sp hsp => trodAll_mk2 (shut_int Try.underlying3 wa0) (shut_bool Try.underlying4 b1)) (fun _ _ => rfl) (by simp) hb
    (ok_one (by kernel_rfl) rfl (okWide_bool_mk Try.underlying4 true))⟩
theorem starGraph_k0 : (Rows.fnExactStarGraphRow.wf (OpenSpec.ofChange Rows.fnExactStarGraphSpec)) = true := by kernel_rfl
theorem starGraph_k1 : (laidOutB Try.pinned.checked.prog) = true := by kernel_rfl
theorem starGraph_k2 : (mapsRowed Try.pinned.checked.prog) = true := by kernel_rfl
theorem starGraph_k3 : (Try.f6.params.all (Try.pinned.checked.prog.readableRec ·)) = true := by kernel_rfl
theorem starGraph_k4 : (namedTie Try.pinned.checked.prog Rows.fnExactStarGraphRow.named Rows.fnExactStarGraphSpec.vars) = true := by kernel_rfl
theorem starGraph_k5 : ((Rows.fnExactStarGraphRow.stops == [])) = true := by kernel_rfl
theorem starGraph_k6 : ((Try.pinned.checked.prog.stops == [])) = true := by kernel_rfl
theorem starGraph_k7 : ((Rows.fnExactStarGraphRow.knobs == [])) = true := by kernel_rfl
theorem starGraph_k8 : ((Try.pinned.checked.prog.stopKnobs == [])) = true := by kernel_rfl
theorem starGraph_k9 : ((Rows.fnExactStarGraphRow.inPlace == Try.pinned.checked.prog.inPlace 6)) = true := by kernel_rfl
theorem starGraph_k10 : ((Rows.fnExactStarGraphRow.unfollowed == Try.pinned.checked.prog.unfollowed 6)) = true := by kernel_rfl
theorem starGraph_k11 : ((Rows.fnExactStarGraphRow.recurses == Try.pinned.checked.prog.recurses 6)) = true := by kernel_rfl
theorem starGraph_k12 : ((Rows.fnExactStarGraphRow.named == Try.pinned.checked.prog.varsNamed 6)) = true := by kernel_rfl
theorem starGraph_k13 : ((Rows.fnExactStarGraphRow.maps == (Try.f6.params.toList ++ Rows.fnExactStarGraphSpec.plain.varTypes Try.pinned.checked.prog).any (Try.pinned.checked.prog.mapsRec ·))) = true := by kernel_rfl
theorem starGraph_k14 : ((Rows.fnExactStarGraphRow.ifaces == (Try.f6.params.toList ++ Rows.fnExactStarGraphSpec.plain.varTypes Try.pinned.checked.prog).any (Try.pinned.checked.prog.ifacesRec ·))) = true := by kernel_rfl
theorem starGraph_k15 : ((Rows.fnExactStarGraphRow.mapsOut == Try.pinned.checked.prog.mapsAmong Try.f6.resultTypes.toList)) = true := by kernel_rfl
theorem starGraph_k16 : ((Rows.fnExactStarGraphRow.loops == (Try.f6.params.toList ++ Rows.fnExactStarGraphSpec.plain.varTypes Try.pinned.checked.prog).any (Try.pinned.checked.prog.loopsFrom ·))) = true := by kernel_rfl
theorem starGraph_k17 : ((Rows.fnExactStarGraphRow.wideKeys == (Try.f6.params.toList ++ Rows.fnExactStarGraphSpec.plain.varTypes Try.pinned.checked.prog ++ Try.f6.resultTypes.toList).any (Try.pinned.checked.prog.wideKeysFrom ·))) = true := by kernel_rfl
theorem starGraph_k18 : (Rows.fnExactStarGraphSpec.vars.all (Try.pinned.checked.prog.varReadable ·)) = true := by kernel_rfl
theorem starGraph_k19 : (Try.f6.resultTypes.all (fun t => Try.pinned.checked.prog.readableRec t && decide (t < Try.pinned.checked.prog.types.size))) = true := by kernel_rfl
theorem starGraph_k20 : ((Rows.fnExactStarGraphRow.ifacesOut == Try.f6.resultTypes.toList.any (Try.pinned.checked.prog.ifacesRec ·))) = true := by kernel_rfl
theorem starGraph_k21 : ((Rows.fnExactStarGraphRow.loopsOut == Try.f6.resultTypes.toList.any (Try.pinned.checked.prog.loopsFrom ·))) = true := by kernel_rfl
theorem starGraph_k22 : ((Rows.fnExactStarGraphRow.plainKeys == Try.pinned.checked.prog.plainKeys)) = true := by kernel_rfl
theorem starGraph_k23 : (Rows.fnExactStarGraphRow.shortTexts.isNone) = true := by kernel_rfl
theorem starGraph_k24 : (Try.pinned.checked.prog.stopsHeard) = true := by kernel_rfl
theorem starGraph_k25 : (Try.pinned.checked.prog.mayEnter) = true := x_enter
theorem starGraph_k26 : ((Rows.fnExactStarGraphRow.lifted == Try.pinned.checked.prog.liftsFinal)) = true := by rw [x_lifts]; rfl
theorem starGraph_k27 : ((Try.pinned.checked.prog.make == some Rows.fnExactStarGraphRow.make)) = true := by rw [x_make]; rfl
theorem starGraph_k28 : ((Rows.fnExactStarGraphRow.kinds == (if Rows.fnExactStarGraphRow.domain.isEmpty then [] else Try.f6.params.toList.map fun t => match Try.pinned.checked.prog.underlying t with | some (.int k) => some k | _ => none))) = true := by kernel_rfl
theorem starGraph_k29 : ((Rows.fnExactStarGraphRow.pinned == Rows.fnExactStarGraphRow.pinnedBy)) = true := by kernel_rfl
theorem starGraph_k30 : ((Rows.fnExactStarGraphRow.veiled == (Try.f6.params.toList ++ Rows.fnExactStarGraphSpec.plain.varTypes Try.pinned.checked.prog ++ Try.f6.resultTypes.toList).any (Try.pinned.checked.prog.veiledRec ·))) = true := by kernel_rfl
theorem starGraph_k31 : (Rows.fnExactStarGraphRow.veiledFits Try.pinned.checked.prog Try.f6.params.toList (Try.f6.params.toList ++ Rows.fnExactStarGraphSpec.plain.varTypes Try.pinned.checked.prog ++ Try.f6.resultTypes.toList)) = true := by kernel_rfl
theorem starGraph_pkg : decide (Check.packageOf Try.f6.name = "main") = false := by kernel_rfl
theorem starGraph_inst : Func.isInstance Try.pinned.checked.prog Try.f6 Rows.fnExactStarGraphRow.origin Rows.fnExactStarGraphRow.targs := of_decide_eq_true (by kernel_rfl)
theorem starGraph_wrap : Func.isWrapper Try.pinned.checked.prog Try.f6 Rows.fnExactStarGraphRow.wrapper Rows.fnExactStarGraphRow.mainSum := by
  unfold Func.isWrapper; rw [if_neg (of_decide_eq_false starGraph_pkg)]; exact ⟨rfl, rfl⟩
set_option maxRecDepth 100000 in
theorem starGraph_closed : joinedFacts Try.pinned.checked.prog 6 Try.f6 Rows.fnExactStarGraphSpec Rows.fnExactStarGraphRow = true :=
  (and_of (and_of (and_of (and_of (and_of (and_of (and_of (and_of (and_of (and_of (and_of (and_of (and_of (and_of (and_of (and_of (and_of (and_of (and_of (and_of (and_of (and_of (and_of (and_of (and_of (and_of (and_of (and_of (and_of (and_of (and_of starGraph_k0 starGraph_k1) starGraph_k2) starGraph_k3) starGraph_k4) starGraph_k5) starGraph_k6) starGraph_k7) starGraph_k8) starGraph_k9) starGraph_k10) starGraph_k11) starGraph_k12) starGraph_k13) starGraph_k14) starGraph_k15) starGraph_k16) starGraph_k17) starGraph_k18) starGraph_k19) starGraph_k20) starGraph_k21) starGraph_k22) starGraph_k23) starGraph_k24) starGraph_k25) starGraph_k26) starGraph_k27) starGraph_k28) starGraph_k29) starGraph_k30) starGraph_k31)
theorem starGraph_holds : Rows.FnExactStarGraphSaid :=
  OpenClaim.holds_of_wide 6 Try.f6 rfl rfl rfl rfl rfl rfl rfl ⟨rfl, rfl, rfl, rfl, rfl⟩ rfl rfl rfl rfl rfl (by kernel_rfl) Try.func6 starGraph_closed
    starGraph_inst starGraph_wrap (fun os started H enc _ => starGraph_lifted os started H enc)
end Go.Proofs.Ytmcimfblhpflnaa
