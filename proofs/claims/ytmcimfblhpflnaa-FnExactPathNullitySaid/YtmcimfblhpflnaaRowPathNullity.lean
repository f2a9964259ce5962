/-
PathNullity answers as its model at every number and Own. No condition.
-/
import Derived.Test.YtmcimfblhpflnaaLN
import Derived.Test.YtmcimfblhpflnaaP
import Derived.Test.YtmcimfblhpflnaaQ1
namespace Go.Proofs.Ytmcimfblhpflnaa
open Go.ChangeShapes Go.WideShapes Go.ChangeAt Go.RowKit
set_option maxRecDepth 100000 in
theorem pathNullity_lifted (os : Os) (started : os.Started) (H : Type) (enc : TypeId × Value → H) :
    ReturnsInHanded {} Try.checked os 3 .any (Rows.fnExactPathNullitySpec.pre6 enc Try.prog Try.f3 Rows.fnExactPathNullityRow.domain false) (Rows.fnExactPathNullitySpec.post enc Try.prog Try.f3 false true false false) := by
  refine returnsInHanded_of_change (C := Try.checked) Try.own started (by kernel_rfl) Try.func3
    (ChangeSpec.witness6 (enc := enc) (C := Try.checked) false ⟨#[], #[.int .i64 0, .bool false], []⟩ 8 (by kernel_rfl) (by kernel_rfl) (by kernel_rfl) (by kernel_rfl)) ?_
  intro W base args ds gs before hval0 hW hcnd _
  have hval : ∀ (j : Nat) t v, Try.f3.params[j]? = some t → args[j]? = some v → Value.okWide Try.prog W .any base t v := hval0
  have hW' := hW
  obtain ⟨p, q, hA0, hV, rfl, hfz, hnd⟩ := hW
  have hA : DataW.TrodAll enc Try.prog W 0 (fun _ => true) true Try.f3.params.toList args.toList ds p := hA0
  rw [Try.params3] at hA hval
  obtain ⟨v0, v1, d0, d1, p0, p1, rfl, rfl, rfl, h0, h1⟩ := trodAll_two hA
  obtain ⟨rfl, rfl⟩ := trodVars_none hV
  obtain ⟨a0, rfl, rfl, rfl, wa0⟩ := open_int Try.underlying3 (hval 0 3 v0 rfl rfl) h0
  obtain ⟨b1, rfl, rfl, rfl⟩ := open_bool Try.underlying4 (hval 1 4 v1 rfl rfl) h1
  clear hA0 hval0
  simp only [List.append_nil] at hW'
  refine (lawPathN a0 b1 W).mono fun e W' ⟨he, hb⟩ => ?_
  subst he
  exact ⟨_, rfl, post_of_below (pa := []) (pv := []) hW' (fun _ _ _ => trodAll_mk1 (shut_bool Try.underlying4 true))
    (fun sp hsp => trodAll_mk2 (shut_int Try.underlying3 wa0) (shut_bool Try.underlying4 b1)) (fun _ _ => rfl) (by simp) hb
    (ok_one (by kernel_rfl) rfl (okWide_bool_mk Try.underlying4 true))⟩
theorem pathNullity_k0 : (Rows.fnExactPathNullityRow.wf (OpenSpec.ofChange Rows.fnExactPathNullitySpec)) = true := by kernel_rfl
theorem pathNullity_k1 : (laidOutB Try.pinned.checked.prog) = true := by kernel_rfl
theorem pathNullity_k2 : (mapsRowed Try.pinned.checked.prog) = true := by kernel_rfl
theorem pathNullity_k3 : (Try.f3.params.all (Try.pinned.checked.prog.readableRec ·)) = true := by kernel_rfl
theorem pathNullity_k4 : (namedTie Try.pinned.checked.prog Rows.fnExactPathNullityRow.named Rows.fnExactPathNullitySpec.vars) = true := by kernel_rfl
theorem pathNullity_k5 : ((Rows.fnExactPathNullityRow.stops == [])) = true := by kernel_rfl
theorem pathNullity_k6 : ((Try.pinned.checked.prog.stops == [])) = true := by kernel_rfl
theorem pathNullity_k7 : ((Rows.fnExactPathNullityRow.knobs == [])) = true := by kernel_rfl
theorem pathNullity_k8 : ((Try.pinned.checked.prog.stopKnobs == [])) = true := by kernel_rfl
theorem pathNullity_k9 : ((Rows.fnExactPathNullityRow.inPlace == Try.pinned.checked.prog.inPlace 3)) = true := by kernel_rfl
theorem pathNullity_k10 : ((Rows.fnExactPathNullityRow.unfollowed == Try.pinned.checked.prog.unfollowed 3)) = true := by kernel_rfl
theorem pathNullity_k11 : ((Rows.fnExactPathNullityRow.recurses == Try.pinned.checked.prog.recurses 3)) = true := by kernel_rfl
theorem pathNullity_k12 : ((Rows.fnExactPathNullityRow.named == Try.pinned.checked.prog.varsNamed 3)) = true := by kernel_rfl
theorem pathNullity_k13 : ((Rows.fnExactPathNullityRow.maps == (Try.f3.params.toList ++ Rows.fnExactPathNullitySpec.plain.varTypes Try.pinned.checked.prog).any (Try.pinned.checked.prog.mapsRec ·))) = true := by kernel_rfl
theorem pathNullity_k14 : ((Rows.fnExactPathNullityRow.ifaces == (Try.f3.params.toList ++ Rows.fnExactPathNullitySpec.plain.varTypes Try.pinned.checked.prog).any (Try.pinned.checked.prog.ifacesRec ·))) = true := by kernel_rfl
theorem pathNullity_k15 : ((Rows.fnExactPathNullityRow.mapsOut == Try.pinned.checked.prog.mapsAmong Try.f3.resultTypes.toList)) = true := by kernel_rfl
theorem pathNullity_k16 : ((Rows.fnExactPathNullityRow.loops == (Try.f3.params.toList ++ Rows.fnExactPathNullitySpec.plain.varTypes Try.pinned.checked.prog).any (Try.pinned.checked.prog.loopsFrom ·))) = true := by kernel_rfl
theorem pathNullity_k17 : ((Rows.fnExactPathNullityRow.wideKeys == (Try.f3.params.toList ++ Rows.fnExactPathNullitySpec.plain.varTypes Try.pinned.checked.prog ++ Try.f3.resultTypes.toList).any (Try.pinned.checked.prog.wideKeysFrom ·))) = true := by kernel_rfl
theorem pathNullity_k18 : (Rows.fnExactPathNullitySpec.vars.all (Try.pinned.checked.prog.varReadable ·)) = true := by kernel_rfl
theorem pathNullity_k19 : (Try.f3.resultTypes.all (fun t => Try.pinned.checked.prog.readableRec t && decide (t < Try.pinned.checked.prog.types.size))) = true := by kernel_rfl
theorem pathNullity_k20 : ((Rows.fnExactPathNullityRow.ifacesOut == Try.f3.resultTypes.toList.any (Try.pinned.checked.prog.ifacesRec ·))) = true := by kernel_rfl
theorem pathNullity_k21 : ((Rows.fnExactPathNullityRow.loopsOut == Try.f3.resultTypes.toList.any (Try.pinned.checked.prog.loopsFrom ·))) = true := by kernel_rfl
theorem pathNullity_k22 : ((Rows.fnExactPathNullityRow.plainKeys == Try.pinned.checked.prog.plainKeys)) = true := by kernel_rfl
theorem pathNullity_k23 : (Rows.fnExactPathNullityRow.shortTexts.isNone) = true := by kernel_rfl
theorem pathNullity_k24 : (Try.pinned.checked.prog.stopsHeard) = true := by kernel_rfl
theorem pathNullity_k25 : (Try.pinned.checked.prog.mayEnter) = true := x_enter
theorem pathNullity_k26 : ((Rows.fnExactPathNullityRow.lifted == Try.pinned.checked.prog.liftsFinal)) = true := by rw [x_lifts]; rfl
theorem pathNullity_k27 : ((Try.pinned.checked.prog.make == some Rows.fnExactPathNullityRow.make)) = true := by rw [x_make]; rfl
theorem pathNullity_k28 : ((Rows.fnExactPathNullityRow.kinds == (if Rows.fnExactPathNullityRow.domain.isEmpty then [] else Try.f3.params.toList.map fun t => match Try.pinned.checked.prog.underlying t with | some (.int k) => some k | _ => none))) = true := by kernel_rfl
theorem pathNullity_k29 : ((Rows.fnExactPathNullityRow.pinned == Rows.fnExactPathNullityRow.pinnedBy)) = true := by kernel_rfl
theorem pathNullity_k30 : ((Rows.fnExactPathNullityRow.veiled == (Try.f3.params.toList ++ Rows.fnExactPathNullitySpec.plain.varTypes Try.pinned.checked.prog ++ Try.f3.resultTypes.toList).any (Try.pinned.checked.prog.veiledRec ·))) = true := by kernel_rfl
theorem pathNullity_k31 : (Rows.fnExactPathNullityRow.veiledFits Try.pinned.checked.prog Try.f3.params.toList (Try.f3.params.toList ++ Rows.fnExactPathNullitySpec.plain.varTypes Try.pinned.checked.prog ++ Try.f3.resultTypes.toList)) = true := by kernel_rfl
theorem pathNullity_pkg : decide (Check.packageOf Try.f3.name = "main") = false := by kernel_rfl
theorem pathNullity_inst : Func.isInstance Try.pinned.checked.prog Try.f3 Rows.fnExactPathNullityRow.origin Rows.fnExactPathNullityRow.targs := of_decide_eq_true (by kernel_rfl)
theorem pathNullity_wrap : Func.isWrapper Try.pinned.checked.prog Try.f3 Rows.fnExactPathNullityRow.wrapper Rows.fnExactPathNullityRow.mainSum := by
  unfold Func.isWrapper; rw [if_neg (of_decide_eq_false pathNullity_pkg)]; exact ⟨rfl, rfl⟩
set_option maxRecDepth 100000 in
theorem pathNullity_closed : joinedFacts Try.pinned.checked.prog 3 Try.f3 Rows.fnExactPathNullitySpec Rows.fnExactPathNullityRow = true :=
  (and_of (and_of (and_of (and_of (and_of (and_of (and_of (and_of (and_of (and_of (and_of (and_of (and_of (and_of (and_of (and_of (and_of (and_of (and_of (and_of (and_of (and_of (and_of (and_of (and_of (and_of (and_of (and_of (and_of (and_of (and_of pathNullity_k0 pathNullity_k1) pathNullity_k2) pathNullity_k3) pathNullity_k4) pathNullity_k5) pathNullity_k6) pathNullity_k7) pathNullity_k8) pathNullity_k9) pathNullity_k10) pathNullity_k11) pathNullity_k12) pathNullity_k13) pathNullity_k14) pathNullity_k15) pathNullity_k16) pathNullity_k17) pathNullity_k18) pathNullity_k19) pathNullity_k20) pathNullity_k21) pathNullity_k22) pathNullity_k23) pathNullity_k24) pathNullity_k25) pathNullity_k26) pathNullity_k27) pathNullity_k28) pathNullity_k29) pathNullity_k30) pathNullity_k31)
theorem pathNullity_holds : Rows.FnExactPathNullitySaid :=
  OpenClaim.holds_of_wide 3 Try.f3 rfl rfl rfl rfl rfl rfl rfl ⟨rfl, rfl, rfl, rfl, rfl⟩ rfl rfl rfl rfl rfl (by kernel_rfl) Try.func3 pathNullity_closed
    pathNullity_inst pathNullity_wrap (fun os started H enc _ => pathNullity_lifted os started H enc)
end Go.Proofs.Ytmcimfblhpflnaa
