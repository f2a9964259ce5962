/-
NullityByRows answers as its model at every two numbers and bool. No condition.
-/
import Derived.Test.YtggcjmdadomlaaaSL4
import Derived.Test.YtggcjmdadomlaaaP
import Derived.Test.YtggcjmdadomlaaaQ1
namespace Go.Proofs.Ytggcjmdadomlaaa
open Go.ChangeShapes Go.WideShapes Go.ChangeAt Go.RowKit
set_option maxRecDepth 100000 in
theorem nullityByRows_lifted (os : Os) (started : os.Started) (H : Type) (enc : TypeId × Value → H) :
    ReturnsInHanded {} Try.checked os 12 .any (Rows.fnExactNullityByRowsSpec.pre6 enc Try.prog Try.f12 Rows.fnExactNullityByRowsRow.domain false) (Rows.fnExactNullityByRowsSpec.post enc Try.prog Try.f12 false true false false) := by
  refine returnsInHanded_of_change (C := Try.checked) Try.own started (by kernel_rfl) Try.func12
    (ChangeSpec.witness6 (enc := enc) (C := Try.checked) false ⟨#[], #[.int .i64 0, .int .i64 0, .bool false], []⟩ 8 (by kernel_rfl) (by kernel_rfl) (by kernel_rfl) (by kernel_rfl)) ?_
  intro W base args ds gs before hval0 hW hcnd _
  have hval : ∀ (j : Nat) t v, Try.f12.params[j]? = some t → args[j]? = some v → Value.okWide Try.prog W .any base t v := hval0
  have hW' := hW
  obtain ⟨p, q, hA0, hV, rfl, hfz, hnd⟩ := hW
  have hA : DataW.TrodAll enc Try.prog W 0 (fun _ => true) true Try.f12.params.toList args.toList ds p := hA0
  rw [Try.params12] at hA hval
  obtain ⟨v0, v1, v2, d0, d1, d2, p0, p1, p2, rfl, rfl, rfl, h0, h1, h2⟩ := trodAll_three hA
  obtain ⟨rfl, rfl⟩ := trodVars_none hV
  obtain ⟨a0, rfl, rfl, rfl, wa0⟩ := open_int Try.underlying3 (hval 0 3 v0 rfl rfl) h0
  obtain ⟨a1, rfl, rfl, rfl, wa1⟩ := open_int Try.underlying3 (hval 1 3 v1 rfl rfl) h1
  obtain ⟨b2, rfl, rfl, rfl⟩ := open_bool Try.underlying4 (hval 2 4 v2 rfl rfl) h2
  clear hA0 hval0
  simp only [List.append_nil] at hW'
  refine (lawNullity a0 a1 b2 W).mono fun e W' ⟨he, hb⟩ => ?_
  subst he
  exact ⟨_, rfl, post_of_below (pa := []) (pv := []) hW' (fun _ _ _ => trodAll_mk1 (shut_bool Try.underlying4 true))
    (fun sp hsp => trodAll_mk3 (shut_int Try.underlying3 wa0) (shut_int Try.underlying3 wa1) (shut_bool Try.underlying4 b2)) (fun _ _ => rfl) (by simp) hb
    (ok_one (by kernel_rfl) rfl (okWide_bool_mk Try.underlying4 true))⟩
theorem nullityByRows_k0 : (Rows.fnExactNullityByRowsRow.wf (OpenSpec.ofChange Rows.fnExactNullityByRowsSpec)) = true := by kernel_rfl
theorem nullityByRows_k1 : (laidOutB Try.pinned.checked.prog) = true := by kernel_rfl
theorem nullityByRows_k2 : (mapsRowed Try.pinned.checked.prog) = true := by kernel_rfl
theorem nullityByRows_k3 : (Try.f12.params.all (Try.pinned.checked.prog.readableRec ·)) = true := by kernel_rfl
theorem nullityByRows_k4 : (namedTie Try.pinned.checked.prog Rows.fnExactNullityByRowsRow.named Rows.fnExactNullityByRowsSpec.vars) = true := by kernel_rfl
theorem nullityByRows_k5 : ((Rows.fnExactNullityByRowsRow.stops == [])) = true := by kernel_rfl
theorem nullityByRows_k6 : ((Try.pinned.checked.prog.stops == [])) = true := by kernel_rfl
theorem nullityByRows_k7 : ((Rows.fnExactNullityByRowsRow.knobs == [])) = true := by kernel_rfl
theorem nullityByRows_k8 : ((Try.pinned.checked.prog.stopKnobs == [])) = true := by kernel_rfl
theorem nullityByRows_k9 : ((Rows.fnExactNullityByRowsRow.inPlace == Try.pinned.checked.prog.inPlace 12)) = true := by kernel_rfl
theorem nullityByRows_k10 : ((Rows.fnExactNullityByRowsRow.unfollowed == Try.pinned.checked.prog.unfollowed 12)) = true := by kernel_rfl
theorem nullityByRows_k11 : ((Rows.fnExactNullityByRowsRow.recurses == Try.pinned.checked.prog.recurses 12)) = true := by kernel_rfl
theorem nullityByRows_k12 : ((Rows.fnExactNullityByRowsRow.named == Try.pinned.checked.prog.varsNamed 12)) = true := by kernel_rfl
theorem nullityByRows_k13 : ((Rows.fnExactNullityByRowsRow.maps == (Try.f12.params.toList ++ Rows.fnExactNullityByRowsSpec.plain.varTypes Try.pinned.checked.prog).any (Try.pinned.checked.prog.mapsRec ·))) = true := by kernel_rfl
theorem nullityByRows_k14 : ((Rows.fnExactNullityByRowsRow.ifaces == (Try.f12.params.toList ++ Rows.fnExactNullityByRowsSpec.plain.varTypes Try.pinned.checked.prog).any (Try.pinned.checked.prog.ifacesRec ·))) = true := by kernel_rfl
theorem nullityByRows_k15 : ((Rows.fnExactNullityByRowsRow.mapsOut == Try.pinned.checked.prog.mapsAmong Try.f12.resultTypes.toList)) = true := by kernel_rfl
theorem nullityByRows_k16 : ((Rows.fnExactNullityByRowsRow.loops == (Try.f12.params.toList ++ Rows.fnExactNullityByRowsSpec.plain.varTypes Try.pinned.checked.prog).any (Try.pinned.checked.prog.loopsFrom ·))) = true := by kernel_rfl
theorem nullityByRows_k17 : ((Rows.fnExactNullityByRowsRow.wideKeys == (Try.f12.params.toList ++ Rows.fnExactNullityByRowsSpec.plain.varTypes Try.pinned.checked.prog ++ Try.f12.resultTypes.toList).any (Try.pinned.checked.prog.wideKeysFrom ·))) = true := by kernel_rfl
theorem nullityByRows_k18 : (Rows.fnExactNullityByRowsSpec.vars.all (Try.pinned.checked.prog.varReadable ·)) = true := by kernel_rfl
theorem nullityByRows_k19 : (Try.f12.resultTypes.all (fun t => Try.pinned.checked.prog.readableRec t && decide (t < Try.pinned.checked.prog.types.size))) = true := by kernel_rfl
theorem nullityByRows_k20 : ((Rows.fnExactNullityByRowsRow.ifacesOut == Try.f12.resultTypes.toList.any (Try.pinned.checked.prog.ifacesRec ·))) = true := by kernel_rfl
theorem nullityByRows_k21 : ((Rows.fnExactNullityByRowsRow.loopsOut == Try.f12.resultTypes.toList.any (Try.pinned.checked.prog.loopsFrom ·))) = true := by kernel_rfl
theorem nullityByRows_k22 : ((Rows.fnExactNullityByRowsRow.plainKeys == Try.pinned.checked.prog.plainKeys)) = true := by kernel_rfl
theorem nullityByRows_k23 : (Rows.fnExactNullityByRowsRow.shortTexts.isNone) = true := by kernel_rfl
theorem nullityByRows_k24 : (Try.pinned.checked.prog.stopsHeard) = true := by kernel_rfl
theorem nullityByRows_k25 : (Try.pinned.checked.prog.mayEnter) = true := x_enter
theorem nullityByRows_k26 : ((Rows.fnExactNullityByRowsRow.lifted == Try.pinned.checked.prog.liftsFinal)) = true := by rw [x_lifts]; rfl
theorem nullityByRows_k27 : ((Try.pinned.checked.prog.make == some Rows.fnExactNullityByRowsRow.make)) = true := by rw [x_make]; rfl
theorem nullityByRows_k28 : ((Rows.fnExactNullityByRowsRow.kinds == (if Rows.fnExactNullityByRowsRow.domain.isEmpty then [] else Try.f12.params.toList.map fun t => match Try.pinned.checked.prog.underlying t with | some (.int k) => some k | _ => none))) = true := by kernel_rfl
theorem nullityByRows_k29 : ((Rows.fnExactNullityByRowsRow.pinned == Rows.fnExactNullityByRowsRow.pinnedBy)) = true := by kernel_rfl
theorem nullityByRows_k30 : ((Rows.fnExactNullityByRowsRow.veiled == (Try.f12.params.toList ++ Rows.fnExactNullityByRowsSpec.plain.varTypes Try.pinned.checked.prog ++ Try.f12.resultTypes.toList).any (Try.pinned.checked.prog.veiledRec ·))) = true := by kernel_rfl
theorem nullityByRows_k31 : (Rows.fnExactNullityByRowsRow.veiledFits Try.pinned.checked.prog Try.f12.params.toList (Try.f12.params.toList ++ Rows.fnExactNullityByRowsSpec.plain.varTypes Try.pinned.checked.prog ++ Try.f12.resultTypes.toList)) = true := by kernel_rfl
theorem nullityByRows_pkg : decide (Check.packageOf Try.f12.name = "main") = false := by kernel_rfl
theorem nullityByRows_inst : Func.isInstance Try.pinned.checked.prog Try.f12 Rows.fnExactNullityByRowsRow.origin Rows.fnExactNullityByRowsRow.targs := of_decide_eq_true (by kernel_rfl)
theorem nullityByRows_wrap : Func.isWrapper Try.pinned.checked.prog Try.f12 Rows.fnExactNullityByRowsRow.wrapper Rows.fnExactNullityByRowsRow.mainSum := by
  unfold Func.isWrapper; rw [if_neg (of_decide_eq_false nullityByRows_pkg)]; exact ⟨rfl, rfl⟩
set_option maxRecDepth 100000 in
theorem nullityByRows_closed : joinedFacts Try.pinned.checked.prog 12 Try.f12 Rows.fnExactNullityByRowsSpec Rows.fnExactNullityByRowsRow = true :=
  (and_of (and_of (and_of (and_of (and_of (and_of (and_of (and_of (and_of (and_of (and_of (and_of (and_of (and_of (and_of (and_of (and_of (and_of (and_of (and_of (and_of (and_of (and_of (and_of (and_of (and_of (and_of (and_of (and_of (and_of (and_of nullityByRows_k0 nullityByRows_k1) nullityByRows_k2) nullityByRows_k3) nullityByRows_k4) nullityByRows_k5) nullityByRows_k6) nullityByRows_k7) nullityByRows_k8) nullityByRows_k9) nullityByRows_k10) nullityByRows_k11) nullityByRows_k12) nullityByRows_k13) nullityByRows_k14) nullityByRows_k15) nullityByRows_k16) nullityByRows_k17) nullityByRows_k18) nullityByRows_k19) nullityByRows_k20) nullityByRows_k21) nullityByRows_k22) nullityByRows_k23) nullityByRows_k24) nullityByRows_k25) nullityByRows_k26) nullityByRows_k27) nullityByRows_k28) nullityByRows_k29) nullityByRows_k30) nullityByRows_k31)
theorem nullityByRows_holds : Rows.FnExactNullityByRowsSaid :=
  OpenClaim.holds_of_wide 12 Try.f12 rfl rfl rfl rfl rfl rfl rfl ⟨rfl, rfl, rfl, rfl, rfl⟩ rfl rfl rfl rfl rfl (by kernel_rfl) Try.func12 nullityByRows_closed
    nullityByRows_inst nullityByRows_wrap (fun os started H enc _ => nullityByRows_lifted os started H enc)
end Go.Proofs.Ytggcjmdadomlaaa
