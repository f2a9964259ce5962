/-
LastRowTable answers as its model at every two numbers and bool, and its answers share no memory. No condition.
-/
import Derived.Test.YtggcjmdadomlaaaRS
import Derived.Test.YtggcjmdadomlaaaP
import Derived.Test.YtggcjmdadomlaaaQ1
namespace Go.Proofs.Ytggcjmdadomlaaa
open Go.ChangeShapes Go.WideShapes Go.ChangeAt Go.RowKit
set_option maxRecDepth 100000 in
theorem lastRowTable_lifted (os : Os) (started : os.Started) (H : Type) (enc : TypeId × Value → H) :
    ReturnsInHanded {} Try.checked os 8 .any (Rows.fnExactLastRowTableSpec.pre6 enc Try.prog Try.f8 Rows.fnExactLastRowTableRow.domain false) (Rows.fnExactLastRowTableSpec.post enc Try.prog Try.f8 false true false false) := by
  refine returnsInHanded_of_change (C := Try.checked) Try.own started (by kernel_rfl) Try.func8
    (ChangeSpec.witness6 (enc := enc) (C := Try.checked) false ⟨#[], #[.int .i64 0, .int .i64 0, .bool false], []⟩ 8 (by kernel_rfl) (by kernel_rfl) (by kernel_rfl) (by kernel_rfl)) ?_
  intro W base args ds gs before hval0 hW hcnd _
  have hval : ∀ (j : Nat) t v, Try.f8.params[j]? = some t → args[j]? = some v → Value.okWide Try.prog W .any base t v := hval0
  have hW' := hW
  obtain ⟨p, q, hA0, hV, rfl, hfz, hnd⟩ := hW
  have hA : DataW.TrodAll enc Try.prog W 0 (fun _ => true) true Try.f8.params.toList args.toList ds p := hA0
  rw [Try.params8] at hA hval
  obtain ⟨v0, v1, v2, d0, d1, d2, p0, p1, p2, rfl, rfl, rfl, h0, h1, h2⟩ := trodAll_three hA
  obtain ⟨rfl, rfl⟩ := trodVars_none hV
  obtain ⟨a0, rfl, rfl, rfl, wa0⟩ := open_int Try.underlying3 (hval 0 3 v0 rfl rfl) h0
  obtain ⟨a1, rfl, rfl, rfl, wa1⟩ := open_int Try.underlying3 (hval 1 3 v1 rfl rfl) h1
  obtain ⟨b2, rfl, rfl, rfl⟩ := open_bool Try.underlying4 (hval 2 4 v2 rfl rfl) h2
  clear hA0 hval0
  simp only [List.append_nil] at hW'
  refine (lawLastRow a0 a1 b2 W).mono fun e W' ⟨he, hb⟩ => ?_
  subst he
  exact ⟨_, rfl, post_of_below (pa := []) (pv := []) hW' (fun _ _ _ => trodAll_mk1 (shut_bool Try.underlying4 true))
    (fun sp hsp => trodAll_mk3 (shut_int Try.underlying3 wa0) (shut_int Try.underlying3 wa1) (shut_bool Try.underlying4 b2)) (fun _ _ => rfl) (by simp) hb
    (ok_one (by kernel_rfl) rfl (okWide_bool_mk Try.underlying4 true))⟩
theorem lastRowTable_k0 : (Rows.fnExactLastRowTableRow.wf (OpenSpec.ofChange Rows.fnExactLastRowTableSpec)) = true := by kernel_rfl
theorem lastRowTable_k1 : (laidOutB Try.pinned.checked.prog) = true := by kernel_rfl
theorem lastRowTable_k2 : (mapsRowed Try.pinned.checked.prog) = true := by kernel_rfl
theorem lastRowTable_k3 : (Try.f8.params.all (Try.pinned.checked.prog.readableRec ·)) = true := by kernel_rfl
theorem lastRowTable_k4 : (namedTie Try.pinned.checked.prog Rows.fnExactLastRowTableRow.named Rows.fnExactLastRowTableSpec.vars) = true := by kernel_rfl
theorem lastRowTable_k5 : ((Rows.fnExactLastRowTableRow.stops == [])) = true := by kernel_rfl
theorem lastRowTable_k6 : ((Try.pinned.checked.prog.stops == [])) = true := by kernel_rfl
theorem lastRowTable_k7 : ((Rows.fnExactLastRowTableRow.knobs == [])) = true := by kernel_rfl
theorem lastRowTable_k8 : ((Try.pinned.checked.prog.stopKnobs == [])) = true := by kernel_rfl
theorem lastRowTable_k9 : ((Rows.fnExactLastRowTableRow.inPlace == Try.pinned.checked.prog.inPlace 8)) = true := by kernel_rfl
theorem lastRowTable_k10 : ((Rows.fnExactLastRowTableRow.unfollowed == Try.pinned.checked.prog.unfollowed 8)) = true := by kernel_rfl
theorem lastRowTable_k11 : ((Rows.fnExactLastRowTableRow.recurses == Try.pinned.checked.prog.recurses 8)) = true := by kernel_rfl
theorem lastRowTable_k12 : ((Rows.fnExactLastRowTableRow.named == Try.pinned.checked.prog.varsNamed 8)) = true := by kernel_rfl
theorem lastRowTable_k13 : ((Rows.fnExactLastRowTableRow.maps == (Try.f8.params.toList ++ Rows.fnExactLastRowTableSpec.plain.varTypes Try.pinned.checked.prog).any (Try.pinned.checked.prog.mapsRec ·))) = true := by kernel_rfl
theorem lastRowTable_k14 : ((Rows.fnExactLastRowTableRow.ifaces == (Try.f8.params.toList ++ Rows.fnExactLastRowTableSpec.plain.varTypes Try.pinned.checked.prog).any (Try.pinned.checked.prog.ifacesRec ·))) = true := by kernel_rfl
theorem lastRowTable_k15 : ((Rows.fnExactLastRowTableRow.mapsOut == Try.pinned.checked.prog.mapsAmong Try.f8.resultTypes.toList)) = true := by kernel_rfl
theorem lastRowTable_k16 : ((Rows.fnExactLastRowTableRow.loops == (Try.f8.params.toList ++ Rows.fnExactLastRowTableSpec.plain.varTypes Try.pinned.checked.prog).any (Try.pinned.checked.prog.loopsFrom ·))) = true := by kernel_rfl
theorem lastRowTable_k17 : ((Rows.fnExactLastRowTableRow.wideKeys == (Try.f8.params.toList ++ Rows.fnExactLastRowTableSpec.plain.varTypes Try.pinned.checked.prog ++ Try.f8.resultTypes.toList).any (Try.pinned.checked.prog.wideKeysFrom ·))) = true := by kernel_rfl
theorem lastRowTable_k18 : (Rows.fnExactLastRowTableSpec.vars.all (Try.pinned.checked.prog.varReadable ·)) = true := by kernel_rfl
theorem lastRowTable_k19 : (Try.f8.resultTypes.all (fun t => Try.pinned.checked.prog.readableRec t && decide (t < Try.pinned.checked.prog.types.size))) = true := by kernel_rfl
theorem lastRowTable_k20 : ((Rows.fnExactLastRowTableRow.ifacesOut == Try.f8.resultTypes.toList.any (Try.pinned.checked.prog.ifacesRec ·))) = true := by kernel_rfl
theorem lastRowTable_k21 : ((Rows.fnExactLastRowTableRow.loopsOut == Try.f8.resultTypes.toList.any (Try.pinned.checked.prog.loopsFrom ·))) = true := by kernel_rfl
theorem lastRowTable_k22 : ((Rows.fnExactLastRowTableRow.plainKeys == Try.pinned.checked.prog.plainKeys)) = true := by kernel_rfl
theorem lastRowTable_k23 : (Rows.fnExactLastRowTableRow.shortTexts.isNone) = true := by kernel_rfl
theorem lastRowTable_k24 : (Try.pinned.checked.prog.stopsHeard) = true := by kernel_rfl
theorem lastRowTable_k25 : (Try.pinned.checked.prog.mayEnter) = true := x_enter
theorem lastRowTable_k26 : ((Rows.fnExactLastRowTableRow.lifted == Try.pinned.checked.prog.liftsFinal)) = true := by rw [x_lifts]; rfl
theorem lastRowTable_k27 : ((Try.pinned.checked.prog.make == some Rows.fnExactLastRowTableRow.make)) = true := by rw [x_make]; rfl
theorem lastRowTable_k28 : ((Rows.fnExactLastRowTableRow.kinds == (if Rows.fnExactLastRowTableRow.domain.isEmpty then [] else Try.f8.params.toList.map fun t => match Try.pinned.checked.prog.underlying t with | some (.int k) => some k | _ => none))) = true := by kernel_rfl
theorem lastRowTable_k29 : ((Rows.fnExactLastRowTableRow.pinned == Rows.fnExactLastRowTableRow.pinnedBy)) = true := by kernel_rfl
theorem lastRowTable_k30 : ((Rows.fnExactLastRowTableRow.veiled == (Try.f8.params.toList ++ Rows.fnExactLastRowTableSpec.plain.varTypes Try.pinned.checked.prog ++ Try.f8.resultTypes.toList).any (Try.pinned.checked.prog.veiledRec ·))) = true := by kernel_rfl
theorem lastRowTable_k31 : (Rows.fnExactLastRowTableRow.veiledFits Try.pinned.checked.prog Try.f8.params.toList (Try.f8.params.toList ++ Rows.fnExactLastRowTableSpec.plain.varTypes Try.pinned.checked.prog ++ Try.f8.resultTypes.toList)) = true := by kernel_rfl
theorem lastRowTable_pkg : decide (Check.packageOf Try.f8.name = "main") = false := by kernel_rfl
theorem lastRowTable_inst : Func.isInstance Try.pinned.checked.prog Try.f8 Rows.fnExactLastRowTableRow.origin Rows.fnExactLastRowTableRow.targs := of_decide_eq_true (by kernel_rfl)
theorem lastRowTable_wrap : Func.isWrapper Try.pinned.checked.prog Try.f8 Rows.fnExactLastRowTableRow.wrapper Rows.fnExactLastRowTableRow.mainSum := by
  unfold Func.isWrapper; rw [if_neg (of_decide_eq_false lastRowTable_pkg)]; exact ⟨rfl, rfl⟩
set_option maxRecDepth 100000 in
theorem lastRowTable_closed : joinedFacts Try.pinned.checked.prog 8 Try.f8 Rows.fnExactLastRowTableSpec Rows.fnExactLastRowTableRow = true :=
  (and_of (and_of (and_of (and_of (and_of (and_of (and_of (and_of (and_of (and_of (and_of (and_of (and_of (and_of (and_of (and_of (and_of (and_of (and_of (and_of (and_of (and_of (and_of (and_of (and_of (and_of (and_of (and_of (and_of (and_of (and_of lastRowTable_k0 lastRowTable_k1) lastRowTable_k2) lastRowTable_k3) lastRowTable_k4) lastRowTable_k5) lastRowTable_k6) lastRowTable_k7) lastRowTable_k8) lastRowTable_k9) lastRowTable_k10) lastRowTable_k11) lastRowTable_k12) lastRowTable_k13) lastRowTable_k14) lastRowTable_k15) lastRowTable_k16) lastRowTable_k17) lastRowTable_k18) lastRowTable_k19) lastRowTable_k20) lastRowTable_k21) lastRowTable_k22) lastRowTable_k23) lastRowTable_k24) lastRowTable_k25) lastRowTable_k26) lastRowTable_k27) lastRowTable_k28) lastRowTable_k29) lastRowTable_k30) lastRowTable_k31)
theorem lastRowTable_holds : Rows.FnExactLastRowTableSaid :=
  OpenClaim.holds_of_wide 8 Try.f8 rfl rfl rfl rfl rfl rfl rfl ⟨rfl, rfl, rfl, rfl, rfl⟩ rfl rfl rfl rfl rfl (by kernel_rfl) Try.func8 lastRowTable_closed
    lastRowTable_inst lastRowTable_wrap (fun os started H enc _ => lastRowTable_lifted os started H enc)
end Go.Proofs.Ytggcjmdadomlaaa
