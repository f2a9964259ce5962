/-
FirstRowMap answers as its model at every two numbers and bool, and its answers share no memory. No condition.
-/
import Derived.Test.YtggcjmdadomlaaaSB3
import Derived.Test.YtggcjmdadomlaaaP
import Derived.Test.YtggcjmdadomlaaaQ1
namespace Go.Proofs.Ytggcjmdadomlaaa
open Go.ChangeShapes Go.WideShapes Go.ChangeAt Go.RowKit
set_option maxRecDepth 100000 in
theorem firstRowMap_lifted (os : Os) (started : os.Started) (H : Type) (enc : TypeId × Value → H) :
    ReturnsInHanded {} Try.checked os 5 .any (Rows.fnExactFirstRowMapSpec.pre6 enc Try.prog Try.f5 Rows.fnExactFirstRowMapRow.domain false) (Rows.fnExactFirstRowMapSpec.post enc Try.prog Try.f5 false true false false) := by
  refine returnsInHanded_of_change (C := Try.checked) Try.own started (by kernel_rfl) Try.func5
    (ChangeSpec.witness6 (enc := enc) (C := Try.checked) false ⟨#[], #[.int .i64 0, .int .i64 0, .bool false], []⟩ 8 (by kernel_rfl) (by kernel_rfl) (by kernel_rfl) (by kernel_rfl)) ?_
  intro W base args ds gs before hval0 hW hcnd _
  have hval : ∀ (j : Nat) t v, Try.f5.params[j]? = some t → args[j]? = some v → Value.okWide Try.prog W .any base t v := hval0
  have hW' := hW
  obtain ⟨p, q, hA0, hV, rfl, hfz, hnd⟩ := hW
  have hA : DataW.TrodAll enc Try.prog W 0 (fun _ => true) true Try.f5.params.toList args.toList ds p := hA0
  rw [Try.params5] at hA hval
  obtain ⟨v0, v1, v2, d0, d1, d2, p0, p1, p2, rfl, rfl, rfl, h0, h1, h2⟩ := trodAll_three hA
  obtain ⟨rfl, rfl⟩ := trodVars_none hV
  obtain ⟨a0, rfl, rfl, rfl, wa0⟩ := open_int Try.underlying3 (hval 0 3 v0 rfl rfl) h0
  obtain ⟨a1, rfl, rfl, rfl, wa1⟩ := open_int Try.underlying3 (hval 1 3 v1 rfl rfl) h1
  obtain ⟨b2, rfl, rfl, rfl⟩ := open_bool Try.underlying4 (hval 2 4 v2 rfl rfl) h2
  clear hA0 hval0
  simp only [List.append_nil] at hW'
  refine (lawMap a0 a1 b2 W).mono fun e W' ⟨he, hb⟩ => ?_
  subst he
  exact ⟨_, rfl, post_of_below (pa := []) (pv := []) hW' (fun _ _ _ => trodAll_mk1 (shut_bool Try.underlying4 true))
    (fun sp hsp => trodAll_mk3 (shut_int Try.underlying3 wa0) (shut_int Try.underlying3 wa1) (shut_bool Try.underlying4 b2)) (fun _ _ => rfl) (by simp) hb
    (ok_one (by kernel_rfl) rfl (okWide_bool_mk Try.underlying4 true))⟩
theorem firstRowMap_k0 : (Rows.fnExactFirstRowMapRow.wf (OpenSpec.ofChange Rows.fnExactFirstRowMapSpec)) = true := by kernel_rfl
theorem firstRowMap_k1 : (laidOutB Try.pinned.checked.prog) = true := by kernel_rfl
theorem firstRowMap_k2 : (mapsRowed Try.pinned.checked.prog) = true := by kernel_rfl
theorem firstRowMap_k3 : (Try.f5.params.all (Try.pinned.checked.prog.readableRec ·)) = true := by kernel_rfl
theorem firstRowMap_k4 : (namedTie Try.pinned.checked.prog Rows.fnExactFirstRowMapRow.named Rows.fnExactFirstRowMapSpec.vars) = true := by kernel_rfl
theorem firstRowMap_k5 : ((Rows.fnExactFirstRowMapRow.stops == [])) = true := by kernel_rfl
theorem firstRowMap_k6 : ((Try.pinned.checked.prog.stops == [])) = true := by kernel_rfl
theorem firstRowMap_k7 : ((Rows.fnExactFirstRowMapRow.knobs == [])) = true := by kernel_rfl
theorem firstRowMap_k8 : ((Try.pinned.checked.prog.stopKnobs == [])) = true := by kernel_rfl
theorem firstRowMap_k9 : ((Rows.fnExactFirstRowMapRow.inPlace == Try.pinned.checked.prog.inPlace 5)) = true := by kernel_rfl
theorem firstRowMap_k10 : ((Rows.fnExactFirstRowMapRow.unfollowed == Try.pinned.checked.prog.unfollowed 5)) = true := by kernel_rfl
theorem firstRowMap_k11 : ((Rows.fnExactFirstRowMapRow.recurses == Try.pinned.checked.prog.recurses 5)) = true := by kernel_rfl
theorem firstRowMap_k12 : ((Rows.fnExactFirstRowMapRow.named == Try.pinned.checked.prog.varsNamed 5)) = true := by kernel_rfl
theorem firstRowMap_k13 : ((Rows.fnExactFirstRowMapRow.maps == (Try.f5.params.toList ++ Rows.fnExactFirstRowMapSpec.plain.varTypes Try.pinned.checked.prog).any (Try.pinned.checked.prog.mapsRec ·))) = true := by kernel_rfl
theorem firstRowMap_k14 : ((Rows.fnExactFirstRowMapRow.ifaces == (Try.f5.params.toList ++ Rows.fnExactFirstRowMapSpec.plain.varTypes Try.pinned.checked.prog).any (Try.pinned.checked.prog.ifacesRec ·))) = true := by kernel_rfl
theorem firstRowMap_k15 : ((Rows.fnExactFirstRowMapRow.mapsOut == Try.pinned.checked.prog.mapsAmong Try.f5.resultTypes.toList)) = true := by kernel_rfl
theorem firstRowMap_k16 : ((Rows.fnExactFirstRowMapRow.loops == (Try.f5.params.toList ++ Rows.fnExactFirstRowMapSpec.plain.varTypes Try.pinned.checked.prog).any (Try.pinned.checked.prog.loopsFrom ·))) = true := by kernel_rfl
theorem firstRowMap_k17 : ((Rows.fnExactFirstRowMapRow.wideKeys == (Try.f5.params.toList ++ Rows.fnExactFirstRowMapSpec.plain.varTypes Try.pinned.checked.prog ++ Try.f5.resultTypes.toList).any (Try.pinned.checked.prog.wideKeysFrom ·))) = true := by kernel_rfl
theorem firstRowMap_k18 : (Rows.fnExactFirstRowMapSpec.vars.all (Try.pinned.checked.prog.varReadable ·)) = true := by kernel_rfl
theorem firstRowMap_k19 : (Try.f5.resultTypes.all (fun t => Try.pinned.checked.prog.readableRec t && decide (t < Try.pinned.checked.prog.types.size))) = true := by kernel_rfl
theorem firstRowMap_k20 : ((Rows.fnExactFirstRowMapRow.ifacesOut == Try.f5.resultTypes.toList.any (Try.pinned.checked.prog.ifacesRec ·))) = true := by kernel_rfl
theorem firstRowMap_k21 : ((Rows.fnExactFirstRowMapRow.loopsOut == Try.f5.resultTypes.toList.any (Try.pinned.checked.prog.loopsFrom ·))) = true := by kernel_rfl
theorem firstRowMap_k22 : ((Rows.fnExactFirstRowMapRow.plainKeys == Try.pinned.checked.prog.plainKeys)) = true := by kernel_rfl
theorem firstRowMap_k23 : (Rows.fnExactFirstRowMapRow.shortTexts.isNone) = true := by kernel_rfl
theorem firstRowMap_k24 : (Try.pinned.checked.prog.stopsHeard) = true := by kernel_rfl
theorem firstRowMap_k25 : (Try.pinned.checked.prog.mayEnter) = true := x_enter
theorem firstRowMap_k26 : ((Rows.fnExactFirstRowMapRow.lifted == Try.pinned.checked.prog.liftsFinal)) = true := by rw [x_lifts]; rfl
theorem firstRowMap_k27 : ((Try.pinned.checked.prog.make == some Rows.fnExactFirstRowMapRow.make)) = true := by rw [x_make]; rfl
theorem firstRowMap_k28 : ((Rows.fnExactFirstRowMapRow.kinds == (if Rows.fnExactFirstRowMapRow.domain.isEmpty then [] else Try.f5.params.toList.map fun t => match Try.pinned.checked.prog.underlying t with | some (.int k) => some k | _ => none))) = true := by kernel_rfl
theorem firstRowMap_k29 : ((Rows.fnExactFirstRowMapRow.pinned == Rows.fnExactFirstRowMapRow.pinnedBy)) = true := by kernel_rfl
theorem firstRowMap_k30 : ((Rows.fnExactFirstRowMapRow.veiled == (Try.f5.params.toList ++ Rows.fnExactFirstRowMapSpec.plain.varTypes Try.pinned.checked.prog ++ Try.f5.resultTypes.toList).any (Try.pinned.checked.prog.veiledRec ·))) = true := by kernel_rfl
theorem firstRowMap_k31 : (Rows.fnExactFirstRowMapRow.veiledFits Try.pinned.checked.prog Try.f5.params.toList (Try.f5.params.toList ++ Rows.fnExactFirstRowMapSpec.plain.varTypes Try.pinned.checked.prog ++ Try.f5.resultTypes.toList)) = true := by kernel_rfl
theorem firstRowMap_pkg : decide (Check.packageOf Try.f5.name = "main") = false := by kernel_rfl
theorem firstRowMap_inst : Func.isInstance Try.pinned.checked.prog Try.f5 Rows.fnExactFirstRowMapRow.origin Rows.fnExactFirstRowMapRow.targs := of_decide_eq_true (by kernel_rfl)
theorem firstRowMap_wrap : Func.isWrapper Try.pinned.checked.prog Try.f5 Rows.fnExactFirstRowMapRow.wrapper Rows.fnExactFirstRowMapRow.mainSum := by
  unfold Func.isWrapper; rw [if_neg (of_decide_eq_false firstRowMap_pkg)]; exact ⟨rfl, rfl⟩
set_option maxRecDepth 100000 in
theorem firstRowMap_closed : joinedFacts Try.pinned.checked.prog 5 Try.f5 Rows.fnExactFirstRowMapSpec Rows.fnExactFirstRowMapRow = true :=
  (and_of (and_of (and_of (and_of (and_of (and_of (and_of (and_of (and_of (and_of (and_of (and_of (and_of (and_of (and_of (and_of (and_of (and_of (and_of (and_of (and_of (and_of (and_of (and_of (and_of (and_of (and_of (and_of (and_of (and_of (and_of firstRowMap_k0 firstRowMap_k1) firstRowMap_k2) firstRowMap_k3) firstRowMap_k4) firstRowMap_k5) firstRowMap_k6) firstRowMap_k7) firstRowMap_k8) firstRowMap_k9) firstRowMap_k10) firstRowMap_k11) firstRowMap_k12) firstRowMap_k13) firstRowMap_k14) firstRowMap_k15) firstRowMap_k16) firstRowMap_k17) firstRowMap_k18) firstRowMap_k19) firstRowMap_k20) firstRowMap_k21) firstRowMap_k22) firstRowMap_k23) firstRowMap_k24) firstRowMap_k25) firstRowMap_k26) firstRowMap_k27) firstRowMap_k28) firstRowMap_k29) firstRowMap_k30) firstRowMap_k31)
theorem firstRowMap_holds : Rows.FnExactFirstRowMapSaid :=
  OpenClaim.holds_of_wide 5 Try.f5 rfl rfl rfl rfl rfl rfl rfl ⟨rfl, rfl, rfl, rfl, rfl⟩ rfl rfl rfl rfl rfl (by kernel_rfl) Try.func5 firstRowMap_closed
    firstRowMap_inst firstRowMap_wrap (fun os started H enc _ => firstRowMap_lifted os started H enc)
end Go.Proofs.Ytggcjmdadomlaaa
