/-
FirstRows answers as its model at every three numbers and bool, and its answers share no memory. No condition.
-/
import Derived.Test.YtggcjmdadomlaaaRN
import Derived.Test.YtggcjmdadomlaaaP
import Derived.Test.YtggcjmdadomlaaaQ1
namespace Go.Proofs.Ytggcjmdadomlaaa
open Go.ChangeShapes Go.WideShapes Go.ChangeAt Go.RowKit
set_option maxRecDepth 100000 in
theorem firstRows_lifted (os : Os) (started : os.Started) (H : Type) (enc : TypeId × Value → H) :
    ReturnsInHanded {} Try.checked os 6 .any (Rows.fnExactFirstRowsSpec.pre6 enc Try.prog Try.f6 Rows.fnExactFirstRowsRow.domain false) (Rows.fnExactFirstRowsSpec.post enc Try.prog Try.f6 false true false false) := by
  refine returnsInHanded_of_change (C := Try.checked) Try.own started (by kernel_rfl) Try.func6
    (ChangeSpec.witness6 (enc := enc) (C := Try.checked) false ⟨#[], #[.int .i64 0, .int .i64 0, .bool false, .int .i64 0], []⟩ 8 (by kernel_rfl) (by kernel_rfl) (by kernel_rfl) (by kernel_rfl)) ?_
  intro W base args ds gs before hval0 hW hcnd _
  have hval : ∀ (j : Nat) t v, Try.f6.params[j]? = some t → args[j]? = some v → Value.okWide Try.prog W .any base t v := hval0
  have hW' := hW
  obtain ⟨p, q, hA0, hV, rfl, hfz, hnd⟩ := hW
  have hA : DataW.TrodAll enc Try.prog W 0 (fun _ => true) true Try.f6.params.toList args.toList ds p := hA0
  rw [Try.params6] at hA hval
  obtain ⟨v0, v1, v2, v3, d0, d1, d2, d3, p0, p1, p2, p3, rfl, rfl, rfl, h0, h1, h2, h3⟩ := trodAll_four hA
  obtain ⟨rfl, rfl⟩ := trodVars_none hV
  obtain ⟨a0, rfl, rfl, rfl, wa0⟩ := open_int Try.underlying3 (hval 0 3 v0 rfl rfl) h0
  obtain ⟨a1, rfl, rfl, rfl, wa1⟩ := open_int Try.underlying3 (hval 1 3 v1 rfl rfl) h1
  obtain ⟨b2, rfl, rfl, rfl⟩ := open_bool Try.underlying4 (hval 2 4 v2 rfl rfl) h2
  obtain ⟨a3, rfl, rfl, rfl, wa3⟩ := open_int Try.underlying3 (hval 3 3 v3 rfl rfl) h3
  clear hA0 hval0
  simp only [List.append_nil] at hW'
  refine (lawFirst a0 a1 b2 a3 W).mono fun e W' ⟨he, hb⟩ => ?_
  subst he
  exact ⟨_, rfl, post_of_below (pa := []) (pv := []) hW' (fun _ _ _ => trodAll_mk1 (shut_bool Try.underlying4 true))
    (fun sp hsp => trodAll_mk4 (shut_int Try.underlying3 wa0) (shut_int Try.underlying3 wa1) (shut_bool Try.underlying4 b2) (shut_int Try.underlying3 wa3)) (fun _ _ => rfl) (by simp) hb
    (ok_one (by kernel_rfl) rfl (okWide_bool_mk Try.underlying4 true))⟩
theorem firstRows_k0 : (Rows.fnExactFirstRowsRow.wf (OpenSpec.ofChange Rows.fnExactFirstRowsSpec)) = true := by kernel_rfl
theorem firstRows_k1 : (laidOutB Try.pinned.checked.prog) = true := by kernel_rfl
theorem firstRows_k2 : (mapsRowed Try.pinned.checked.prog) = true := by kernel_rfl
theorem firstRows_k3 : (Try.f6.params.all (Try.pinned.checked.prog.readableRec ·)) = true := by kernel_rfl
theorem firstRows_k4 : (namedTie Try.pinned.checked.prog Rows.fnExactFirstRowsRow.named Rows.fnExactFirstRowsSpec.vars) = true := by kernel_rfl
theorem firstRows_k5 : ((Rows.fnExactFirstRowsRow.stops == [])) = true := by kernel_rfl
theorem firstRows_k6 : ((Try.pinned.checked.prog.stops == [])) = true := by kernel_rfl
theorem firstRows_k7 : ((Rows.fnExactFirstRowsRow.knobs == [])) = true := by kernel_rfl
theorem firstRows_k8 : ((Try.pinned.checked.prog.stopKnobs == [])) = true := by kernel_rfl
theorem firstRows_k9 : ((Rows.fnExactFirstRowsRow.inPlace == Try.pinned.checked.prog.inPlace 6)) = true := by kernel_rfl
theorem firstRows_k10 : ((Rows.fnExactFirstRowsRow.unfollowed == Try.pinned.checked.prog.unfollowed 6)) = true := by kernel_rfl
theorem firstRows_k11 : ((Rows.fnExactFirstRowsRow.recurses == Try.pinned.checked.prog.recurses 6)) = true := by kernel_rfl
theorem firstRows_k12 : ((Rows.fnExactFirstRowsRow.named == Try.pinned.checked.prog.varsNamed 6)) = true := by kernel_rfl
theorem firstRows_k13 : ((Rows.fnExactFirstRowsRow.maps == (Try.f6.params.toList ++ Rows.fnExactFirstRowsSpec.plain.varTypes Try.pinned.checked.prog).any (Try.pinned.checked.prog.mapsRec ·))) = true := by kernel_rfl
theorem firstRows_k14 : ((Rows.fnExactFirstRowsRow.ifaces == (Try.f6.params.toList ++ Rows.fnExactFirstRowsSpec.plain.varTypes Try.pinned.checked.prog).any (Try.pinned.checked.prog.ifacesRec ·))) = true := by kernel_rfl
theorem firstRows_k15 : ((Rows.fnExactFirstRowsRow.mapsOut == Try.pinned.checked.prog.mapsAmong Try.f6.resultTypes.toList)) = true := by kernel_rfl
theorem firstRows_k16 : ((Rows.fnExactFirstRowsRow.loops == (Try.f6.params.toList ++ Rows.fnExactFirstRowsSpec.plain.varTypes Try.pinned.checked.prog).any (Try.pinned.checked.prog.loopsFrom ·))) = true := by kernel_rfl
theorem firstRows_k17 : ((Rows.fnExactFirstRowsRow.wideKeys == (Try.f6.params.toList ++ Rows.fnExactFirstRowsSpec.plain.varTypes Try.pinned.checked.prog ++ Try.f6.resultTypes.toList).any (Try.pinned.checked.prog.wideKeysFrom ·))) = true := by kernel_rfl
theorem firstRows_k18 : (Rows.fnExactFirstRowsSpec.vars.all (Try.pinned.checked.prog.varReadable ·)) = true := by kernel_rfl
theorem firstRows_k19 : (Try.f6.resultTypes.all (fun t => Try.pinned.checked.prog.readableRec t && decide (t < Try.pinned.checked.prog.types.size))) = true := by kernel_rfl
theorem firstRows_k20 : ((Rows.fnExactFirstRowsRow.ifacesOut == Try.f6.resultTypes.toList.any (Try.pinned.checked.prog.ifacesRec ·))) = true := by kernel_rfl
theorem firstRows_k21 : ((Rows.fnExactFirstRowsRow.loopsOut == Try.f6.resultTypes.toList.any (Try.pinned.checked.prog.loopsFrom ·))) = true := by kernel_rfl
theorem firstRows_k22 : ((Rows.fnExactFirstRowsRow.plainKeys == Try.pinned.checked.prog.plainKeys)) = true := by kernel_rfl
theorem firstRows_k23 : (Rows.fnExactFirstRowsRow.shortTexts.isNone) = true := by kernel_rfl
theorem firstRows_k24 : (Try.pinned.checked.prog.stopsHeard) = true := by kernel_rfl
theorem firstRows_k25 : (Try.pinned.checked.prog.mayEnter) = true := x_enter
theorem firstRows_k26 : ((Rows.fnExactFirstRowsRow.lifted == Try.pinned.checked.prog.liftsFinal)) = true := by rw [x_lifts]; rfl
theorem firstRows_k27 : ((Try.pinned.checked.prog.make == some Rows.fnExactFirstRowsRow.make)) = true := by rw [x_make]; rfl
theorem firstRows_k28 : ((Rows.fnExactFirstRowsRow.kinds == (if Rows.fnExactFirstRowsRow.domain.isEmpty then [] else Try.f6.params.toList.map fun t => match Try.pinned.checked.prog.underlying t with | some (.int k) => some k | _ => none))) = true := by kernel_rfl
theorem firstRows_k29 : ((Rows.fnExactFirstRowsRow.pinned == Rows.fnExactFirstRowsRow.pinnedBy)) = true := by kernel_rfl
theorem firstRows_k30 : ((Rows.fnExactFirstRowsRow.veiled == (Try.f6.params.toList ++ Rows.fnExactFirstRowsSpec.plain.varTypes Try.pinned.checked.prog ++ Try.f6.resultTypes.toList).any (Try.pinned.checked.prog.veiledRec ·))) = true := by kernel_rfl
theorem firstRows_k31 : (Rows.fnExactFirstRowsRow.veiledFits Try.pinned.checked.prog Try.f6.params.toList (Try.f6.params.toList ++ Rows.fnExactFirstRowsSpec.plain.varTypes Try.pinned.checked.prog ++ Try.f6.resultTypes.toList)) = true := by kernel_rfl
theorem firstRows_pkg : decide (Check.packageOf Try.f6.name = "main") = false := by kernel_rfl
theorem firstRows_inst : Func.isInstance Try.pinned.checked.prog Try.f6 Rows.fnExactFirstRowsRow.origin Rows.fnExactFirstRowsRow.targs := of_decide_eq_true (by kernel_rfl)
theorem firstRows_wrap : Func.isWrapper Try.pinned.checked.prog Try.f6 Rows.fnExactFirstRowsRow.wrapper Rows.fnExactFirstRowsRow.mainSum := by
  unfold Func.isWrapper; rw [if_neg (of_decide_eq_false firstRows_pkg)]; exact ⟨rfl, rfl⟩
set_option maxRecDepth 100000 in
theorem firstRows_closed : joinedFacts Try.pinned.checked.prog 6 Try.f6 Rows.fnExactFirstRowsSpec Rows.fnExactFirstRowsRow = true :=
  (and_of (and_of (and_of (and_of (and_of (and_of (and_of (and_of (and_of (and_of (and_of (and_of (and_of (and_of (and_of (and_of (and_of (and_of (and_of (and_of (and_of (and_of (and_of (and_of (and_of (and_of (and_of (and_of (and_of (and_of (and_of firstRows_k0 firstRows_k1) firstRows_k2) firstRows_k3) firstRows_k4) firstRows_k5) firstRows_k6) firstRows_k7) firstRows_k8) firstRows_k9) firstRows_k10) firstRows_k11) firstRows_k12) firstRows_k13) firstRows_k14) firstRows_k15) firstRows_k16) firstRows_k17) firstRows_k18) firstRows_k19) firstRows_k20) firstRows_k21) firstRows_k22) firstRows_k23) firstRows_k24) firstRows_k25) firstRows_k26) firstRows_k27) firstRows_k28) firstRows_k29) firstRows_k30) firstRows_k31)
theorem firstRows_holds : Rows.FnExactFirstRowsSaid :=
  OpenClaim.holds_of_wide 6 Try.f6 rfl rfl rfl rfl rfl rfl rfl ⟨rfl, rfl, rfl, rfl, rfl⟩ rfl rfl rfl rfl rfl (by kernel_rfl) Try.func6 firstRows_closed
    firstRows_inst firstRows_wrap (fun os started H enc _ => firstRows_lifted os started H enc)
end Go.Proofs.Ytggcjmdadomlaaa
