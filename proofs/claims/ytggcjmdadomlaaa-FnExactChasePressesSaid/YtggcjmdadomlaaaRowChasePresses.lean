/-
ChasePresses answers as its model at every four numbers and bool. No condition.
-/
import Derived.Test.YtggcjmdadomlaaaRG
import Derived.Test.YtggcjmdadomlaaaP
import Derived.Test.YtggcjmdadomlaaaQ1
namespace Go.Proofs.Ytggcjmdadomlaaa
open Go.ChangeShapes Go.WideShapes Go.ChangeAt Go.RowKit
set_option maxRecDepth 100000 in
theorem chasePresses_lifted (os : Os) (started : os.Started) (H : Type) (enc : TypeId × Value → H) :
    ReturnsInHanded {} Try.checked os 3 .any (Rows.fnExactChasePressesSpec.pre6 enc Try.prog Try.f3 Rows.fnExactChasePressesRow.domain false) (Rows.fnExactChasePressesSpec.post enc Try.prog Try.f3 false true false false) := by
  refine returnsInHanded_of_change (C := Try.checked) Try.own started (by kernel_rfl) Try.func3
    (ChangeSpec.witness6 (enc := enc) (C := Try.checked) false ⟨#[], #[.int .i64 0, .int .i64 0, .bool false, .int .i64 0, .int .i64 0], []⟩ 8 (by kernel_rfl) (by kernel_rfl) (by kernel_rfl) (by kernel_rfl)) ?_
  intro W base args ds gs before hval0 hW hcnd _
  have hval : ∀ (j : Nat) t v, Try.f3.params[j]? = some t → args[j]? = some v → Value.okWide Try.prog W .any base t v := hval0
  have hW' := hW
  obtain ⟨p, q, hA0, hV, rfl, hfz, hnd⟩ := hW
  have hA : DataW.TrodAll enc Try.prog W 0 (fun _ => true) true Try.f3.params.toList args.toList ds p := hA0
  rw [Try.params3] at hA hval
  obtain ⟨v0, v1, v2, v3, v4, d0, d1, d2, d3, d4, p0, p1, p2, p3, p4, rfl, rfl, rfl, h0, h1, h2, h3, h4⟩ := trodAll_five hA
  obtain ⟨rfl, rfl⟩ := trodVars_none hV
  obtain ⟨a0, rfl, rfl, rfl, wa0⟩ := open_int Try.underlying3 (hval 0 3 v0 rfl rfl) h0
  obtain ⟨a1, rfl, rfl, rfl, wa1⟩ := open_int Try.underlying3 (hval 1 3 v1 rfl rfl) h1
  obtain ⟨b2, rfl, rfl, rfl⟩ := open_bool Try.underlying4 (hval 2 4 v2 rfl rfl) h2
  obtain ⟨a3, rfl, rfl, rfl, wa3⟩ := open_int Try.underlying3 (hval 3 3 v3 rfl rfl) h3
  obtain ⟨a4, rfl, rfl, rfl, wa4⟩ := open_int Try.underlying3 (hval 4 3 v4 rfl rfl) h4
  clear hA0 hval0
  simp only [List.append_nil] at hW'
  refine (lawPresses a0 a1 b2 a3 a4 W).mono fun e W' ⟨he, hb⟩ => ?_
  subst he
  exact ⟨_, rfl, post_of_below (pa := []) (pv := []) hW' (fun _ _ _ => trodAll_mk1 (shut_bool Try.underlying4 true))
    (fun sp hsp => trodAll_mk5 (shut_int Try.underlying3 wa0) (shut_int Try.underlying3 wa1) (shut_bool Try.underlying4 b2) (shut_int Try.underlying3 wa3) (shut_int Try.underlying3 wa4)) (fun _ _ => rfl) (by simp) hb
    (ok_one (by kernel_rfl) rfl (okWide_bool_mk Try.underlying4 true))⟩
theorem chasePresses_k0 : (Rows.fnExactChasePressesRow.wf (OpenSpec.ofChange Rows.fnExactChasePressesSpec)) = true := by kernel_rfl
theorem chasePresses_k1 : (laidOutB Try.pinned.checked.prog) = true := by kernel_rfl
theorem chasePresses_k2 : (mapsRowed Try.pinned.checked.prog) = true := by kernel_rfl
theorem chasePresses_k3 : (Try.f3.params.all (Try.pinned.checked.prog.readableRec ·)) = true := by kernel_rfl
theorem chasePresses_k4 : (namedTie Try.pinned.checked.prog Rows.fnExactChasePressesRow.named Rows.fnExactChasePressesSpec.vars) = true := by kernel_rfl
theorem chasePresses_k5 : ((Rows.fnExactChasePressesRow.stops == [])) = true := by kernel_rfl
theorem chasePresses_k6 : ((Try.pinned.checked.prog.stops == [])) = true := by kernel_rfl
theorem chasePresses_k7 : ((Rows.fnExactChasePressesRow.knobs == [])) = true := by kernel_rfl
theorem chasePresses_k8 : ((Try.pinned.checked.prog.stopKnobs == [])) = true := by kernel_rfl
theorem chasePresses_k9 : ((Rows.fnExactChasePressesRow.inPlace == Try.pinned.checked.prog.inPlace 3)) = true := by kernel_rfl
theorem chasePresses_k10 : ((Rows.fnExactChasePressesRow.unfollowed == Try.pinned.checked.prog.unfollowed 3)) = true := by kernel_rfl
theorem chasePresses_k11 : ((Rows.fnExactChasePressesRow.recurses == Try.pinned.checked.prog.recurses 3)) = true := by kernel_rfl
theorem chasePresses_k12 : ((Rows.fnExactChasePressesRow.named == Try.pinned.checked.prog.varsNamed 3)) = true := by kernel_rfl
theorem chasePresses_k13 : ((Rows.fnExactChasePressesRow.maps == (Try.f3.params.toList ++ Rows.fnExactChasePressesSpec.plain.varTypes Try.pinned.checked.prog).any (Try.pinned.checked.prog.mapsRec ·))) = true := by kernel_rfl
theorem chasePresses_k14 : ((Rows.fnExactChasePressesRow.ifaces == (Try.f3.params.toList ++ Rows.fnExactChasePressesSpec.plain.varTypes Try.pinned.checked.prog).any (Try.pinned.checked.prog.ifacesRec ·))) = true := by kernel_rfl
theorem chasePresses_k15 : ((Rows.fnExactChasePressesRow.mapsOut == Try.pinned.checked.prog.mapsAmong Try.f3.resultTypes.toList)) = true := by kernel_rfl
theorem chasePresses_k16 : ((Rows.fnExactChasePressesRow.loops == (Try.f3.params.toList ++ Rows.fnExactChasePressesSpec.plain.varTypes Try.pinned.checked.prog).any (Try.pinned.checked.prog.loopsFrom ·))) = true := by kernel_rfl
theorem chasePresses_k17 : ((Rows.fnExactChasePressesRow.wideKeys == (Try.f3.params.toList ++ Rows.fnExactChasePressesSpec.plain.varTypes Try.pinned.checked.prog ++ Try.f3.resultTypes.toList).any (Try.pinned.checked.prog.wideKeysFrom ·))) = true := by kernel_rfl
theorem chasePresses_k18 : (Rows.fnExactChasePressesSpec.vars.all (Try.pinned.checked.prog.varReadable ·)) = true := by kernel_rfl
theorem chasePresses_k19 : (Try.f3.resultTypes.all (fun t => Try.pinned.checked.prog.readableRec t && decide (t < Try.pinned.checked.prog.types.size))) = true := by kernel_rfl
theorem chasePresses_k20 : ((Rows.fnExactChasePressesRow.ifacesOut == Try.f3.resultTypes.toList.any (Try.pinned.checked.prog.ifacesRec ·))) = true := by kernel_rfl
theorem chasePresses_k21 : ((Rows.fnExactChasePressesRow.loopsOut == Try.f3.resultTypes.toList.any (Try.pinned.checked.prog.loopsFrom ·))) = true := by kernel_rfl
theorem chasePresses_k22 : ((Rows.fnExactChasePressesRow.plainKeys == Try.pinned.checked.prog.plainKeys)) = true := by kernel_rfl
theorem chasePresses_k23 : (Rows.fnExactChasePressesRow.shortTexts.isNone) = true := by kernel_rfl
theorem chasePresses_k24 : (Try.pinned.checked.prog.stopsHeard) = true := by kernel_rfl
theorem chasePresses_k25 : (Try.pinned.checked.prog.mayEnter) = true := x_enter
theorem chasePresses_k26 : ((Rows.fnExactChasePressesRow.lifted == Try.pinned.checked.prog.liftsFinal)) = true := by rw [x_lifts]; rfl
theorem chasePresses_k27 : ((Try.pinned.checked.prog.make == some Rows.fnExactChasePressesRow.make)) = true := by rw [x_make]; rfl
theorem chasePresses_k28 : ((Rows.fnExactChasePressesRow.kinds == (if Rows.fnExactChasePressesRow.domain.isEmpty then [] else Try.f3.params.toList.map fun t => match Try.pinned.checked.prog.underlying t with | some (.int k) => some k | _ => none))) = true := by kernel_rfl
theorem chasePresses_k29 : ((Rows.fnExactChasePressesRow.pinned == Rows.fnExactChasePressesRow.pinnedBy)) = true := by kernel_rfl
theorem chasePresses_k30 : ((Rows.fnExactChasePressesRow.veiled == (Try.f3.params.toList ++ Rows.fnExactChasePressesSpec.plain.varTypes Try.pinned.checked.prog ++ Try.f3.resultTypes.toList).any (Try.pinned.checked.prog.veiledRec ·))) = true := by kernel_rfl
theorem chasePresses_k31 : (Rows.fnExactChasePressesRow.veiledFits Try.pinned.checked.prog Try.f3.params.toList (Try.f3.params.toList ++ Rows.fnExactChasePressesSpec.plain.varTypes Try.pinned.checked.prog ++ Try.f3.resultTypes.toList)) = true := by kernel_rfl
theorem chasePresses_pkg : decide (Check.packageOf Try.f3.name = "main") = false := by kernel_rfl
theorem chasePresses_inst : Func.isInstance Try.pinned.checked.prog Try.f3 Rows.fnExactChasePressesRow.origin Rows.fnExactChasePressesRow.targs := of_decide_eq_true (by kernel_rfl)
theorem chasePresses_wrap : Func.isWrapper Try.pinned.checked.prog Try.f3 Rows.fnExactChasePressesRow.wrapper Rows.fnExactChasePressesRow.mainSum := by
  unfold Func.isWrapper; rw [if_neg (of_decide_eq_false chasePresses_pkg)]; exact ⟨rfl, rfl⟩
set_option maxRecDepth 100000 in
theorem chasePresses_closed : joinedFacts Try.pinned.checked.prog 3 Try.f3 Rows.fnExactChasePressesSpec Rows.fnExactChasePressesRow = true :=
  (and_of (and_of (and_of (and_of (and_of (and_of (and_of (and_of (and_of (and_of (and_of (and_of (and_of (and_of (and_of (and_of (and_of (and_of (and_of (and_of (and_of (and_of (and_of (and_of (and_of (and_of (and_of (and_of (and_of (and_of (and_of chasePresses_k0 chasePresses_k1) chasePresses_k2) chasePresses_k3) chasePresses_k4) chasePresses_k5) chasePresses_k6) chasePresses_k7) chasePresses_k8) chasePresses_k9) chasePresses_k10) chasePresses_k11) chasePresses_k12) chasePresses_k13) chasePresses_k14) chasePresses_k15) chasePresses_k16) chasePresses_k17) chasePresses_k18) chasePresses_k19) chasePresses_k20) chasePresses_k21) chasePresses_k22) chasePresses_k23) chasePresses_k24) chasePresses_k25) chasePresses_k26) chasePresses_k27) chasePresses_k28) chasePresses_k29) chasePresses_k30) chasePresses_k31)
theorem chasePresses_holds : Rows.FnExactChasePressesSaid :=
  OpenClaim.holds_of_wide 3 Try.f3 rfl rfl rfl rfl rfl rfl rfl ⟨rfl, rfl, rfl, rfl, rfl⟩ rfl rfl rfl rfl rfl (by kernel_rfl) Try.func3 chasePresses_closed
    chasePresses_inst chasePresses_wrap (fun os started H enc _ => chasePresses_lifted os started H enc)
end Go.Proofs.Ytggcjmdadomlaaa
