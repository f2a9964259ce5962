/-
RowPeriod answers as its model at every two numbers and bool. No condition.
-/
import Derived.Test.YtggcjmdadomlaaaRK
import Derived.Test.YtggcjmdadomlaaaP
import Derived.Test.YtggcjmdadomlaaaQ1
namespace Go.Proofs.Ytggcjmdadomlaaa
open Go.ChangeShapes Go.WideShapes Go.ChangeAt Go.RowKit
set_option maxRecDepth 100000 in
theorem rowPeriod_lifted (os : Os) (started : os.Started) (H : Type) (enc : TypeId × Value → H) :
    ReturnsInHanded {} Try.checked os 10 .any (Rows.fnExactRowPeriodSpec.pre6 enc Try.prog Try.f10 Rows.fnExactRowPeriodRow.domain false) (Rows.fnExactRowPeriodSpec.post enc Try.prog Try.f10 false true false false) := by
  refine returnsInHanded_of_change (C := Try.checked) Try.own started (by kernel_rfl) Try.func10
    (ChangeSpec.witness6 (enc := enc) (C := Try.checked) false ⟨#[], #[.int .i64 0, .bool false, .int .i64 0], []⟩ 8 (by kernel_rfl) (by kernel_rfl) (by kernel_rfl) (by kernel_rfl)) ?_
  intro W base args ds gs before hval0 hW hcnd _
  have hval : ∀ (j : Nat) t v, Try.f10.params[j]? = some t → args[j]? = some v → Value.okWide Try.prog W .any base t v := hval0
  have hW' := hW
  obtain ⟨p, q, hA0, hV, rfl, hfz, hnd⟩ := hW
  have hA : DataW.TrodAll enc Try.prog W 0 (fun _ => true) true Try.f10.params.toList args.toList ds p := hA0
  rw [Try.params10] at hA hval
  obtain ⟨v0, v1, v2, d0, d1, d2, p0, p1, p2, rfl, rfl, rfl, h0, h1, h2⟩ := trodAll_three hA
  obtain ⟨rfl, rfl⟩ := trodVars_none hV
  obtain ⟨a0, rfl, rfl, rfl, wa0⟩ := open_int Try.underlying3 (hval 0 3 v0 rfl rfl) h0
  obtain ⟨b1, rfl, rfl, rfl⟩ := open_bool Try.underlying4 (hval 1 4 v1 rfl rfl) h1
  obtain ⟨a2, rfl, rfl, rfl, wa2⟩ := open_int Try.underlying3 (hval 2 3 v2 rfl rfl) h2
  clear hA0 hval0
  simp only [List.append_nil] at hW'
  refine (lawPeriod a0 b1 a2 W).mono fun e W' ⟨he, hb⟩ => ?_
  subst he
  exact ⟨_, rfl, post_of_below (pa := []) (pv := []) hW' (fun _ _ _ => trodAll_mk1 (shut_bool Try.underlying4 true))
    (fun sp hsp => trodAll_mk3 (shut_int Try.underlying3 wa0) (shut_bool Try.underlying4 b1) (shut_int Try.underlying3 wa2)) (fun _ _ => rfl) (by simp) hb
    (ok_one (by kernel_rfl) rfl (okWide_bool_mk Try.underlying4 true))⟩
theorem rowPeriod_k0 : (Rows.fnExactRowPeriodRow.wf (OpenSpec.ofChange Rows.fnExactRowPeriodSpec)) = true := by kernel_rfl
theorem rowPeriod_k1 : (laidOutB Try.pinned.checked.prog) = true := by kernel_rfl
theorem rowPeriod_k2 : (mapsRowed Try.pinned.checked.prog) = true := by kernel_rfl
theorem rowPeriod_k3 : (Try.f10.params.all (Try.pinned.checked.prog.readableRec ·)) = true := by kernel_rfl
theorem rowPeriod_k4 : (namedTie Try.pinned.checked.prog Rows.fnExactRowPeriodRow.named Rows.fnExactRowPeriodSpec.vars) = true := by kernel_rfl
theorem rowPeriod_k5 : ((Rows.fnExactRowPeriodRow.stops == [])) = true := by kernel_rfl
theorem rowPeriod_k6 : ((Try.pinned.checked.prog.stops == [])) = true := by kernel_rfl
theorem rowPeriod_k7 : ((Rows.fnExactRowPeriodRow.knobs == [])) = true := by kernel_rfl
theorem rowPeriod_k8 : ((Try.pinned.checked.prog.stopKnobs == [])) = true := by kernel_rfl
theorem rowPeriod_k9 : ((Rows.fnExactRowPeriodRow.inPlace == Try.pinned.checked.prog.inPlace 10)) = true := by kernel_rfl
theorem rowPeriod_k10 : ((Rows.fnExactRowPeriodRow.unfollowed == Try.pinned.checked.prog.unfollowed 10)) = true := by kernel_rfl
theorem rowPeriod_k11 : ((Rows.fnExactRowPeriodRow.recurses == Try.pinned.checked.prog.recurses 10)) = true := by kernel_rfl
theorem rowPeriod_k12 : ((Rows.fnExactRowPeriodRow.named == Try.pinned.checked.prog.varsNamed 10)) = true := by kernel_rfl
theorem rowPeriod_k13 : ((Rows.fnExactRowPeriodRow.maps == (Try.f10.params.toList ++ Rows.fnExactRowPeriodSpec.plain.varTypes Try.pinned.checked.prog).any (Try.pinned.checked.prog.mapsRec ·))) = true := by kernel_rfl
theorem rowPeriod_k14 : ((Rows.fnExactRowPeriodRow.ifaces == (Try.f10.params.toList ++ Rows.fnExactRowPeriodSpec.plain.varTypes Try.pinned.checked.prog).any (Try.pinned.checked.prog.ifacesRec ·))) = true := by kernel_rfl
theorem rowPeriod_k15 : ((Rows.fnExactRowPeriodRow.mapsOut == Try.pinned.checked.prog.mapsAmong Try.f10.resultTypes.toList)) = true := by kernel_rfl
theorem rowPeriod_k16 : ((Rows.fnExactRowPeriodRow.loops == (Try.f10.params.toList ++ Rows.fnExactRowPeriodSpec.plain.varTypes Try.pinned.checked.prog).any (Try.pinned.checked.prog.loopsFrom ·))) = true := by kernel_rfl
theorem rowPeriod_k17 : ((Rows.fnExactRowPeriodRow.wideKeys == (Try.f10.params.toList ++ Rows.fnExactRowPeriodSpec.plain.varTypes Try.pinned.checked.prog ++ Try.f10.resultTypes.toList).any (Try.pinned.checked.prog.wideKeysFrom ·))) = true := by kernel_rfl
theorem rowPeriod_k18 : (Rows.fnExactRowPeriodSpec.vars.all (Try.pinned.checked.prog.varReadable ·)) = true := by kernel_rfl
theorem rowPeriod_k19 : (Try.f10.resultTypes.all (fun t => Try.pinned.checked.prog.readableRec t && decide (t < Try.pinned.checked.prog.types.size))) = true := by kernel_rfl
theorem rowPeriod_k20 : ((Rows.fnExactRowPeriodRow.ifacesOut == Try.f10.resultTypes.toList.any (Try.pinned.checked.prog.ifacesRec ·))) = true := by kernel_rfl
theorem rowPeriod_k21 : ((Rows.fnExactRowPeriodRow.loopsOut == Try.f10.resultTypes.toList.any (Try.pinned.checked.prog.loopsFrom ·))) = true := by kernel_rfl
theorem rowPeriod_k22 : ((Rows.fnExactRowPeriodRow.plainKeys == Try.pinned.checked.prog.plainKeys)) = true := by kernel_rfl
theorem rowPeriod_k23 : (Rows.fnExactRowPeriodRow.shortTexts.isNone) = true := by kernel_rfl
theorem rowPeriod_k24 : (Try.pinned.checked.prog.stopsHeard) = true := by kernel_rfl
theorem rowPeriod_k25 : (Try.pinned.checked.prog.mayEnter) = true := x_enter
theorem rowPeriod_k26 : ((Rows.fnExactRowPeriodRow.lifted == Try.pinned.checked.prog.liftsFinal)) = true := by rw [x_lifts]; rfl
theorem rowPeriod_k27 : ((Try.pinned.checked.prog.make == some Rows.fnExactRowPeriodRow.make)) = true := by rw [x_make]; rfl
theorem rowPeriod_k28 : ((Rows.fnExactRowPeriodRow.kinds == (if Rows.fnExactRowPeriodRow.domain.isEmpty then [] else Try.f10.params.toList.map fun t => match Try.pinned.checked.prog.underlying t with | some (.int k) => some k | _ => none))) = true := by kernel_rfl
theorem rowPeriod_k29 : ((Rows.fnExactRowPeriodRow.pinned == Rows.fnExactRowPeriodRow.pinnedBy)) = true := by kernel_rfl
theorem rowPeriod_k30 : ((Rows.fnExactRowPeriodRow.veiled == (Try.f10.params.toList ++ Rows.fnExactRowPeriodSpec.plain.varTypes Try.pinned.checked.prog ++ Try.f10.resultTypes.toList).any (Try.pinned.checked.prog.veiledRec ·))) = true := by kernel_rfl
theorem rowPeriod_k31 : (Rows.fnExactRowPeriodRow.veiledFits Try.pinned.checked.prog Try.f10.params.toList (Try.f10.params.toList ++ Rows.fnExactRowPeriodSpec.plain.varTypes Try.pinned.checked.prog ++ Try.f10.resultTypes.toList)) = true := by kernel_rfl
theorem rowPeriod_pkg : decide (Check.packageOf Try.f10.name = "main") = false := by kernel_rfl
theorem rowPeriod_inst : Func.isInstance Try.pinned.checked.prog Try.f10 Rows.fnExactRowPeriodRow.origin Rows.fnExactRowPeriodRow.targs := of_decide_eq_true (by kernel_rfl)
theorem rowPeriod_wrap : Func.isWrapper Try.pinned.checked.prog Try.f10 Rows.fnExactRowPeriodRow.wrapper Rows.fnExactRowPeriodRow.mainSum := by
  unfold Func.isWrapper; rw [if_neg (of_decide_eq_false rowPeriod_pkg)]; exact ⟨rfl, rfl⟩
set_option maxRecDepth 100000 in
theorem rowPeriod_closed : joinedFacts Try.pinned.checked.prog 10 Try.f10 Rows.fnExactRowPeriodSpec Rows.fnExactRowPeriodRow = true :=
  (and_of (and_of (and_of (and_of (and_of (and_of (and_of (and_of (and_of (and_of (and_of (and_of (and_of (and_of (and_of (and_of (and_of (and_of (and_of (and_of (and_of (and_of (and_of (and_of (and_of (and_of (and_of (and_of (and_of (and_of (and_of rowPeriod_k0 rowPeriod_k1) rowPeriod_k2) rowPeriod_k3) rowPeriod_k4) rowPeriod_k5) rowPeriod_k6) rowPeriod_k7) rowPeriod_k8) rowPeriod_k9) rowPeriod_k10) rowPeriod_k11) rowPeriod_k12) rowPeriod_k13) rowPeriod_k14) rowPeriod_k15) rowPeriod_k16) rowPeriod_k17) rowPeriod_k18) rowPeriod_k19) rowPeriod_k20) rowPeriod_k21) rowPeriod_k22) rowPeriod_k23) rowPeriod_k24) rowPeriod_k25) rowPeriod_k26) rowPeriod_k27) rowPeriod_k28) rowPeriod_k29) rowPeriod_k30) rowPeriod_k31)
theorem rowPeriod_holds : Rows.FnExactRowPeriodSaid :=
  OpenClaim.holds_of_wide 10 Try.f10 rfl rfl rfl rfl rfl rfl rfl ⟨rfl, rfl, rfl, rfl, rfl⟩ rfl rfl rfl rfl rfl (by kernel_rfl) Try.func10 rowPeriod_closed
    rowPeriod_inst rowPeriod_wrap (fun os started H enc _ => rowPeriod_lifted os started H enc)
end Go.Proofs.Ytggcjmdadomlaaa
