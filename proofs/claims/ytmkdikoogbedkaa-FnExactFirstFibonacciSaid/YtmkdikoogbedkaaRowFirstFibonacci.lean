/-
FirstFibonacci answers as its model at every number. No condition.
-/
import Derived.Test.YtmkdikoogbedkaaTR
import Derived.Test.YtmkdikoogbedkaaP
import Derived.Test.YtmkdikoogbedkaaQ1
namespace Go.Proofs.Ytmkdikoogbedkaa
open Go.ChangeShapes Go.WideShapes Go.ChangeAt Go.RowKit
set_option maxRecDepth 100000 in
theorem firstFibonacci_lifted (os : Os) (started : os.Started) (H : Type) (enc : TypeId × Value → H) :
    ReturnsInHanded {} Try.checked os 13 .any (Rows.fnExactFirstFibonacciSpec.pre6 enc Try.prog Try.f13 Rows.fnExactFirstFibonacciRow.domain false) (Rows.fnExactFirstFibonacciSpec.post enc Try.prog Try.f13 false true false false) := by
  refine returnsInHanded_of_change (C := Try.checked) Try.own started (by kernel_rfl) Try.func13
    (ChangeSpec.witness6 (enc := enc) (C := Try.checked) false ⟨#[], #[.int .i64 0], []⟩ 8 (by kernel_rfl) (by kernel_rfl) (by kernel_rfl) (by kernel_rfl)) ?_
  intro W base args ds gs before hval0 hW hcnd _
  have hval : ∀ (j : Nat) t v, Try.f13.params[j]? = some t → args[j]? = some v → Value.okWide Try.prog W .any base t v := hval0
  have hW' := hW
  obtain ⟨p, q, hA0, hV, rfl, hfz, hnd⟩ := hW
  have hA : DataW.TrodAll enc Try.prog W 0 (fun _ => true) true Try.f13.params.toList args.toList ds p := hA0
  rw [Try.params13] at hA hval
  obtain ⟨v0, d0, rfl, rfl, h0⟩ := trodAll_one hA
  obtain ⟨rfl, rfl⟩ := trodVars_none hV
  obtain ⟨a0, rfl, rfl, rfl, wa0⟩ := open_int Try.underlying3 (hval 0 3 v0 rfl rfl) h0
  clear hA0 hval0
  simp only [List.append_nil] at hW'
  refine (lawFirst a0 W).mono fun e W' ⟨he, hb⟩ => ?_
  subst he
  exact ⟨_, rfl, post_of_below (pa := []) (pv := []) hW' (fun _ _ _ => trodAll_mk1 (shut_bool Try.underlying4 true))
    (fun sp hsp => trodAll_mk1 (shut_int Try.underlying3 wa0)) (fun _ _ => rfl) (by simp) hb
    (ok_one (by kernel_rfl) rfl (okWide_bool_mk Try.underlying4 true))⟩
theorem firstFibonacci_k0 : (Rows.fnExactFirstFibonacciRow.wf (OpenSpec.ofChange Rows.fnExactFirstFibonacciSpec)) = true := by kernel_rfl
theorem firstFibonacci_k1 : (laidOutB Try.pinned.checked.prog) = true := by kernel_rfl
theorem firstFibonacci_k2 : (mapsRowed Try.pinned.checked.prog) = true := by kernel_rfl
theorem firstFibonacci_k3 : (Try.f13.params.all (Try.pinned.checked.prog.readableRec ·)) = true := by kernel_rfl
theorem firstFibonacci_k4 : (namedTie Try.pinned.checked.prog Rows.fnExactFirstFibonacciRow.named Rows.fnExactFirstFibonacciSpec.vars) = true := by kernel_rfl
theorem firstFibonacci_k5 : ((Rows.fnExactFirstFibonacciRow.stops == [])) = true := by kernel_rfl
theorem firstFibonacci_k6 : ((Try.pinned.checked.prog.stops == [])) = true := by kernel_rfl
theorem firstFibonacci_k7 : ((Rows.fnExactFirstFibonacciRow.knobs == [])) = true := by kernel_rfl
theorem firstFibonacci_k8 : ((Try.pinned.checked.prog.stopKnobs == [])) = true := by kernel_rfl
theorem firstFibonacci_k9 : ((Rows.fnExactFirstFibonacciRow.inPlace == Try.pinned.checked.prog.inPlace 13)) = true := by kernel_rfl
theorem firstFibonacci_k10 : ((Rows.fnExactFirstFibonacciRow.unfollowed == Try.pinned.checked.prog.unfollowed 13)) = true := by kernel_rfl
theorem firstFibonacci_k11 : ((Rows.fnExactFirstFibonacciRow.recurses == Try.pinned.checked.prog.recurses 13)) = true := by kernel_rfl
theorem firstFibonacci_k12 : ((Rows.fnExactFirstFibonacciRow.named == Try.pinned.checked.prog.varsNamed 13)) = true := by kernel_rfl
theorem firstFibonacci_k13 : ((Rows.fnExactFirstFibonacciRow.maps == (Try.f13.params.toList ++ Rows.fnExactFirstFibonacciSpec.plain.varTypes Try.pinned.checked.prog).any (Try.pinned.checked.prog.mapsRec ·))) = true := by kernel_rfl
theorem firstFibonacci_k14 : ((Rows.fnExactFirstFibonacciRow.ifaces == (Try.f13.params.toList ++ Rows.fnExactFirstFibonacciSpec.plain.varTypes Try.pinned.checked.prog).any (Try.pinned.checked.prog.ifacesRec ·))) = true := by kernel_rfl
theorem firstFibonacci_k15 : ((Rows.fnExactFirstFibonacciRow.mapsOut == Try.pinned.checked.prog.mapsAmong Try.f13.resultTypes.toList)) = true := by kernel_rfl
theorem firstFibonacci_k16 : ((Rows.fnExactFirstFibonacciRow.loops == (Try.f13.params.toList ++ Rows.fnExactFirstFibonacciSpec.plain.varTypes Try.pinned.checked.prog).any (Try.pinned.checked.prog.loopsFrom ·))) = true := by kernel_rfl
theorem firstFibonacci_k17 : ((Rows.fnExactFirstFibonacciRow.wideKeys == (Try.f13.params.toList ++ Rows.fnExactFirstFibonacciSpec.plain.varTypes Try.pinned.checked.prog ++ Try.f13.resultTypes.toList).any (Try.pinned.checked.prog.wideKeysFrom ·))) = true := by kernel_rfl
theorem firstFibonacci_k18 : (Rows.fnExactFirstFibonacciSpec.vars.all (Try.pinned.checked.prog.varReadable ·)) = true := by kernel_rfl
theorem firstFibonacci_k19 : (Try.f13.resultTypes.all (fun t => Try.pinned.checked.prog.readableRec t && decide (t < Try.pinned.checked.prog.types.size))) = true := by kernel_rfl
theorem firstFibonacci_k20 : ((Rows.fnExactFirstFibonacciRow.ifacesOut == Try.f13.resultTypes.toList.any (Try.pinned.checked.prog.ifacesRec ·))) = true := by kernel_rfl
theorem firstFibonacci_k21 : ((Rows.fnExactFirstFibonacciRow.loopsOut == Try.f13.resultTypes.toList.any (Try.pinned.checked.prog.loopsFrom ·))) = true := by kernel_rfl
theorem firstFibonacci_k22 : ((Rows.fnExactFirstFibonacciRow.plainKeys == Try.pinned.checked.prog.plainKeys)) = true := by kernel_rfl
theorem firstFibonacci_k23 : (Rows.fnExactFirstFibonacciRow.shortTexts.isNone) = true := by kernel_rfl
theorem firstFibonacci_k24 : (Try.pinned.checked.prog.stopsHeard) = true := by kernel_rfl
theorem firstFibonacci_k25 : (Try.pinned.checked.prog.mayEnter) = true := x_enter
theorem firstFibonacci_k26 : ((Rows.fnExactFirstFibonacciRow.lifted == Try.pinned.checked.prog.liftsFinal)) = true := by rw [x_lifts]; rfl
theorem firstFibonacci_k27 : ((Try.pinned.checked.prog.make == some Rows.fnExactFirstFibonacciRow.make)) = true := by rw [x_make]; rfl
theorem firstFibonacci_k28 : ((Rows.fnExactFirstFibonacciRow.kinds == (if Rows.fnExactFirstFibonacciRow.domain.isEmpty then [] else Try.f13.params.toList.map fun t => match Try.pinned.checked.prog.underlying t with | some (.int k) => some k | _ => none))) = true := by kernel_rfl
theorem firstFibonacci_k29 : ((Rows.fnExactFirstFibonacciRow.pinned == Rows.fnExactFirstFibonacciRow.pinnedBy)) = true := by kernel_rfl
theorem firstFibonacci_k30 : ((Rows.fnExactFirstFibonacciRow.veiled == (Try.f13.params.toList ++ Rows.fnExactFirstFibonacciSpec.plain.varTypes Try.pinned.checked.prog ++ Try.f13.resultTypes.toList).any (Try.pinned.checked.prog.veiledRec ·))) = true := by kernel_rfl
theorem firstFibonacci_k31 : (Rows.fnExactFirstFibonacciRow.veiledFits Try.pinned.checked.prog Try.f13.params.toList (Try.f13.params.toList ++ Rows.fnExactFirstFibonacciSpec.plain.varTypes Try.pinned.checked.prog ++ Try.f13.resultTypes.toList)) = true := by kernel_rfl
theorem firstFibonacci_pkg : decide (Check.packageOf Try.f13.name = "main") = false := by kernel_rfl
theorem firstFibonacci_inst : Func.isInstance Try.pinned.checked.prog Try.f13 Rows.fnExactFirstFibonacciRow.origin Rows.fnExactFirstFibonacciRow.targs := of_decide_eq_true (by kernel_rfl)
theorem firstFibonacci_wrap : Func.isWrapper Try.pinned.checked.prog Try.f13 Rows.fnExactFirstFibonacciRow.wrapper Rows.fnExactFirstFibonacciRow.mainSum := by
  unfold Func.isWrapper; rw [if_neg (of_decide_eq_false firstFibonacci_pkg)]; exact ⟨rfl, rfl⟩
set_option maxRecDepth 100000 in
theorem firstFibonacci_closed : joinedFacts Try.pinned.checked.prog 13 Try.f13 Rows.fnExactFirstFibonacciSpec Rows.fnExactFirstFibonacciRow = true :=
  (and_of (and_of (and_of (and_of (and_of (and_of (and_of (and_of (and_of (and_of (and_of (and_of (and_of (and_of (and_of (and_of (and_of (and_of (and_of (and_of (and_of (and_of (and_of (and_of (and_of (and_of (and_of (and_of (and_of (and_of (and_of firstFibonacci_k0 firstFibonacci_k1) firstFibonacci_k2) firstFibonacci_k3) firstFibonacci_k4) firstFibonacci_k5) firstFibonacci_k6) firstFibonacci_k7) firstFibonacci_k8) firstFibonacci_k9) firstFibonacci_k10) firstFibonacci_k11) firstFibonacci_k12) firstFibonacci_k13) firstFibonacci_k14) firstFibonacci_k15) firstFibonacci_k16) firstFibonacci_k17) firstFibonacci_k18) firstFibonacci_k19) firstFibonacci_k20) firstFibonacci_k21) firstFibonacci_k22) firstFibonacci_k23) firstFibonacci_k24) firstFibonacci_k25) firstFibonacci_k26) firstFibonacci_k27) firstFibonacci_k28) firstFibonacci_k29) firstFibonacci_k30) firstFibonacci_k31)
theorem firstFibonacci_holds : Rows.FnExactFirstFibonacciSaid :=
  OpenClaim.holds_of_wide 13 Try.f13 rfl rfl rfl rfl rfl rfl rfl ⟨rfl, rfl, rfl, rfl, rfl⟩ rfl rfl rfl rfl rfl (by kernel_rfl) Try.func13 firstFibonacci_closed
    firstFibonacci_inst firstFibonacci_wrap (fun os started H enc _ => firstFibonacci_lifted os started H enc)
end Go.Proofs.Ytmkdikoogbedkaa
