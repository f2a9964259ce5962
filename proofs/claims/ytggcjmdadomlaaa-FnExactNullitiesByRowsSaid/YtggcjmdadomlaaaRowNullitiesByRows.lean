/-
NullitiesByRows answers as its model at every two numbers and bool, and its answers share no memory. No condition.
-/
import Derived.Test.YtggcjmdadomlaaaSL3
import Derived.Test.YtggcjmdadomlaaaP
import Derived.Test.YtggcjmdadomlaaaQ1
namespace Go.Proofs.Ytggcjmdadomlaaa
open Go.ChangeShapes Go.WideShapes Go.ChangeAt Go.RowKit
set_option maxRecDepth 100000 in
theorem nullitiesByRows_lifted (os : Os) (started : os.Started) (H : Type) (enc : TypeId × Value → H) :
    ReturnsInHanded {} Try.checked os 13 .any (Rows.fnExactNullitiesByRowsSpec.pre6 enc Try.prog Try.f13 Rows.fnExactNullitiesByRowsRow.domain false) (Rows.fnExactNullitiesByRowsSpec.post enc Try.prog Try.f13 false true false false) := by
  refine returnsInHanded_of_change (C := Try.checked) Try.own started (by kernel_rfl) Try.func13
    (ChangeSpec.witness6 (enc := enc) (C := Try.checked) false ⟨#[], #[.int .i64 0, .bool false, .int .i64 0], []⟩ 8 (by kernel_rfl) (by kernel_rfl) (by kernel_rfl) (by kernel_rfl)) ?_
  intro W base args ds gs before hval0 hW hcnd _
  have hval : ∀ (j : Nat) t v, Try.f13.params[j]? = some t → args[j]? = some v → Value.okWide Try.prog W .any base t v := hval0
  have hW' := hW
  obtain ⟨p, q, hA0, hV, rfl, hfz, hnd⟩ := hW
  have hA : DataW.TrodAll enc Try.prog W 0 (fun _ => true) true Try.f13.params.toList args.toList ds p := hA0
  rw [Try.params13] at hA hval
  obtain ⟨v0, v1, v2, d0, d1, d2, p0, p1, p2, rfl, rfl, rfl, h0, h1, h2⟩ := trodAll_three hA
  obtain ⟨rfl, rfl⟩ := trodVars_none hV
  obtain ⟨a0, rfl, rfl, rfl, wa0⟩ := open_int Try.underlying3 (hval 0 3 v0 rfl rfl) h0
  obtain ⟨b1, rfl, rfl, rfl⟩ := open_bool Try.underlying4 (hval 1 4 v1 rfl rfl) h1
  obtain ⟨a2, rfl, rfl, rfl, wa2⟩ := open_int Try.underlying3 (hval 2 3 v2 rfl rfl) h2
  clear hA0 hval0
  simp only [List.append_nil] at hW'
  refine (lawNullities a0 b1 a2 W).mono fun e W' ⟨he, hb⟩ => ?_
  subst he
  exact ⟨_, rfl, post_of_below (pa := []) (pv := []) hW' (fun _ _ _ => trodAll_mk1 (shut_bool Try.underlying4 true))
    (fun sp hsp => trodAll_mk3 (shut_int Try.underlying3 wa0) (shut_bool Try.underlying4 b1) (shut_int Try.underlying3 wa2)) (fun _ _ => rfl) (by simp) hb
    (ok_one (by kernel_rfl) rfl (okWide_bool_mk Try.underlying4 true))⟩
theorem nullitiesByRows_k0 : (Rows.fnExactNullitiesByRowsRow.wf (OpenSpec.ofChange Rows.fnExactNullitiesByRowsSpec)) = true := by kernel_rfl
theorem nullitiesByRows_k1 : (laidOutB Try.pinned.checked.prog) = true := by kernel_rfl
theorem nullitiesByRows_k2 : (mapsRowed Try.pinned.checked.prog) = true := by kernel_rfl
theorem nullitiesByRows_k3 : (Try.f13.params.all (Try.pinned.checked.prog.readableRec ·)) = true := by kernel_rfl
theorem nullitiesByRows_k4 : (namedTie Try.pinned.checked.prog Rows.fnExactNullitiesByRowsRow.named Rows.fnExactNullitiesByRowsSpec.vars) = true := by kernel_rfl
theorem nullitiesByRows_k5 : ((Rows.fnExactNullitiesByRowsRow.stops == [])) = true := by kernel_rfl
theorem nullitiesByRows_k6 : ((Try.pinned.checked.prog.stops == [])) = true := by kernel_rfl
theorem nullitiesByRows_k7 : ((Rows.fnExactNullitiesByRowsRow.knobs == [])) = true := by kernel_rfl
theorem nullitiesByRows_k8 : ((Try.pinned.checked.prog.stopKnobs == [])) = true := by kernel_rfl
theorem nullitiesByRows_k9 : ((Rows.fnExactNullitiesByRowsRow.inPlace == Try.pinned.checked.prog.inPlace 13)) = true := by kernel_rfl
theorem nullitiesByRows_k10 : ((Rows.fnExactNullitiesByRowsRow.unfollowed == Try.pinned.checked.prog.unfollowed 13)) = true := by kernel_rfl
theorem nullitiesByRows_k11 : ((Rows.fnExactNullitiesByRowsRow.recurses == Try.pinned.checked.prog.recurses 13)) = true := by kernel_rfl
theorem nullitiesByRows_k12 : ((Rows.fnExactNullitiesByRowsRow.named == Try.pinned.checked.prog.varsNamed 13)) = true := by kernel_rfl
theorem nullitiesByRows_k13 : ((Rows.fnExactNullitiesByRowsRow.maps == (Try.f13.params.toList ++ Rows.fnExactNullitiesByRowsSpec.plain.varTypes Try.pinned.checked.prog).any (Try.pinned.checked.prog.mapsRec ·))) = true := by kernel_rfl
theorem nullitiesByRows_k14 : ((Rows.fnExactNullitiesByRowsRow.ifaces == (Try.f13.params.toList ++ Rows.fnExactNullitiesByRowsSpec.plain.varTypes Try.pinned.checked.prog).any (Try.pinned.checked.prog.ifacesRec ·))) = true := by kernel_rfl
theorem nullitiesByRows_k15 : ((Rows.fnExactNullitiesByRowsRow.mapsOut == Try.pinned.checked.prog.mapsAmong Try.f13.resultTypes.toList)) = true := by kernel_rfl
theorem nullitiesByRows_k16 : ((Rows.fnExactNullitiesByRowsRow.loops == (Try.f13.params.toList ++ Rows.fnExactNullitiesByRowsSpec.plain.varTypes Try.pinned.checked.prog).any (Try.pinned.checked.prog.loopsFrom ·))) = true := by kernel_rfl
theorem nullitiesByRows_k17 : ((Rows.fnExactNullitiesByRowsRow.wideKeys == (Try.f13.params.toList ++ Rows.fnExactNullitiesByRowsSpec.plain.varTypes Try.pinned.checked.prog ++ Try.f13.resultTypes.toList).any (Try.pinned.checked.prog.wideKeysFrom ·))) = true := by kernel_rfl
theorem nullitiesByRows_k18 : (Rows.fnExactNullitiesByRowsSpec.vars.all (Try.pinned.checked.prog.varReadable ·)) = true := by kernel_rfl
theorem nullitiesByRows_k19 : (Try.f13.resultTypes.all (fun t => Try.pinned.checked.prog.readableRec t && decide (t < Try.pinned.checked.prog.types.size))) = true := by kernel_rfl
theorem nullitiesByRows_k20 : ((Rows.fnExactNullitiesByRowsRow.ifacesOut == Try.f13.resultTypes.toList.any (Try.pinned.checked.prog.ifacesRec ·))) = true := by kernel_rfl
theorem nullitiesByRows_k21 : ((Rows.fnExactNullitiesByRowsRow.loopsOut == Try.f13.resultTypes.toList.any (Try.pinned.checked.prog.loopsFrom ·))) = true := by kernel_rfl
theorem nullitiesByRows_k22 : ((Rows.fnExactNullitiesByRowsRow.plainKeys == Try.pinned.checked.prog.plainKeys)) = true := by kernel_rfl
theorem nullitiesByRows_k23 : (Rows.fnExactNullitiesByRowsRow.shortTexts.isNone) = true := by kernel_rfl
theorem nullitiesByRows_k24 : (Try.pinned.checked.prog.stopsHeard) = true := by kernel_rfl
theorem nullitiesByRows_k25 : (Try.pinned.checked.prog.mayEnter) = true := x_enter
theorem nullitiesByRows_k26 : ((Rows.fnExactNullitiesByRowsRow.lifted == Try.pinned.checked.prog.liftsFinal)) = true := by rw [x_lifts]; rfl
theorem nullitiesByRows_k27 : ((Try.pinned.checked.prog.make == some Rows.fnExactNullitiesByRowsRow.make)) = true := by rw [x_make]; rfl
theorem nullitiesByRows_k28 : ((Rows.fnExactNullitiesByRowsRow.kinds == (if Rows.fnExactNullitiesByRowsRow.domain.isEmpty then [] else Try.f13.params.toList.map fun t => match Try.pinned.checked.prog.underlying t with | some (.int k) => some k | _ => none))) = true := by kernel_rfl
theorem nullitiesByRows_k29 : ((Rows.fnExactNullitiesByRowsRow.pinned == Rows.fnExactNullitiesByRowsRow.pinnedBy)) = true := by kernel_rfl
theorem nullitiesByRows_k30 : ((Rows.fnExactNullitiesByRowsRow.veiled == (Try.f13.params.toList ++ Rows.fnExactNullitiesByRowsSpec.plain.varTypes Try.pinned.checked.prog ++ Try.f13.resultTypes.toList).any (Try.pinned.checked.prog.veiledRec ·))) = true := by kernel_rfl
theorem nullitiesByRows_k31 : (Rows.fnExactNullitiesByRowsRow.veiledFits Try.pinned.checked.prog Try.f13.params.toList (Try.f13.params.toList ++ Rows.fnExactNullitiesByRowsSpec.plain.varTypes Try.pinned.checked.prog ++ Try.f13.resultTypes.toList)) = true := by kernel_rfl
theorem nullitiesByRows_pkg : decide (Check.packageOf Try.f13.name = "main") = false := by kernel_rfl
theorem nullitiesByRows_inst : Func.isInstance Try.pinned.checked.prog Try.f13 Rows.fnExactNullitiesByRowsRow.origin Rows.fnExactNullitiesByRowsRow.targs := of_decide_eq_true (by kernel_rfl)
theorem nullitiesByRows_wrap : Func.isWrapper Try.pinned.checked.prog Try.f13 Rows.fnExactNullitiesByRowsRow.wrapper Rows.fnExactNullitiesByRowsRow.mainSum := by
  unfold Func.isWrapper; rw [if_neg (of_decide_eq_false nullitiesByRows_pkg)]; exact ⟨rfl, rfl⟩
set_option maxRecDepth 100000 in
theorem nullitiesByRows_closed : joinedFacts Try.pinned.checked.prog 13 Try.f13 Rows.fnExactNullitiesByRowsSpec Rows.fnExactNullitiesByRowsRow = true :=
  (and_of (and_of (and_of (and_of (and_of (and_of (and_of (and_of (and_of (and_of (and_of (and_of (and_of (and_of (and_of (and_of (and_of (and_of (and_of (and_of (and_of (and_of (and_of (and_of (and_of (and_of (and_of (and_of (and_of (and_of (and_of nullitiesByRows_k0 nullitiesByRows_k1) nullitiesByRows_k2) nullitiesByRows_k3) nullitiesByRows_k4) nullitiesByRows_k5) nullitiesByRows_k6) nullitiesByRows_k7) nullitiesByRows_k8) nullitiesByRows_k9) nullitiesByRows_k10) nullitiesByRows_k11) nullitiesByRows_k12) nullitiesByRows_k13) nullitiesByRows_k14) nullitiesByRows_k15) nullitiesByRows_k16) nullitiesByRows_k17) nullitiesByRows_k18) nullitiesByRows_k19) nullitiesByRows_k20) nullitiesByRows_k21) nullitiesByRows_k22) nullitiesByRows_k23) nullitiesByRows_k24) nullitiesByRows_k25) nullitiesByRows_k26) nullitiesByRows_k27) nullitiesByRows_k28) nullitiesByRows_k29) nullitiesByRows_k30) nullitiesByRows_k31)
theorem nullitiesByRows_holds : Rows.FnExactNullitiesByRowsSaid :=
  OpenClaim.holds_of_wide 13 Try.f13 rfl rfl rfl rfl rfl rfl rfl ⟨rfl, rfl, rfl, rfl, rfl⟩ rfl rfl rfl rfl rfl (by kernel_rfl) Try.func13 nullitiesByRows_closed
    nullitiesByRows_inst nullitiesByRows_wrap (fun os started H enc _ => nullitiesByRows_lifted os started H enc)
end Go.Proofs.Ytggcjmdadomlaaa
