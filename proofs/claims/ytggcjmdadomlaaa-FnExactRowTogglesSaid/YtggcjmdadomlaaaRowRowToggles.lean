/-
RowToggles answers as its model at every two numbers and bool. No condition.
-/
import Derived.Test.YtggcjmdadomlaaaRH
import Derived.Test.YtggcjmdadomlaaaP
import Derived.Test.YtggcjmdadomlaaaQ1
namespace Go.Proofs.Ytggcjmdadomlaaa
open Go.ChangeShapes Go.WideShapes Go.ChangeAt Go.RowKit
set_option maxRecDepth 100000 in
theorem rowToggles_lifted (os : Os) (started : os.Started) (H : Type) (enc : TypeId × Value → H) :
    ReturnsInHanded {} Try.checked os 14 .any (Rows.fnExactRowTogglesSpec.pre6 enc Try.prog Try.f14 Rows.fnExactRowTogglesRow.domain false) (Rows.fnExactRowTogglesSpec.post enc Try.prog Try.f14 false true false false) := by
  refine returnsInHanded_of_change (C := Try.checked) Try.own started (by kernel_rfl) Try.func14
    (ChangeSpec.witness6 (enc := enc) (C := Try.checked) false ⟨#[], #[.int .i64 0, .bool false, .int .i64 0], []⟩ 8 (by kernel_rfl) (by kernel_rfl) (by kernel_rfl) (by kernel_rfl)) ?_
  intro W base args ds gs before hval0 hW hcnd _
  have hval : ∀ (j : Nat) t v, Try.f14.params[j]? = some t → args[j]? = some v → Value.okWide Try.prog W .any base t v := hval0
  have hW' := hW
  obtain ⟨p, q, hA0, hV, rfl, hfz, hnd⟩ := hW
  have hA : DataW.TrodAll enc Try.prog W 0 (fun _ => true) true Try.f14.params.toList args.toList ds p := hA0
  rw [Try.params14] at hA hval
  obtain ⟨v0, v1, v2, d0, d1, d2, p0, p1, p2, rfl, rfl, rfl, h0, h1, h2⟩ := trodAll_three hA
  obtain ⟨rfl, rfl⟩ := trodVars_none hV
  obtain ⟨a0, rfl, rfl, rfl, wa0⟩ := open_int Try.underlying3 (hval 0 3 v0 rfl rfl) h0
  obtain ⟨b1, rfl, rfl, rfl⟩ := open_bool Try.underlying4 (hval 1 4 v1 rfl rfl) h1
  obtain ⟨a2, rfl, rfl, rfl, wa2⟩ := open_int Try.underlying3 (hval 2 3 v2 rfl rfl) h2
  clear hA0 hval0
  simp only [List.append_nil] at hW'
  refine (lawToggles a0 b1 a2 W).mono fun e W' ⟨he, hb⟩ => ?_
  subst he
  exact ⟨_, rfl, post_of_below (pa := []) (pv := []) hW' (fun _ _ _ => trodAll_mk1 (shut_bool Try.underlying4 true))
    (fun sp hsp => trodAll_mk3 (shut_int Try.underlying3 wa0) (shut_bool Try.underlying4 b1) (shut_int Try.underlying3 wa2)) (fun _ _ => rfl) (by simp) hb
    (ok_one (by kernel_rfl) rfl (okWide_bool_mk Try.underlying4 true))⟩
theorem rowToggles_k0 : (Rows.fnExactRowTogglesRow.wf (OpenSpec.ofChange Rows.fnExactRowTogglesSpec)) = true := by kernel_rfl
theorem rowToggles_k1 : (laidOutB Try.pinned.checked.prog) = true := by kernel_rfl
theorem rowToggles_k2 : (mapsRowed Try.pinned.checked.prog) = true := by kernel_rfl
theorem rowToggles_k3 : (Try.f14.params.all (Try.pinned.checked.prog.readableRec ·)) = true := by kernel_rfl
theorem rowToggles_k4 : (namedTie Try.pinned.checked.prog Rows.fnExactRowTogglesRow.named Rows.fnExactRowTogglesSpec.vars) = true := by kernel_rfl
theorem rowToggles_k5 : ((Rows.fnExactRowTogglesRow.stops == [])) = true := by kernel_rfl
theorem rowToggles_k6 : ((Try.pinned.checked.prog.stops == [])) = true := by kernel_rfl
theorem rowToggles_k7 : ((Rows.fnExactRowTogglesRow.knobs == [])) = true := by kernel_rfl
theorem rowToggles_k8 : ((Try.pinned.checked.prog.stopKnobs == [])) = true := by kernel_rfl
theorem rowToggles_k9 : ((Rows.fnExactRowTogglesRow.inPlace == Try.pinned.checked.prog.inPlace 14)) = true := by kernel_rfl
theorem rowToggles_k10 : ((Rows.fnExactRowTogglesRow.unfollowed == Try.pinned.checked.prog.unfollowed 14)) = true := by kernel_rfl
theorem rowToggles_k11 : ((Rows.fnExactRowTogglesRow.recurses == Try.pinned.checked.prog.recurses 14)) = true := by kernel_rfl
theorem rowToggles_k12 : ((Rows.fnExactRowTogglesRow.named == Try.pinned.checked.prog.varsNamed 14)) = true := by kernel_rfl
theorem rowToggles_k13 : ((Rows.fnExactRowTogglesRow.maps == (Try.f14.params.toList ++ Rows.fnExactRowTogglesSpec.plain.varTypes Try.pinned.checked.prog).any (Try.pinned.checked.prog.mapsRec ·))) = true := by kernel_rfl
theorem rowToggles_k14 : ((Rows.fnExactRowTogglesRow.ifaces == (Try.f14.params.toList ++ Rows.fnExactRowTogglesSpec.plain.varTypes Try.pinned.checked.prog).any (Try.pinned.checked.prog.ifacesRec ·))) = true := by kernel_rfl
theorem rowToggles_k15 : ((Rows.fnExactRowTogglesRow.mapsOut == Try.pinned.checked.prog.mapsAmong Try.f14.resultTypes.toList)) = true := by kernel_rfl
theorem rowToggles_k16 : ((Rows.fnExactRowTogglesRow.loops == (Try.f14.params.toList ++ Rows.fnExactRowTogglesSpec.plain.varTypes Try.pinned.checked.prog).any (Try.pinned.checked.prog.loopsFrom ·))) = true := by kernel_rfl
theorem rowToggles_k17 : ((Rows.fnExactRowTogglesRow.wideKeys == (Try.f14.params.toList ++ Rows.fnExactRowTogglesSpec.plain.varTypes Try.pinned.checked.prog ++ Try.f14.resultTypes.toList).any (Try.pinned.checked.prog.wideKeysFrom ·))) = true := by kernel_rfl
theorem rowToggles_k18 : (Rows.fnExactRowTogglesSpec.vars.all (Try.pinned.checked.prog.varReadable ·)) = true := by kernel_rfl
theorem rowToggles_k19 : (Try.f14.resultTypes.all (fun t => Try.pinned.checked.prog.readableRec t && decide (t < Try.pinned.checked.prog.types.size))) = true := by kernel_rfl
theorem rowToggles_k20 : ((Rows.fnExactRowTogglesRow.ifacesOut == Try.f14.resultTypes.toList.any (Try.pinned.checked.prog.ifacesRec ·))) = true := by kernel_rfl
theorem rowToggles_k21 : ((Rows.fnExactRowTogglesRow.loopsOut == Try.f14.resultTypes.toList.any (Try.pinned.checked.prog.loopsFrom ·))) = true := by kernel_rfl
theorem rowToggles_k22 : ((Rows.fnExactRowTogglesRow.plainKeys == Try.pinned.checked.prog.plainKeys)) = true := by kernel_rfl
theorem rowToggles_k23 : (Rows.fnExactRowTogglesRow.shortTexts.isNone) = true := by kernel_rfl
theorem rowToggles_k24 : (Try.pinned.checked.prog.stopsHeard) = true := by kernel_rfl
theorem rowToggles_k25 : (Try.pinned.checked.prog.mayEnter) = true := x_enter
theorem rowToggles_k26 : ((Rows.fnExactRowTogglesRow.lifted == Try.pinned.checked.prog.liftsFinal)) = true := by rw [x_lifts]; rfl
theorem rowToggles_k27 : ((Try.pinned.checked.prog.make == some Rows.fnExactRowTogglesRow.make)) = true := by rw [x_make]; rfl
theorem rowToggles_k28 : ((Rows.fnExactRowTogglesRow.kinds == (if Rows.fnExactRowTogglesRow.domain.isEmpty then [] else Try.f14.params.toList.map fun t => match Try.pinned.checked.prog.underlying t with | some (.int k) => some k | _ => none))) = true := by kernel_rfl
theorem rowToggles_k29 : ((Rows.fnExactRowTogglesRow.pinned == Rows.fnExactRowTogglesRow.pinnedBy)) = true := by kernel_rfl
theorem rowToggles_k30 : ((Rows.fnExactRowTogglesRow.veiled == (Try.f14.params.toList ++ Rows.fnExactRowTogglesSpec.plain.varTypes Try.pinned.checked.prog ++ Try.f14.resultTypes.toList).any (Try.pinned.checked.prog.veiledRec ·))) = true := by kernel_rfl
theorem rowToggles_k31 : (Rows.fnExactRowTogglesRow.veiledFits Try.pinned.checked.prog Try.f14.params.toList (Try.f14.params.toList ++ Rows.fnExactRowTogglesSpec.plain.varTypes Try.pinned.checked.prog ++ Try.f14.resultTypes.toList)) = true := by kernel_rfl
theorem rowToggles_pkg : decide (Check.packageOf Try.f14.name = "main") = false := by kernel_rfl
theorem rowToggles_inst : Func.isInstance Try.pinned.checked.prog Try.f14 Rows.fnExactRowTogglesRow.origin Rows.fnExactRowTogglesRow.targs := of_decide_eq_true (by kernel_rfl)
theorem rowToggles_wrap : Func.isWrapper Try.pinned.checked.prog Try.f14 Rows.fnExactRowTogglesRow.wrapper Rows.fnExactRowTogglesRow.mainSum := by
  unfold Func.isWrapper; rw [if_neg (of_decide_eq_false rowToggles_pkg)]; exact ⟨rfl, rfl⟩
set_option maxRecDepth 100000 in
theorem rowToggles_closed : joinedFacts Try.pinned.checked.prog 14 Try.f14 Rows.fnExactRowTogglesSpec Rows.fnExactRowTogglesRow = true :=
  (and_of (and_of (and_of (and_of (and_of (and_of (and_of (and_of (and_of (and_of (and_of (and_of (and_of (and_of (and_of (and_of (and_of (and_of (and_of (and_of (and_of (and_of (and_of (and_of (and_of (and_of (and_of (and_of (and_of (and_of (and_of rowToggles_k0 rowToggles_k1) rowToggles_k2) rowToggles_k3) rowToggles_k4) rowToggles_k5) rowToggles_k6) rowToggles_k7) rowToggles_k8) rowToggles_k9) rowToggles_k10) rowToggles_k11) rowToggles_k12) rowToggles_k13) rowToggles_k14) rowToggles_k15) rowToggles_k16) rowToggles_k17) rowToggles_k18) rowToggles_k19) rowToggles_k20) rowToggles_k21) rowToggles_k22) rowToggles_k23) rowToggles_k24) rowToggles_k25) rowToggles_k26) rowToggles_k27) rowToggles_k28) rowToggles_k29) rowToggles_k30) rowToggles_k31)
theorem rowToggles_holds : Rows.FnExactRowTogglesSaid :=
  OpenClaim.holds_of_wide 14 Try.f14 rfl rfl rfl rfl rfl rfl rfl ⟨rfl, rfl, rfl, rfl, rfl⟩ rfl rfl rfl rfl rfl (by kernel_rfl) Try.func14 rowToggles_closed
    rowToggles_inst rowToggles_wrap (fun os started H enc _ => rowToggles_lifted os started H enc)
end Go.Proofs.Ytggcjmdadomlaaa
