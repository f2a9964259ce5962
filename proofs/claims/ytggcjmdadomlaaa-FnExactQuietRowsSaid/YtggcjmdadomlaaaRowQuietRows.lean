/-
QuietRows answers as its model at every three numbers and bool, and its answers share no memory. No condition.
-/
import Derived.Test.YtggcjmdadomlaaaRP
import Derived.Test.YtggcjmdadomlaaaP
import Derived.Test.YtggcjmdadomlaaaQ1
namespace Go.Proofs.Ytggcjmdadomlaaa
open Go.ChangeShapes Go.WideShapes Go.ChangeAt Go.RowKit
set_option maxRecDepth 100000 in
theorem quietRows_lifted (os : Os) (started : os.Started) (H : Type) (enc : TypeId × Value → H) :
    ReturnsInHanded {} Try.checked os 11 .any (Rows.fnExactQuietRowsSpec.pre6 enc Try.prog Try.f11 Rows.fnExactQuietRowsRow.domain false) (Rows.fnExactQuietRowsSpec.post enc Try.prog Try.f11 false true false false) := by
  refine returnsInHanded_of_change (C := Try.checked) Try.own started (by kernel_rfl) Try.func11
    (ChangeSpec.witness6 (enc := enc) (C := Try.checked) false ⟨#[], #[.int .i64 0, .bool false, .int .i64 0, .int .i64 0], []⟩ 8 (by kernel_rfl) (by kernel_rfl) (by kernel_rfl) (by kernel_rfl)) ?_
  intro W base args ds gs before hval0 hW hcnd _
  have hval : ∀ (j : Nat) t v, Try.f11.params[j]? = some t → args[j]? = some v → Value.okWide Try.prog W .any base t v := hval0
  have hW' := hW
  obtain ⟨p, q, hA0, hV, rfl, hfz, hnd⟩ := hW
  have hA : DataW.TrodAll enc Try.prog W 0 (fun _ => true) true Try.f11.params.toList args.toList ds p := hA0
  rw [Try.params11] at hA hval
  obtain ⟨v0, v1, v2, v3, d0, d1, d2, d3, p0, p1, p2, p3, rfl, rfl, rfl, h0, h1, h2, h3⟩ := trodAll_four hA
  obtain ⟨rfl, rfl⟩ := trodVars_none hV
  obtain ⟨a0, rfl, rfl, rfl, wa0⟩ := open_int Try.underlying3 (hval 0 3 v0 rfl rfl) h0
  obtain ⟨b1, rfl, rfl, rfl⟩ := open_bool Try.underlying4 (hval 1 4 v1 rfl rfl) h1
  obtain ⟨a2, rfl, rfl, rfl, wa2⟩ := open_int Try.underlying3 (hval 2 3 v2 rfl rfl) h2
  obtain ⟨a3, rfl, rfl, rfl, wa3⟩ := open_int Try.underlying3 (hval 3 3 v3 rfl rfl) h3
  clear hA0 hval0
  simp only [List.append_nil] at hW'
  refine (lawQuietRows a0 b1 a2 a3 W).mono fun e W' ⟨he, hb⟩ => ?_
  subst he
  exact ⟨_, rfl, post_of_below (pa := []) (pv := []) hW' (fun _ _ _ => trodAll_mk1 (shut_bool Try.underlying4 true))
    (fun sp hsp => trodAll_mk4 (shut_int Try.underlying3 wa0) (shut_bool Try.underlying4 b1) (shut_int Try.underlying3 wa2) (shut_int Try.underlying3 wa3)) (fun _ _ => rfl) (by simp) hb
    (ok_one (by kernel_rfl) rfl (okWide_bool_mk Try.underlying4 true))⟩
theorem quietRows_k0 : (Rows.fnExactQuietRowsRow.wf (OpenSpec.ofChange Rows.fnExactQuietRowsSpec)) = true := by kernel_rfl
theorem quietRows_k1 : (laidOutB Try.pinned.checked.prog) = true := by kernel_rfl
theorem quietRows_k2 : (mapsRowed Try.pinned.checked.prog) = true := by kernel_rfl
theorem quietRows_k3 : (Try.f11.params.all (Try.pinned.checked.prog.readableRec ·)) = true := by kernel_rfl
theorem quietRows_k4 : (namedTie Try.pinned.checked.prog Rows.fnExactQuietRowsRow.named Rows.fnExactQuietRowsSpec.vars) = true := by kernel_rfl
theorem quietRows_k5 : ((Rows.fnExactQuietRowsRow.stops == [])) = true := by kernel_rfl
theorem quietRows_k6 : ((Try.pinned.checked.prog.stops == [])) = true := by kernel_rfl
theorem quietRows_k7 : ((Rows.fnExactQuietRowsRow.knobs == [])) = true := by kernel_rfl
theorem quietRows_k8 : ((Try.pinned.checked.prog.stopKnobs == [])) = true := by kernel_rfl
theorem quietRows_k9 : ((Rows.fnExactQuietRowsRow.inPlace == Try.pinned.checked.prog.inPlace 11)) = true := by kernel_rfl
theorem quietRows_k10 : ((Rows.fnExactQuietRowsRow.unfollowed == Try.pinned.checked.prog.unfollowed 11)) = true := by kernel_rfl
theorem quietRows_k11 : ((Rows.fnExactQuietRowsRow.recurses == Try.pinned.checked.prog.recurses 11)) = true := by kernel_rfl
theorem quietRows_k12 : ((Rows.fnExactQuietRowsRow.named == Try.pinned.checked.prog.varsNamed 11)) = true := by kernel_rfl
theorem quietRows_k13 : ((Rows.fnExactQuietRowsRow.maps == (Try.f11.params.toList ++ Rows.fnExactQuietRowsSpec.plain.varTypes Try.pinned.checked.prog).any (Try.pinned.checked.prog.mapsRec ·))) = true := by kernel_rfl
theorem quietRows_k14 : ((Rows.fnExactQuietRowsRow.ifaces == (Try.f11.params.toList ++ Rows.fnExactQuietRowsSpec.plain.varTypes Try.pinned.checked.prog).any (Try.pinned.checked.prog.ifacesRec ·))) = true := by kernel_rfl
theorem quietRows_k15 : ((Rows.fnExactQuietRowsRow.mapsOut == Try.pinned.checked.prog.mapsAmong Try.f11.resultTypes.toList)) = true := by kernel_rfl
theorem quietRows_k16 : ((Rows.fnExactQuietRowsRow.loops == (Try.f11.params.toList ++ Rows.fnExactQuietRowsSpec.plain.varTypes Try.pinned.checked.prog).any (Try.pinned.checked.prog.loopsFrom ·))) = true := by kernel_rfl
theorem quietRows_k17 : ((Rows.fnExactQuietRowsRow.wideKeys == (Try.f11.params.toList ++ Rows.fnExactQuietRowsSpec.plain.varTypes Try.pinned.checked.prog ++ Try.f11.resultTypes.toList).any (Try.pinned.checked.prog.wideKeysFrom ·))) = true := by kernel_rfl
theorem quietRows_k18 : (Rows.fnExactQuietRowsSpec.vars.all (Try.pinned.checked.prog.varReadable ·)) = true := by kernel_rfl
theorem quietRows_k19 : (Try.f11.resultTypes.all (fun t => Try.pinned.checked.prog.readableRec t && decide (t < Try.pinned.checked.prog.types.size))) = true := by kernel_rfl
theorem quietRows_k20 : ((Rows.fnExactQuietRowsRow.ifacesOut == Try.f11.resultTypes.toList.any (Try.pinned.checked.prog.ifacesRec ·))) = true := by kernel_rfl
theorem quietRows_k21 : ((Rows.fnExactQuietRowsRow.loopsOut == Try.f11.resultTypes.toList.any (Try.pinned.checked.prog.loopsFrom ·))) = true := by kernel_rfl
theorem quietRows_k22 : ((Rows.fnExactQuietRowsRow.plainKeys == Try.pinned.checked.prog.plainKeys)) = true := by kernel_rfl
theorem quietRows_k23 : (Rows.fnExactQuietRowsRow.shortTexts.isNone) = true := by kernel_rfl
theorem quietRows_k24 : (Try.pinned.checked.prog.stopsHeard) = true := by kernel_rfl
theorem quietRows_k25 : (Try.pinned.checked.prog.mayEnter) = true := x_enter
theorem quietRows_k26 : ((Rows.fnExactQuietRowsRow.lifted == Try.pinned.checked.prog.liftsFinal)) = true := by rw [x_lifts]; rfl
theorem quietRows_k27 : ((Try.pinned.checked.prog.make == some Rows.fnExactQuietRowsRow.make)) = true := by rw [x_make]; rfl
theorem quietRows_k28 : ((Rows.fnExactQuietRowsRow.kinds == (if Rows.fnExactQuietRowsRow.domain.isEmpty then [] else Try.f11.params.toList.map fun t => match Try.pinned.checked.prog.underlying t with | some (.int k) => some k | _ => none))) = true := by kernel_rfl
theorem quietRows_k29 : ((Rows.fnExactQuietRowsRow.pinned == Rows.fnExactQuietRowsRow.pinnedBy)) = true := by kernel_rfl
theorem quietRows_k30 : ((Rows.fnExactQuietRowsRow.veiled == (Try.f11.params.toList ++ Rows.fnExactQuietRowsSpec.plain.varTypes Try.pinned.checked.prog ++ Try.f11.resultTypes.toList).any (Try.pinned.checked.prog.veiledRec ·))) = true := by kernel_rfl
theorem quietRows_k31 : (Rows.fnExactQuietRowsRow.veiledFits Try.pinned.checked.prog Try.f11.params.toList (Try.f11.params.toList ++ Rows.fnExactQuietRowsSpec.plain.varTypes Try.pinned.checked.prog ++ Try.f11.resultTypes.toList)) = true := by kernel_rfl
theorem quietRows_pkg : decide (Check.packageOf Try.f11.name = "main") = false := by kernel_rfl
theorem quietRows_inst : Func.isInstance Try.pinned.checked.prog Try.f11 Rows.fnExactQuietRowsRow.origin Rows.fnExactQuietRowsRow.targs := of_decide_eq_true (by kernel_rfl)
theorem quietRows_wrap : Func.isWrapper Try.pinned.checked.prog Try.f11 Rows.fnExactQuietRowsRow.wrapper Rows.fnExactQuietRowsRow.mainSum := by
  unfold Func.isWrapper; rw [if_neg (of_decide_eq_false quietRows_pkg)]; exact ⟨rfl, rfl⟩
set_option maxRecDepth 100000 in
theorem quietRows_closed : joinedFacts Try.pinned.checked.prog 11 Try.f11 Rows.fnExactQuietRowsSpec Rows.fnExactQuietRowsRow = true :=
  (and_of (and_of (and_of (and_of (and_of (and_of (and_of (and_of (and_of (and_of (and_of (and_of (and_of (and_of (and_of (and_of (and_of (and_of (and_of (and_of (and_of (and_of (and_of (and_of (and_of (and_of (and_of (and_of (and_of (and_of (and_of quietRows_k0 quietRows_k1) quietRows_k2) quietRows_k3) quietRows_k4) quietRows_k5) quietRows_k6) quietRows_k7) quietRows_k8) quietRows_k9) quietRows_k10) quietRows_k11) quietRows_k12) quietRows_k13) quietRows_k14) quietRows_k15) quietRows_k16) quietRows_k17) quietRows_k18) quietRows_k19) quietRows_k20) quietRows_k21) quietRows_k22) quietRows_k23) quietRows_k24) quietRows_k25) quietRows_k26) quietRows_k27) quietRows_k28) quietRows_k29) quietRows_k30) quietRows_k31)
theorem quietRows_holds : Rows.FnExactQuietRowsSaid :=
  OpenClaim.holds_of_wide 11 Try.f11 rfl rfl rfl rfl rfl rfl rfl ⟨rfl, rfl, rfl, rfl, rfl⟩ rfl rfl rfl rfl rfl (by kernel_rfl) Try.func11 quietRows_closed
    quietRows_inst quietRows_wrap (fun os started H enc _ => quietRows_lifted os started H enc)
end Go.Proofs.Ytggcjmdadomlaaa
