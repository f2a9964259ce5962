/-
RowBehind answers as its model at every three numbers and bool. No condition.
-/
import Derived.Test.YtggcjmdadomlaaaRI
import Derived.Test.YtggcjmdadomlaaaP
import Derived.Test.YtggcjmdadomlaaaQ1
namespace Go.Proofs.Ytggcjmdadomlaaa
open Go.ChangeShapes Go.WideShapes Go.ChangeAt Go.RowKit
set_option maxRecDepth 100000 in
theorem rowBehind_lifted (os : Os) (started : os.Started) (H : Type) (enc : TypeId × Value → H) :
    ReturnsInHanded {} Try.checked os 9 .any (Rows.fnExactRowBehindSpec.pre6 enc Try.prog Try.f9 Rows.fnExactRowBehindRow.domain false) (Rows.fnExactRowBehindSpec.post enc Try.prog Try.f9 false true false false) := by
  refine returnsInHanded_of_change (C := Try.checked) Try.own started (by kernel_rfl) Try.func9
    (ChangeSpec.witness6 (enc := enc) (C := Try.checked) false ⟨#[], #[.int .i64 0, .bool false, .int .i64 0, .int .i64 0], []⟩ 8 (by kernel_rfl) (by kernel_rfl) (by kernel_rfl) (by kernel_rfl)) ?_
  intro W base args ds gs before hval0 hW hcnd _
  have hval : ∀ (j : Nat) t v, Try.f9.params[j]? = some t → args[j]? = some v → Value.okWide Try.prog W .any base t v := hval0
  have hW' := hW
  obtain ⟨p, q, hA0, hV, rfl, hfz, hnd⟩ := hW
  have hA : DataW.TrodAll enc Try.prog W 0 (fun _ => true) true Try.f9.params.toList args.toList ds p := hA0
  rw [Try.params9] at hA hval
  obtain ⟨v0, v1, v2, v3, d0, d1, d2, d3, p0, p1, p2, p3, rfl, rfl, rfl, h0, h1, h2, h3⟩ := trodAll_four hA
  obtain ⟨rfl, rfl⟩ := trodVars_none hV
  obtain ⟨a0, rfl, rfl, rfl, wa0⟩ := open_int Try.underlying3 (hval 0 3 v0 rfl rfl) h0
  obtain ⟨b1, rfl, rfl, rfl⟩ := open_bool Try.underlying4 (hval 1 4 v1 rfl rfl) h1
  obtain ⟨a2, rfl, rfl, rfl, wa2⟩ := open_int Try.underlying3 (hval 2 3 v2 rfl rfl) h2
  obtain ⟨a3, rfl, rfl, rfl, wa3⟩ := open_int Try.underlying3 (hval 3 3 v3 rfl rfl) h3
  clear hA0 hval0
  simp only [List.append_nil] at hW'
  refine (lawBehind a0 b1 a2 a3 W).mono fun e W' ⟨he, hb⟩ => ?_
  subst he
  exact ⟨_, rfl, post_of_below (pa := []) (pv := []) hW' (fun _ _ _ => trodAll_mk1 (shut_bool Try.underlying4 true))
    (fun sp hsp => trodAll_mk4 (shut_int Try.underlying3 wa0) (shut_bool Try.underlying4 b1) (shut_int Try.underlying3 wa2) (shut_int Try.underlying3 wa3)) (fun _ _ => rfl) (by simp) hb
    (ok_one (by kernel_rfl) rfl (okWide_bool_mk Try.underlying4 true))⟩
theorem rowBehind_k0 : (Rows.fnExactRowBehindRow.wf (OpenSpec.ofChange Rows.fnExactRowBehindSpec)) = true := by kernel_rfl
theorem rowBehind_k1 : (laidOutB Try.pinned.checked.prog) = true := by kernel_rfl
theorem rowBehind_k2 : (mapsRowed Try.pinned.checked.prog) = true := by kernel_rfl
theorem rowBehind_k3 : (Try.f9.params.all (Try.pinned.checked.prog.readableRec ·)) = true := by kernel_rfl
theorem rowBehind_k4 : (namedTie Try.pinned.checked.prog Rows.fnExactRowBehindRow.named Rows.fnExactRowBehindSpec.vars) = true := by kernel_rfl
theorem rowBehind_k5 : ((Rows.fnExactRowBehindRow.stops == [])) = true := by kernel_rfl
theorem rowBehind_k6 : ((Try.pinned.checked.prog.stops == [])) = true := by kernel_rfl
theorem rowBehind_k7 : ((Rows.fnExactRowBehindRow.knobs == [])) = true := by kernel_rfl
theorem rowBehind_k8 : ((Try.pinned.checked.prog.stopKnobs == [])) = true := by kernel_rfl
theorem rowBehind_k9 : ((Rows.fnExactRowBehindRow.inPlace == Try.pinned.checked.prog.inPlace 9)) = true := by kernel_rfl
theorem rowBehind_k10 : ((Rows.fnExactRowBehindRow.unfollowed == Try.pinned.checked.prog.unfollowed 9)) = true := by kernel_rfl
theorem rowBehind_k11 : ((Rows.fnExactRowBehindRow.recurses == Try.pinned.checked.prog.recurses 9)) = true := by kernel_rfl
theorem rowBehind_k12 : ((Rows.fnExactRowBehindRow.named == Try.pinned.checked.prog.varsNamed 9)) = true := by kernel_rfl
theorem rowBehind_k13 : ((Rows.fnExactRowBehindRow.maps == (Try.f9.params.toList ++ Rows.fnExactRowBehindSpec.plain.varTypes Try.pinned.checked.prog).any (Try.pinned.checked.prog.mapsRec ·))) = true := by kernel_rfl
theorem rowBehind_k14 : ((Rows.fnExactRowBehindRow.ifaces == (Try.f9.params.toList ++ Rows.fnExactRowBehindSpec.plain.varTypes Try.pinned.checked.prog).any (Try.pinned.checked.prog.ifacesRec ·))) = true := by kernel_rfl
theorem rowBehind_k15 : ((Rows.fnExactRowBehindRow.mapsOut == Try.pinned.checked.prog.mapsAmong Try.f9.resultTypes.toList)) = true := by kernel_rfl
theorem rowBehind_k16 : ((Rows.fnExactRowBehindRow.loops == (Try.f9.params.toList ++ Rows.fnExactRowBehindSpec.plain.varTypes Try.pinned.checked.prog).any (Try.pinned.checked.prog.loopsFrom ·))) = true := by kernel_rfl
theorem rowBehind_k17 : ((Rows.fnExactRowBehindRow.wideKeys == (Try.f9.params.toList ++ Rows.fnExactRowBehindSpec.plain.varTypes Try.pinned.checked.prog ++ Try.f9.resultTypes.toList).any (Try.pinned.checked.prog.wideKeysFrom ·))) = true := by kernel_rfl
theorem rowBehind_k18 : (Rows.fnExactRowBehindSpec.vars.all (Try.pinned.checked.prog.varReadable ·)) = true := by kernel_rfl
theorem rowBehind_k19 : (Try.f9.resultTypes.all (fun t => Try.pinned.checked.prog.readableRec t && decide (t < Try.pinned.checked.prog.types.size))) = true := by kernel_rfl
theorem rowBehind_k20 : ((Rows.fnExactRowBehindRow.ifacesOut == Try.f9.resultTypes.toList.any (Try.pinned.checked.prog.ifacesRec ·))) = true := by kernel_rfl
theorem rowBehind_k21 : ((Rows.fnExactRowBehindRow.loopsOut == Try.f9.resultTypes.toList.any (Try.pinned.checked.prog.loopsFrom ·))) = true := by kernel_rfl
theorem rowBehind_k22 : ((Rows.fnExactRowBehindRow.plainKeys == Try.pinned.checked.prog.plainKeys)) = true := by kernel_rfl
theorem rowBehind_k23 : (Rows.fnExactRowBehindRow.shortTexts.isNone) = true := by kernel_rfl
theorem rowBehind_k24 : (Try.pinned.checked.prog.stopsHeard) = true := by kernel_rfl
theorem rowBehind_k25 : (Try.pinned.checked.prog.mayEnter) = true := x_enter
theorem rowBehind_k26 : ((Rows.fnExactRowBehindRow.lifted == Try.pinned.checked.prog.liftsFinal)) = true := by rw [x_lifts]; rfl
theorem rowBehind_k27 : ((Try.pinned.checked.prog.make == some Rows.fnExactRowBehindRow.make)) = true := by rw [x_make]; rfl
theorem rowBehind_k28 : ((Rows.fnExactRowBehindRow.kinds == (if Rows.fnExactRowBehindRow.domain.isEmpty then [] else Try.f9.params.toList.map fun t => match Try.pinned.checked.prog.underlying t with | some (.int k) => some k | _ => none))) = true := by kernel_rfl
theorem rowBehind_k29 : ((Rows.fnExactRowBehindRow.pinned == Rows.fnExactRowBehindRow.pinnedBy)) = true := by kernel_rfl
theorem rowBehind_k30 : ((Rows.fnExactRowBehindRow.veiled == (Try.f9.params.toList ++ Rows.fnExactRowBehindSpec.plain.varTypes Try.pinned.checked.prog ++ Try.f9.resultTypes.toList).any (Try.pinned.checked.prog.veiledRec ·))) = true := by kernel_rfl
theorem rowBehind_k31 : (Rows.fnExactRowBehindRow.veiledFits Try.pinned.checked.prog Try.f9.params.toList (Try.f9.params.toList ++ Rows.fnExactRowBehindSpec.plain.varTypes Try.pinned.checked.prog ++ Try.f9.resultTypes.toList)) = true := by kernel_rfl
theorem rowBehind_pkg : decide (Check.packageOf Try.f9.name = "main") = false := by kernel_rfl
theorem rowBehind_inst : Func.isInstance Try.pinned.checked.prog Try.f9 Rows.fnExactRowBehindRow.origin Rows.fnExactRowBehindRow.targs := of_decide_eq_true (by kernel_rfl)
theorem rowBehind_wrap : Func.isWrapper Try.pinned.checked.prog Try.f9 Rows.fnExactRowBehindRow.wrapper Rows.fnExactRowBehindRow.mainSum := by
  unfold Func.isWrapper; rw [if_neg (of_decide_eq_false rowBehind_pkg)]; exact ⟨rfl, rfl⟩
set_option maxRecDepth 100000 in
theorem rowBehind_closed : joinedFacts Try.pinned.checked.prog 9 Try.f9 Rows.fnExactRowBehindSpec Rows.fnExactRowBehindRow = true :=
  (and_of (and_of (and_of (and_of (and_of (and_of (and_of (and_of (and_of (and_of (and_of (and_of (and_of (and_of (and_of (and_of (and_of (and_of (and_of (and_of (and_of (and_of (and_of (and_of (and_of (and_of (and_of (and_of (and_of (and_of (and_of rowBehind_k0 rowBehind_k1) rowBehind_k2) rowBehind_k3) rowBehind_k4) rowBehind_k5) rowBehind_k6) rowBehind_k7) rowBehind_k8) rowBehind_k9) rowBehind_k10) rowBehind_k11) rowBehind_k12) rowBehind_k13) rowBehind_k14) rowBehind_k15) rowBehind_k16) rowBehind_k17) rowBehind_k18) rowBehind_k19) rowBehind_k20) rowBehind_k21) rowBehind_k22) rowBehind_k23) rowBehind_k24) rowBehind_k25) rowBehind_k26) rowBehind_k27) rowBehind_k28) rowBehind_k29) rowBehind_k30) rowBehind_k31)
theorem rowBehind_holds : Rows.FnExactRowBehindSaid :=
  OpenClaim.holds_of_wide 9 Try.f9 rfl rfl rfl rfl rfl rfl rfl ⟨rfl, rfl, rfl, rfl, rfl⟩ rfl rfl rfl rfl rfl (by kernel_rfl) Try.func9 rowBehind_closed
    rowBehind_inst rowBehind_wrap (fun os started H enc _ => rowBehind_lifted os started H enc)
end Go.Proofs.Ytggcjmdadomlaaa
