/-
ChaseLeft answers as its model at every four numbers and bool. No condition.
-/
import Derived.Test.YtggcjmdadomlaaaRG
import Derived.Test.YtggcjmdadomlaaaP
import Derived.Test.YtggcjmdadomlaaaQ1
namespace Go.Proofs.Ytggcjmdadomlaaa
open Go.ChangeShapes Go.WideShapes Go.ChangeAt Go.RowKit
set_option maxRecDepth 100000 in
theorem chaseLeft_lifted (os : Os) (started : os.Started) (H : Type) (enc : TypeId × Value → H) :
    ReturnsInHanded {} Try.checked os 4 .any (Rows.fnExactChaseLeftSpec.pre6 enc Try.prog Try.f4 Rows.fnExactChaseLeftRow.domain false) (Rows.fnExactChaseLeftSpec.post enc Try.prog Try.f4 false true false false) := by
  refine returnsInHanded_of_change (C := Try.checked) Try.own started (by kernel_rfl) Try.func4
    (ChangeSpec.witness6 (enc := enc) (C := Try.checked) false ⟨#[], #[.int .i64 0, .int .i64 0, .bool false, .int .i64 0, .int .i64 0], []⟩ 8 (by kernel_rfl) (by kernel_rfl) (by kernel_rfl) (by kernel_rfl)) ?_
  intro W base args ds gs before hval0 hW hcnd _
  have hval : ∀ (j : Nat) t v, Try.f4.params[j]? = some t → args[j]? = some v → Value.okWide Try.prog W .any base t v := hval0
  have hW' := hW
  obtain ⟨p, q, hA0, hV, rfl, hfz, hnd⟩ := hW
  have hA : DataW.TrodAll enc Try.prog W 0 (fun _ => true) true Try.f4.params.toList args.toList ds p := hA0
  rw [Try.params4] at hA hval
  obtain ⟨v0, v1, v2, v3, v4, d0, d1, d2, d3, d4, p0, p1, p2, p3, p4, rfl, rfl, rfl, h0, h1, h2, h3, h4⟩ := trodAll_five hA
  obtain ⟨rfl, rfl⟩ := trodVars_none hV
  obtain ⟨a0, rfl, rfl, rfl, wa0⟩ := open_int Try.underlying3 (hval 0 3 v0 rfl rfl) h0
  obtain ⟨a1, rfl, rfl, rfl, wa1⟩ := open_int Try.underlying3 (hval 1 3 v1 rfl rfl) h1
  obtain ⟨b2, rfl, rfl, rfl⟩ := open_bool Try.underlying4 (hval 2 4 v2 rfl rfl) h2
  obtain ⟨a3, rfl, rfl, rfl, wa3⟩ := open_int Try.underlying3 (hval 3 3 v3 rfl rfl) h3
  obtain ⟨a4, rfl, rfl, rfl, wa4⟩ := open_int Try.underlying3 (hval 4 3 v4 rfl rfl) h4
  clear hA0 hval0
  simp only [List.append_nil] at hW'
  refine (lawLeft a0 a1 b2 a3 a4 W).mono fun e W' ⟨he, hb⟩ => ?_
  subst he
  exact ⟨_, rfl, post_of_below (pa := []) (pv := []) hW' (fun _ _ _ => trodAll_mk1 (shut_bool Try.underlying4 true))
    (fun sp hsp => trodAll_mk5 (shut_int Try.underlying3 wa0) (shut_int Try.underlying3 wa1) (shut_bool Try.underlying4 b2) (shut_int Try.underlying3 wa3) (shut_int Try.underlying3 wa4)) (fun _ _ => rfl) (by simp) hb
    (ok_one (by kernel_rfl) rfl (okWide_bool_mk Try.underlying4 true))⟩
theorem chaseLeft_k0 : (Rows.fnExactChaseLeftRow.wf (OpenSpec.ofChange Rows.fnExactChaseLeftSpec)) = true := by kernel_rfl
theorem chaseLeft_k1 : (laidOutB Try.pinned.checked.prog) = true := by kernel_rfl
theorem chaseLeft_k2 : (mapsRowed Try.pinned.checked.prog) = true := by kernel_rfl
theorem chaseLeft_k3 : (Try.f4.params.all (Try.pinned.checked.prog.readableRec ·)) = true := by kernel_rfl
theorem chaseLeft_k4 : (namedTie Try.pinned.checked.prog Rows.fnExactChaseLeftRow.named Rows.fnExactChaseLeftSpec.vars) = true := by kernel_rfl
theorem chaseLeft_k5 : ((Rows.fnExactChaseLeftRow.stops == [])) = true := by kernel_rfl
theorem chaseLeft_k6 : ((Try.pinned.checked.prog.stops == [])) = true := by kernel_rfl
theorem chaseLeft_k7 : ((Rows.fnExactChaseLeftRow.knobs == [])) = true := by kernel_rfl
theorem chaseLeft_k8 : ((Try.pinned.checked.prog.stopKnobs == [])) = true := by kernel_rfl
theorem chaseLeft_k9 : ((Rows.fnExactChaseLeftRow.inPlace == Try.pinned.checked.prog.inPlace 4)) = true := by kernel_rfl
theorem chaseLeft_k10 : ((Rows.fnExactChaseLeftRow.unfollowed == Try.pinned.checked.prog.unfollowed 4)) = true := by kernel_rfl
theorem chaseLeft_k11 : ((Rows.fnExactChaseLeftRow.recurses == Try.pinned.checked.prog.recurses 4)) = true := by kernel_rfl
theorem chaseLeft_k12 : ((Rows.fnExactChaseLeftRow.named == Try.pinned.checked.prog.varsNamed 4)) = true := by kernel_rfl
theorem chaseLeft_k13 : ((Rows.fnExactChaseLeftRow.maps == (Try.f4.params.toList ++ Rows.fnExactChaseLeftSpec.plain.varTypes Try.pinned.checked.prog).any (Try.pinned.checked.prog.mapsRec ·))) = true := by kernel_rfl
theorem chaseLeft_k14 : ((Rows.fnExactChaseLeftRow.ifaces == (Try.f4.params.toList ++ Rows.fnExactChaseLeftSpec.plain.varTypes Try.pinned.checked.prog).any (Try.pinned.checked.prog.ifacesRec ·))) = true := by kernel_rfl
theorem chaseLeft_k15 : ((Rows.fnExactChaseLeftRow.mapsOut == Try.pinned.checked.prog.mapsAmong Try.f4.resultTypes.toList)) = true := by kernel_rfl
theorem chaseLeft_k16 : ((Rows.fnExactChaseLeftRow.loops == (Try.f4.params.toList ++ Rows.fnExactChaseLeftSpec.plain.varTypes Try.pinned.checked.prog).any (Try.pinned.checked.prog.loopsFrom ·))) = true := by kernel_rfl
theorem chaseLeft_k17 : ((Rows.fnExactChaseLeftRow.wideKeys == (Try.f4.params.toList ++ Rows.fnExactChaseLeftSpec.plain.varTypes Try.pinned.checked.prog ++ Try.f4.resultTypes.toList).any (Try.pinned.checked.prog.wideKeysFrom ·))) = true := by kernel_rfl
theorem chaseLeft_k18 : (Rows.fnExactChaseLeftSpec.vars.all (Try.pinned.checked.prog.varReadable ·)) = true := by kernel_rfl
theorem chaseLeft_k19 : (Try.f4.resultTypes.all (fun t => Try.pinned.checked.prog.readableRec t && decide (t < Try.pinned.checked.prog.types.size))) = true := by kernel_rfl
theorem chaseLeft_k20 : ((Rows.fnExactChaseLeftRow.ifacesOut == Try.f4.resultTypes.toList.any (Try.pinned.checked.prog.ifacesRec ·))) = true := by kernel_rfl
theorem chaseLeft_k21 : ((Rows.fnExactChaseLeftRow.loopsOut == Try.f4.resultTypes.toList.any (Try.pinned.checked.prog.loopsFrom ·))) = true := by kernel_rfl
theorem chaseLeft_k22 : ((Rows.fnExactChaseLeftRow.plainKeys == Try.pinned.checked.prog.plainKeys)) = true := by kernel_rfl
theorem chaseLeft_k23 : (Rows.fnExactChaseLeftRow.shortTexts.isNone) = true := by kernel_rfl
theorem chaseLeft_k24 : (Try.pinned.checked.prog.stopsHeard) = true := by kernel_rfl
theorem chaseLeft_k25 : (Try.pinned.checked.prog.mayEnter) = true := x_enter
theorem chaseLeft_k26 : ((Rows.fnExactChaseLeftRow.lifted == Try.pinned.checked.prog.liftsFinal)) = true := by rw [x_lifts]; rfl
theorem chaseLeft_k27 : ((Try.pinned.checked.prog.make == some Rows.fnExactChaseLeftRow.make)) = true := by rw [x_make]; rfl
theorem chaseLeft_k28 : ((Rows.fnExactChaseLeftRow.kinds == (if Rows.fnExactChaseLeftRow.domain.isEmpty then [] else Try.f4.params.toList.map fun t => match Try.pinned.checked.prog.underlying t with | some (.int k) => some k | _ => none))) = true := by kernel_rfl
theorem chaseLeft_k29 : ((Rows.fnExactChaseLeftRow.pinned == Rows.fnExactChaseLeftRow.pinnedBy)) = true := by kernel_rfl
theorem chaseLeft_k30 : ((Rows.fnExactChaseLeftRow.veiled == (Try.f4.params.toList ++ Rows.fnExactChaseLeftSpec.plain.varTypes Try.pinned.checked.prog ++ Try.f4.resultTypes.toList).any (Try.pinned.checked.prog.veiledRec ·))) = true := by kernel_rfl
theorem chaseLeft_k31 : (Rows.fnExactChaseLeftRow.veiledFits Try.pinned.checked.prog Try.f4.params.toList (Try.f4.params.toList ++ Rows.fnExactChaseLeftSpec.plain.varTypes Try.pinned.checked.prog ++ Try.f4.resultTypes.toList)) = true := by kernel_rfl
theorem chaseLeft_pkg : decide (Check.packageOf Try.f4.name = "main") = false := by kernel_rfl
theorem chaseLeft_inst : Func.isInstance Try.pinned.checked.prog Try.f4 Rows.fnExactChaseLeftRow.origin Rows.fnExactChaseLeftRow.targs := of_decide_eq_true (by kernel_rfl)
theorem chaseLeft_wrap : Func.isWrapper Try.pinned.checked.prog Try.f4 Rows.fnExactChaseLeftRow.wrapper Rows.fnExactChaseLeftRow.mainSum := by
  unfold Func.isWrapper; rw [if_neg (of_decide_eq_false chaseLeft_pkg)]; exact ⟨rfl, rfl⟩
set_option maxRecDepth 100000 in
theorem chaseLeft_closed : joinedFacts Try.pinned.checked.prog 4 Try.f4 Rows.fnExactChaseLeftSpec Rows.fnExactChaseLeftRow = true :=
  (and_of (and_of (and_of (and_of (and_of (and_of (and_of (and_of (and_of (and_of (and_of (and_of (and_of (and_of (and_of (and_of (and_of (and_of (and_of (and_of (and_of (and_of (and_of (and_of (and_of (and_of (and_of (and_of (and_of (and_of (and_of chaseLeft_k0 chaseLeft_k1) chaseLeft_k2) chaseLeft_k3) chaseLeft_k4) chaseLeft_k5) chaseLeft_k6) chaseLeft_k7) chaseLeft_k8) chaseLeft_k9) chaseLeft_k10) chaseLeft_k11) chaseLeft_k12) chaseLeft_k13) chaseLeft_k14) chaseLeft_k15) chaseLeft_k16) chaseLeft_k17) chaseLeft_k18) chaseLeft_k19) chaseLeft_k20) chaseLeft_k21) chaseLeft_k22) chaseLeft_k23) chaseLeft_k24) chaseLeft_k25) chaseLeft_k26) chaseLeft_k27) chaseLeft_k28) chaseLeft_k29) chaseLeft_k30) chaseLeft_k31)
theorem chaseLeft_holds : Rows.FnExactChaseLeftSaid :=
  OpenClaim.holds_of_wide 4 Try.f4 rfl rfl rfl rfl rfl rfl rfl ⟨rfl, rfl, rfl, rfl, rfl⟩ rfl rfl rfl rfl rfl (by kernel_rfl) Try.func4 chaseLeft_closed
    chaseLeft_inst chaseLeft_wrap (fun os started H enc _ => chaseLeft_lifted os started H enc)
end Go.Proofs.Ytggcjmdadomlaaa
