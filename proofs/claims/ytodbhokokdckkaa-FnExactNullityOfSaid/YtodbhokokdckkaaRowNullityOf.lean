/-
NullityOf answers as its model at every graph value, and leaves its argument as it was. No condition.
-/
import Derived.Test.YtodbhokokdckkaaLR
import Derived.Test.YtodbhokokdckkaaP
import Derived.Test.YtodbhokokdckkaaQ1
namespace Go.Proofs.Ytodbhokokdckkaa
open Go.ChangeShapes Go.WideShapes Go.ChangeAt Go.RowKit
set_option maxRecDepth 100000 in
theorem nullityOf_lifted (os : Os) (started : os.Started) (H : Type) (enc : TypeId × Value → H) :
    ReturnsInHanded {} Try.checked os 7 .any (Rows.fnExactNullityOfSpec.pre6 enc Try.prog Try.f7 Rows.fnExactNullityOfRow.domain false) (Rows.fnExactNullityOfSpec.post enc Try.prog Try.f7 false true false false) := by
  refine returnsInHanded_of_change (C := Try.checked) Try.own started (by kernel_rfl) Try.func7
    (ChangeSpec.witness6 (enc := enc) (C := Try.checked) false ⟨#[], #[.agg #[.slice none 0 0, .bool false]], []⟩ 8 (by kernel_rfl) (by kernel_rfl) (by kernel_rfl) (by kernel_rfl)) ?_
  intro W base args ds gs before hval0 hW hcnd _
  have hval : ∀ (j : Nat) t v, Try.f7.params[j]? = some t → args[j]? = some v → Value.okWide Try.prog W .any base t v := hval0
  have hW' := hW
  obtain ⟨p, q, hA0, hV, rfl, hfz, hnd⟩ := hW
  have hA : DataW.TrodAll enc Try.prog W 0 (fun _ => true) true Try.f7.params.toList args.toList ds p := hA0
  rw [Try.params7] at hA hval
  obtain ⟨v0, d0, rfl, rfl, h0⟩ := trodAll_one hA
  obtain ⟨rfl, rfl⟩ := trodVars_none hV
  obtain ⟨A0, n0, c0, f0, own0, rfl, hn0, hs0, hw0⟩ := open_graph (hval 0 24 v0 rfl rfl) h0
  clear hA0 hval0
  simp only [List.append_nil] at hW'
  have hlt0 : ∀ x ∈ p, x.block < W.heap.size := fun x hx => hW'.lt x (by simp [hx])
  refine (lawNull A0 n0 c0 f0 own0 W hn0 hs0).mono fun e W' ⟨he, hb⟩ => ?_
  subst he
  exact ⟨_, rfl, post_of_below (pa := p) (pv := []) hW' (fun _ _ _ => trodAll_mk1 (shut_bool Try.underlying4 true))
    (fun sp hsp => trodAll_mk1 (stays Try.laidOut (by kernel_rfl) (of_decide_eq_true (by kernel_rfl)) h0 hb hlt0 (fun x hx => hsp x (by simp [hx])))) (fun _ _ => rfl) (by simp) hb
    (ok_one (by kernel_rfl) rfl (okWide_bool_mk Try.underlying4 true))⟩
theorem nullityOf_k0 : (Rows.fnExactNullityOfRow.wf (OpenSpec.ofChange Rows.fnExactNullityOfSpec)) = true := by kernel_rfl
theorem nullityOf_k1 : (laidOutB Try.pinned.checked.prog) = true := by kernel_rfl
theorem nullityOf_k2 : (mapsRowed Try.pinned.checked.prog) = true := by kernel_rfl
theorem nullityOf_k3 : (Try.f7.params.all (Try.pinned.checked.prog.readableRec ·)) = true := by kernel_rfl
theorem nullityOf_k4 : (namedTie Try.pinned.checked.prog Rows.fnExactNullityOfRow.named Rows.fnExactNullityOfSpec.vars) = true := by kernel_rfl
theorem nullityOf_k5 : ((Rows.fnExactNullityOfRow.stops == [])) = true := by kernel_rfl
theorem nullityOf_k6 : ((Try.pinned.checked.prog.stops == [])) = true := by kernel_rfl
theorem nullityOf_k7 : ((Rows.fnExactNullityOfRow.knobs == [])) = true := by kernel_rfl
theorem nullityOf_k8 : ((Try.pinned.checked.prog.stopKnobs == [])) = true := by kernel_rfl
theorem nullityOf_k9 : ((Rows.fnExactNullityOfRow.inPlace == Try.pinned.checked.prog.inPlace 7)) = true := by kernel_rfl
theorem nullityOf_k10 : ((Rows.fnExactNullityOfRow.unfollowed == Try.pinned.checked.prog.unfollowed 7)) = true := by kernel_rfl
theorem nullityOf_k11 : ((Rows.fnExactNullityOfRow.recurses == Try.pinned.checked.prog.recurses 7)) = true := by kernel_rfl
theorem nullityOf_k12 : ((Rows.fnExactNullityOfRow.named == Try.pinned.checked.prog.varsNamed 7)) = true := by kernel_rfl
theorem nullityOf_k13 : ((Rows.fnExactNullityOfRow.maps == (Try.f7.params.toList ++ Rows.fnExactNullityOfSpec.plain.varTypes Try.pinned.checked.prog).any (Try.pinned.checked.prog.mapsRec ·))) = true := by kernel_rfl
theorem nullityOf_k14 : ((Rows.fnExactNullityOfRow.ifaces == (Try.f7.params.toList ++ Rows.fnExactNullityOfSpec.plain.varTypes Try.pinned.checked.prog).any (Try.pinned.checked.prog.ifacesRec ·))) = true := by kernel_rfl
theorem nullityOf_k15 : ((Rows.fnExactNullityOfRow.mapsOut == Try.pinned.checked.prog.mapsAmong Try.f7.resultTypes.toList)) = true := by kernel_rfl
theorem nullityOf_k16 : ((Rows.fnExactNullityOfRow.loops == (Try.f7.params.toList ++ Rows.fnExactNullityOfSpec.plain.varTypes Try.pinned.checked.prog).any (Try.pinned.checked.prog.loopsFrom ·))) = true := by kernel_rfl
theorem nullityOf_k17 : ((Rows.fnExactNullityOfRow.wideKeys == (Try.f7.params.toList ++ Rows.fnExactNullityOfSpec.plain.varTypes Try.pinned.checked.prog ++ Try.f7.resultTypes.toList).any (Try.pinned.checked.prog.wideKeysFrom ·))) = true := by kernel_rfl
theorem nullityOf_k18 : (Rows.fnExactNullityOfSpec.vars.all (Try.pinned.checked.prog.varReadable ·)) = true := by kernel_rfl
theorem nullityOf_k19 : (Try.f7.resultTypes.all (fun t => Try.pinned.checked.prog.readableRec t && decide (t < Try.pinned.checked.prog.types.size))) = true := by kernel_rfl
theorem nullityOf_k20 : ((Rows.fnExactNullityOfRow.ifacesOut == Try.f7.resultTypes.toList.any (Try.pinned.checked.prog.ifacesRec ·))) = true := by kernel_rfl
theorem nullityOf_k21 : ((Rows.fnExactNullityOfRow.loopsOut == Try.f7.resultTypes.toList.any (Try.pinned.checked.prog.loopsFrom ·))) = true := by kernel_rfl
theorem nullityOf_k22 : ((Rows.fnExactNullityOfRow.plainKeys == Try.pinned.checked.prog.plainKeys)) = true := by kernel_rfl
theorem nullityOf_k23 : (Rows.fnExactNullityOfRow.shortTexts.isNone) = true := by kernel_rfl
theorem nullityOf_k24 : (Try.pinned.checked.prog.stopsHeard) = true := by kernel_rfl
theorem nullityOf_k25 : (Try.pinned.checked.prog.mayEnter) = true := x_enter
theorem nullityOf_k26 : ((Rows.fnExactNullityOfRow.lifted == Try.pinned.checked.prog.liftsFinal)) = true := by rw [x_lifts]; rfl
theorem nullityOf_k27 : ((Try.pinned.checked.prog.make == some Rows.fnExactNullityOfRow.make)) = true := by rw [x_make]; rfl
theorem nullityOf_k28 : ((Rows.fnExactNullityOfRow.kinds == (if Rows.fnExactNullityOfRow.domain.isEmpty then [] else Try.f7.params.toList.map fun t => match Try.pinned.checked.prog.underlying t with | some (.int k) => some k | _ => none))) = true := by kernel_rfl
theorem nullityOf_k29 : ((Rows.fnExactNullityOfRow.pinned == Rows.fnExactNullityOfRow.pinnedBy)) = true := by kernel_rfl
theorem nullityOf_k30 : ((Rows.fnExactNullityOfRow.veiled == (Try.f7.params.toList ++ Rows.fnExactNullityOfSpec.plain.varTypes Try.pinned.checked.prog ++ Try.f7.resultTypes.toList).any (Try.pinned.checked.prog.veiledRec ·))) = true := by kernel_rfl
theorem nullityOf_k31 : (Rows.fnExactNullityOfRow.veiledFits Try.pinned.checked.prog Try.f7.params.toList (Try.f7.params.toList ++ Rows.fnExactNullityOfSpec.plain.varTypes Try.pinned.checked.prog ++ Try.f7.resultTypes.toList)) = true := by kernel_rfl
theorem nullityOf_pkg : decide (Check.packageOf Try.f7.name = "main") = false := by kernel_rfl
theorem nullityOf_inst : Func.isInstance Try.pinned.checked.prog Try.f7 Rows.fnExactNullityOfRow.origin Rows.fnExactNullityOfRow.targs := of_decide_eq_true (by kernel_rfl)
theorem nullityOf_wrap : Func.isWrapper Try.pinned.checked.prog Try.f7 Rows.fnExactNullityOfRow.wrapper Rows.fnExactNullityOfRow.mainSum := by
  unfold Func.isWrapper; rw [if_neg (of_decide_eq_false nullityOf_pkg)]; exact ⟨rfl, rfl⟩
theorem nullityOf_closed : joinedFacts Try.pinned.checked.prog 7 Try.f7 Rows.fnExactNullityOfSpec Rows.fnExactNullityOfRow = true :=
  (and_of (and_of (and_of (and_of (and_of (and_of (and_of (and_of (and_of (and_of (and_of (and_of (and_of (and_of (and_of (and_of (and_of (and_of (and_of (and_of (and_of (and_of (and_of (and_of (and_of (and_of (and_of (and_of (and_of (and_of (and_of nullityOf_k0 nullityOf_k1) nullityOf_k2) nullityOf_k3) nullityOf_k4) nullityOf_k5) nullityOf_k6) nullityOf_k7) nullityOf_k8) nullityOf_k9) nullityOf_k10) nullityOf_k11) nullityOf_k12) nullityOf_k13) nullityOf_k14) nullityOf_k15) nullityOf_k16) nullityOf_k17) nullityOf_k18) nullityOf_k19) nullityOf_k20) nullityOf_k21) nullityOf_k22) nullityOf_k23) nullityOf_k24) nullityOf_k25) nullityOf_k26) nullityOf_k27) nullityOf_k28) nullityOf_k29) nullityOf_k30) nullityOf_k31)
theorem nullityOf_holds : Rows.FnExactNullityOfSaid :=
  OpenClaim.holds_of_wide 7 Try.f7 rfl rfl rfl rfl rfl rfl rfl ⟨rfl, rfl, rfl, rfl, rfl⟩ rfl rfl rfl rfl rfl (by kernel_rfl) Try.func7 nullityOf_closed
    nullityOf_inst nullityOf_wrap (fun os started H enc _ => nullityOf_lifted os started H enc)
end Go.Proofs.Ytodbhokokdckkaa
