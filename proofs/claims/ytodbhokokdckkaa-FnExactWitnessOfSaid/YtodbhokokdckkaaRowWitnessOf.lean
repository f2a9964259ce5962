/-
WitnessOf answers as its model at every graph value and number, and leaves its argument as it was. No condition.
-/
import Derived.Test.YtodbhokokdckkaaLX
import Derived.Test.YtodbhokokdckkaaP
import Derived.Test.YtodbhokokdckkaaQ1
namespace Go.Proofs.Ytodbhokokdckkaa
open Go.ChangeShapes Go.WideShapes Go.ChangeAt Go.RowKit
set_option maxRecDepth 100000 in
theorem witnessOf_lifted (os : Os) (started : os.Started) (H : Type) (enc : TypeId × Value → H) :
    ReturnsInHanded {} Try.checked os 13 .any (Rows.fnExactWitnessOfSpec.pre6 enc Try.prog Try.f13 Rows.fnExactWitnessOfRow.domain false) (Rows.fnExactWitnessOfSpec.post enc Try.prog Try.f13 false true false false) := by
  refine returnsInHanded_of_change (C := Try.checked) Try.own started (by kernel_rfl) Try.func13
    (ChangeSpec.witness6 (enc := enc) (C := Try.checked) false ⟨#[], #[.agg #[.slice none 0 0, .bool false], .int .i64 0], []⟩ 8 (by kernel_rfl) (by kernel_rfl) (by kernel_rfl) (by kernel_rfl)) ?_
  intro W base args ds gs before hval0 hW hcnd _
  have hval : ∀ (j : Nat) t v, Try.f13.params[j]? = some t → args[j]? = some v → Value.okWide Try.prog W .any base t v := hval0
  have hW' := hW
  obtain ⟨p, q, hA0, hV, rfl, hfz, hnd⟩ := hW
  have hA : DataW.TrodAll enc Try.prog W 0 (fun _ => true) true Try.f13.params.toList args.toList ds p := hA0
  rw [Try.params13] at hA hval
  obtain ⟨v0, v1, d0, d1, p0, p1, rfl, rfl, rfl, h0, h1⟩ := trodAll_two hA
  obtain ⟨rfl, rfl⟩ := trodVars_none hV
  obtain ⟨A0, n0, c0, f0, own0, rfl, hn0, hs0, hw0⟩ := open_graph (hval 0 24 v0 rfl rfl) h0
  obtain ⟨a1, rfl, rfl, rfl, wa1⟩ := open_int Try.underlying3 (hval 1 3 v1 rfl rfl) h1
  clear hA0 hval0
  simp only [List.append_nil] at hW'
  have hlt0 : ∀ x ∈ p0, x.block < W.heap.size := fun x hx => hW'.lt x (by simp [hx])
  refine (lawWit A0 n0 c0 f0 own0 a1 W hn0 hs0).mono fun e W' ⟨he, hb⟩ => ?_
  subst he
  exact ⟨_, rfl, post_of_below (pa := p0 ++ []) (pv := []) hW' (fun _ _ _ => trodAll_mk1 (shut_bool Try.underlying4 true))
    (fun sp hsp => trodAll_mk2 (stays Try.laidOut (by kernel_rfl) (of_decide_eq_true (by kernel_rfl)) h0 hb hlt0 (fun x hx => hsp x (by simp [hx]))) (shut_int Try.underlying3 wa1)) (fun _ _ => rfl) (by simp) hb
    (ok_one (by kernel_rfl) rfl (okWide_bool_mk Try.underlying4 true))⟩
theorem witnessOf_k0 : (Rows.fnExactWitnessOfRow.wf (OpenSpec.ofChange Rows.fnExactWitnessOfSpec)) = true := by kernel_rfl
theorem witnessOf_k1 : (laidOutB Try.pinned.checked.prog) = true := by kernel_rfl
theorem witnessOf_k2 : (mapsRowed Try.pinned.checked.prog) = true := by kernel_rfl
theorem witnessOf_k3 : (Try.f13.params.all (Try.pinned.checked.prog.readableRec ·)) = true := by kernel_rfl
theorem witnessOf_k4 : (namedTie Try.pinned.checked.prog Rows.fnExactWitnessOfRow.named Rows.fnExactWitnessOfSpec.vars) = true := by kernel_rfl
theorem witnessOf_k5 : ((Rows.fnExactWitnessOfRow.stops == [])) = true := by kernel_rfl
theorem witnessOf_k6 : ((Try.pinned.checked.prog.stops == [])) = true := by kernel_rfl
theorem witnessOf_k7 : ((Rows.fnExactWitnessOfRow.knobs == [])) = true := by kernel_rfl
theorem witnessOf_k8 : ((Try.pinned.checked.prog.stopKnobs == [])) = true := by kernel_rfl
theorem witnessOf_k9 : ((Rows.fnExactWitnessOfRow.inPlace == Try.pinned.checked.prog.inPlace 13)) = true := by kernel_rfl
theorem witnessOf_k10 : ((Rows.fnExactWitnessOfRow.unfollowed == Try.pinned.checked.prog.unfollowed 13)) = true := by kernel_rfl
theorem witnessOf_k11 : ((Rows.fnExactWitnessOfRow.recurses == Try.pinned.checked.prog.recurses 13)) = true := by kernel_rfl
theorem witnessOf_k12 : ((Rows.fnExactWitnessOfRow.named == Try.pinned.checked.prog.varsNamed 13)) = true := by kernel_rfl
theorem witnessOf_k13 : ((Rows.fnExactWitnessOfRow.maps == (Try.f13.params.toList ++ Rows.fnExactWitnessOfSpec.plain.varTypes Try.pinned.checked.prog).any (Try.pinned.checked.prog.mapsRec ·))) = true := by kernel_rfl
theorem witnessOf_k14 : ((Rows.fnExactWitnessOfRow.ifaces == (Try.f13.params.toList ++ Rows.fnExactWitnessOfSpec.plain.varTypes Try.pinned.checked.prog).any (Try.pinned.checked.prog.ifacesRec ·))) = true := by kernel_rfl
theorem witnessOf_k15 : ((Rows.fnExactWitnessOfRow.mapsOut == Try.pinned.checked.prog.mapsAmong Try.f13.resultTypes.toList)) = true := by kernel_rfl
theorem witnessOf_k16 : ((Rows.fnExactWitnessOfRow.loops == (Try.f13.params.toList ++ Rows.fnExactWitnessOfSpec.plain.varTypes Try.pinned.checked.prog).any (Try.pinned.checked.prog.loopsFrom ·))) = true := by kernel_rfl
theorem witnessOf_k17 : ((Rows.fnExactWitnessOfRow.wideKeys == (Try.f13.params.toList ++ Rows.fnExactWitnessOfSpec.plain.varTypes Try.pinned.checked.prog ++ Try.f13.resultTypes.toList).any (Try.pinned.checked.prog.wideKeysFrom ·))) = true := by kernel_rfl
theorem witnessOf_k18 : (Rows.fnExactWitnessOfSpec.vars.all (Try.pinned.checked.prog.varReadable ·)) = true := by kernel_rfl
theorem witnessOf_k19 : (Try.f13.resultTypes.all (fun t => Try.pinned.checked.prog.readableRec t && decide (t < Try.pinned.checked.prog.types.size))) = true := by kernel_rfl
theorem witnessOf_k20 : ((Rows.fnExactWitnessOfRow.ifacesOut == Try.f13.resultTypes.toList.any (Try.pinned.checked.prog.ifacesRec ·))) = true := by kernel_rfl
theorem witnessOf_k21 : ((Rows.fnExactWitnessOfRow.loopsOut == Try.f13.resultTypes.toList.any (Try.pinned.checked.prog.loopsFrom ·))) = true := by kernel_rfl
theorem witnessOf_k22 : ((Rows.fnExactWitnessOfRow.plainKeys == Try.pinned.checked.prog.plainKeys)) = true := by kernel_rfl
theorem witnessOf_k23 : (Rows.fnExactWitnessOfRow.shortTexts.isNone) = true := by kernel_rfl
theorem witnessOf_k24 : (Try.pinned.checked.prog.stopsHeard) = true := by kernel_rfl
theorem witnessOf_k25 : (Try.pinned.checked.prog.mayEnter) = true := x_enter
theorem witnessOf_k26 : ((Rows.fnExactWitnessOfRow.lifted == Try.pinned.checked.prog.liftsFinal)) = true := by rw [x_lifts]; rfl
theorem witnessOf_k27 : ((Try.pinned.checked.prog.make == some Rows.fnExactWitnessOfRow.make)) = true := by rw [x_make]; rfl
theorem witnessOf_k28 : ((Rows.fnExactWitnessOfRow.kinds == (if Rows.fnExactWitnessOfRow.domain.isEmpty then [] else Try.f13.params.toList.map fun t => match Try.pinned.checked.prog.underlying t with | some (.int k) => some k | _ => none))) = true := by kernel_rfl
theorem witnessOf_k29 : ((Rows.fnExactWitnessOfRow.pinned == Rows.fnExactWitnessOfRow.pinnedBy)) = true := by kernel_rfl
theorem witnessOf_k30 : ((Rows.fnExactWitnessOfRow.veiled == (Try.f13.params.toList ++ Rows.fnExactWitnessOfSpec.plain.varTypes Try.pinned.checked.prog ++ Try.f13.resultTypes.toList).any (Try.pinned.checked.prog.veiledRec ·))) = true := by kernel_rfl
theorem witnessOf_k31 : (Rows.fnExactWitnessOfRow.veiledFits Try.pinned.checked.prog Try.f13.params.toList (Try.f13.params.toList ++ Rows.fnExactWitnessOfSpec.plain.varTypes Try.pinned.checked.prog ++ Try.f13.resultTypes.toList)) = true := by kernel_rfl
theorem witnessOf_pkg : decide (Check.packageOf Try.f13.name = "main") = false := by kernel_rfl
theorem witnessOf_inst : Func.isInstance Try.pinned.checked.prog Try.f13 Rows.fnExactWitnessOfRow.origin Rows.fnExactWitnessOfRow.targs := of_decide_eq_true (by kernel_rfl)
theorem witnessOf_wrap : Func.isWrapper Try.pinned.checked.prog Try.f13 Rows.fnExactWitnessOfRow.wrapper Rows.fnExactWitnessOfRow.mainSum := by
  unfold Func.isWrapper; rw [if_neg (of_decide_eq_false witnessOf_pkg)]; exact ⟨rfl, rfl⟩
theorem witnessOf_closed : joinedFacts Try.pinned.checked.prog 13 Try.f13 Rows.fnExactWitnessOfSpec Rows.fnExactWitnessOfRow = true :=
  (and_of (and_of (and_of (and_of (and_of (and_of (and_of (and_of (and_of (and_of (and_of (and_of (and_of (and_of (and_of (and_of (and_of (and_of (and_of (and_of (and_of (and_of (and_of (and_of (and_of (and_of (and_of (and_of (and_of (and_of (and_of witnessOf_k0 witnessOf_k1) witnessOf_k2) witnessOf_k3) witnessOf_k4) witnessOf_k5) witnessOf_k6) witnessOf_k7) witnessOf_k8) witnessOf_k9) witnessOf_k10) witnessOf_k11) witnessOf_k12) witnessOf_k13) witnessOf_k14) witnessOf_k15) witnessOf_k16) witnessOf_k17) witnessOf_k18) witnessOf_k19) witnessOf_k20) witnessOf_k21) witnessOf_k22) witnessOf_k23) witnessOf_k24) witnessOf_k25) witnessOf_k26) witnessOf_k27) witnessOf_k28) witnessOf_k29) witnessOf_k30) witnessOf_k31)
theorem witnessOf_holds : Rows.FnExactWitnessOfSaid :=
  OpenClaim.holds_of_wide 13 Try.f13 rfl rfl rfl rfl rfl rfl rfl ⟨rfl, rfl, rfl, rfl, rfl⟩ rfl rfl rfl rfl rfl (by kernel_rfl) Try.func13 witnessOf_closed
    witnessOf_inst witnessOf_wrap (fun os started H enc _ => witnessOf_lifted os started H enc)
end Go.Proofs.Ytodbhokokdckkaa
