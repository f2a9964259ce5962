/-
FromParents answers as its model at every list and Own, its answers share no memory, and the list is as it was. No condition.
-/
import Derived.Test.YtmcimfblhpflnaaLFL
import Derived.Test.YtmcimfblhpflnaaP
import Derived.Test.YtmcimfblhpflnaaQ1
namespace Go.Proofs.Ytmcimfblhpflnaa
open Go.ChangeShapes Go.WideShapes Go.ChangeAt Go.RowKit
set_option maxRecDepth 100000 in
theorem fromParents_lifted (os : Os) (started : os.Started) (H : Type) (enc : TypeId × Value → H) :
    ReturnsInHanded {} Try.checked os 5 .any (Rows.fnExactFromParentsSpec.pre6 enc Try.prog Try.f5 Rows.fnExactFromParentsRow.domain false) (Rows.fnExactFromParentsSpec.post enc Try.prog Try.f5 false true false false) := by
  refine returnsInHanded_of_change (C := Try.checked) Try.own started (by kernel_rfl) Try.func5
    (ChangeSpec.witness6 (enc := enc) (C := Try.checked) false ⟨#[], #[.slice none 0 0, .bool false], []⟩ 8 (by kernel_rfl) (by kernel_rfl) (by kernel_rfl) (by kernel_rfl)) ?_
  intro W base args ds gs before hval0 hW hcnd _
  have hval : ∀ (j : Nat) t v, Try.f5.params[j]? = some t → args[j]? = some v → Value.okWide Try.prog W .any base t v := hval0
  have hW' := hW
  obtain ⟨p, q, hA0, hV, rfl, hfz, hnd⟩ := hW
  have hA : DataW.TrodAll enc Try.prog W 0 (fun _ => true) true Try.f5.params.toList args.toList ds p := hA0
  rw [Try.params5] at hA hval
  obtain ⟨v0, v1, d0, d1, p0, p1, rfl, rfl, rfl, h0, h1⟩ := trodAll_two hA
  obtain ⟨rfl, rfl⟩ := trodVars_none hV
  obtain ⟨A0, n0, c0, f0, rfl, hn0, hs0, hw0⟩ := open_ints_arg (hval 0 25 v0 rfl rfl) h0
  obtain ⟨b1, rfl, rfl, rfl⟩ := open_bool Try.underlying4 (hval 1 4 v1 rfl rfl) h1
  clear hA0 hval0
  simp only [List.append_nil] at hW'
  have hlt0 : ∀ x ∈ p0, x.block < W.heap.size := fun x hx => hW'.lt x (by simp [hx])
  refine (lawFromParents A0 n0 c0 f0 b1 W hn0 hs0).mono fun e W' ⟨he, hb⟩ => ?_
  subst he
  exact ⟨_, rfl, post_of_below (pa := p0 ++ ([])) (pv := []) hW' (fun _ _ _ => trodAll_mk1 (shut_bool Try.underlying4 true))
    (fun sp hsp => trodAll_mk2 (stays Try.laidOut (by kernel_rfl) (of_decide_eq_true (by kernel_rfl)) h0 hb hlt0 (fun x hx => hsp x (by simp [hx]))) (shut_bool Try.underlying4 b1)) (fun _ _ => rfl) (by simp) hb
    (ok_one (by kernel_rfl) rfl (okWide_bool_mk Try.underlying4 true))⟩
theorem fromParents_k0 : (Rows.fnExactFromParentsRow.wf (OpenSpec.ofChange Rows.fnExactFromParentsSpec)) = true := by kernel_rfl
theorem fromParents_k1 : (laidOutB Try.pinned.checked.prog) = true := by kernel_rfl
theorem fromParents_k2 : (mapsRowed Try.pinned.checked.prog) = true := by kernel_rfl
theorem fromParents_k3 : (Try.f5.params.all (Try.pinned.checked.prog.readableRec ·)) = true := by kernel_rfl
theorem fromParents_k4 : (namedTie Try.pinned.checked.prog Rows.fnExactFromParentsRow.named Rows.fnExactFromParentsSpec.vars) = true := by kernel_rfl
theorem fromParents_k5 : ((Rows.fnExactFromParentsRow.stops == [])) = true := by kernel_rfl
theorem fromParents_k6 : ((Try.pinned.checked.prog.stops == [])) = true := by kernel_rfl
theorem fromParents_k7 : ((Rows.fnExactFromParentsRow.knobs == [])) = true := by kernel_rfl
theorem fromParents_k8 : ((Try.pinned.checked.prog.stopKnobs == [])) = true := by kernel_rfl
theorem fromParents_k9 : ((Rows.fnExactFromParentsRow.inPlace == Try.pinned.checked.prog.inPlace 5)) = true := by kernel_rfl
theorem fromParents_k10 : ((Rows.fnExactFromParentsRow.unfollowed == Try.pinned.checked.prog.unfollowed 5)) = true := by kernel_rfl
theorem fromParents_k11 : ((Rows.fnExactFromParentsRow.recurses == Try.pinned.checked.prog.recurses 5)) = true := by kernel_rfl
theorem fromParents_k12 : ((Rows.fnExactFromParentsRow.named == Try.pinned.checked.prog.varsNamed 5)) = true := by kernel_rfl
theorem fromParents_k13 : ((Rows.fnExactFromParentsRow.maps == (Try.f5.params.toList ++ Rows.fnExactFromParentsSpec.plain.varTypes Try.pinned.checked.prog).any (Try.pinned.checked.prog.mapsRec ·))) = true := by kernel_rfl
theorem fromParents_k14 : ((Rows.fnExactFromParentsRow.ifaces == (Try.f5.params.toList ++ Rows.fnExactFromParentsSpec.plain.varTypes Try.pinned.checked.prog).any (Try.pinned.checked.prog.ifacesRec ·))) = true := by kernel_rfl
theorem fromParents_k15 : ((Rows.fnExactFromParentsRow.mapsOut == Try.pinned.checked.prog.mapsAmong Try.f5.resultTypes.toList)) = true := by kernel_rfl
theorem fromParents_k16 : ((Rows.fnExactFromParentsRow.loops == (Try.f5.params.toList ++ Rows.fnExactFromParentsSpec.plain.varTypes Try.pinned.checked.prog).any (Try.pinned.checked.prog.loopsFrom ·))) = true := by kernel_rfl
theorem fromParents_k17 : ((Rows.fnExactFromParentsRow.wideKeys == (Try.f5.params.toList ++ Rows.fnExactFromParentsSpec.plain.varTypes Try.pinned.checked.prog ++ Try.f5.resultTypes.toList).any (Try.pinned.checked.prog.wideKeysFrom ·))) = true := by kernel_rfl
theorem fromParents_k18 : (Rows.fnExactFromParentsSpec.vars.all (Try.pinned.checked.prog.varReadable ·)) = true := by kernel_rfl
theorem fromParents_k19 : (Try.f5.resultTypes.all (fun t => Try.pinned.checked.prog.readableRec t && decide (t < Try.pinned.checked.prog.types.size))) = true := by kernel_rfl
theorem fromParents_k20 : ((Rows.fnExactFromParentsRow.ifacesOut == Try.f5.resultTypes.toList.any (Try.pinned.checked.prog.ifacesRec ·))) = true := by kernel_rfl
theorem fromParents_k21 : ((Rows.fnExactFromParentsRow.loopsOut == Try.f5.resultTypes.toList.any (Try.pinned.checked.prog.loopsFrom ·))) = true := by kernel_rfl
theorem fromParents_k22 : ((Rows.fnExactFromParentsRow.plainKeys == Try.pinned.checked.prog.plainKeys)) = true := by kernel_rfl
theorem fromParents_k23 : (Rows.fnExactFromParentsRow.shortTexts.isNone) = true := by kernel_rfl
theorem fromParents_k24 : (Try.pinned.checked.prog.stopsHeard) = true := by kernel_rfl
theorem fromParents_k25 : (Try.pinned.checked.prog.mayEnter) = true := x_enter
theorem fromParents_k26 : ((Rows.fnExactFromParentsRow.lifted == Try.pinned.checked.prog.liftsFinal)) = true := by rw [x_lifts]; rfl
theorem fromParents_k27 : ((Try.pinned.checked.prog.make == some Rows.fnExactFromParentsRow.make)) = true := by rw [x_make]; rfl
theorem fromParents_k28 : ((Rows.fnExactFromParentsRow.kinds == (if Rows.fnExactFromParentsRow.domain.isEmpty then [] else Try.f5.params.toList.map fun t => match Try.pinned.checked.prog.underlying t with | some (.int k) => some k | _ => none))) = true := by kernel_rfl
theorem fromParents_k29 : ((Rows.fnExactFromParentsRow.pinned == Rows.fnExactFromParentsRow.pinnedBy)) = true := by kernel_rfl
theorem fromParents_k30 : ((Rows.fnExactFromParentsRow.veiled == (Try.f5.params.toList ++ Rows.fnExactFromParentsSpec.plain.varTypes Try.pinned.checked.prog ++ Try.f5.resultTypes.toList).any (Try.pinned.checked.prog.veiledRec ·))) = true := by kernel_rfl
theorem fromParents_k31 : (Rows.fnExactFromParentsRow.veiledFits Try.pinned.checked.prog Try.f5.params.toList (Try.f5.params.toList ++ Rows.fnExactFromParentsSpec.plain.varTypes Try.pinned.checked.prog ++ Try.f5.resultTypes.toList)) = true := by kernel_rfl
theorem fromParents_pkg : decide (Check.packageOf Try.f5.name = "main") = false := by kernel_rfl
theorem fromParents_inst : Func.isInstance Try.pinned.checked.prog Try.f5 Rows.fnExactFromParentsRow.origin Rows.fnExactFromParentsRow.targs := of_decide_eq_true (by kernel_rfl)
theorem fromParents_wrap : Func.isWrapper Try.pinned.checked.prog Try.f5 Rows.fnExactFromParentsRow.wrapper Rows.fnExactFromParentsRow.mainSum := by
  unfold Func.isWrapper; rw [if_neg (of_decide_eq_false fromParents_pkg)]; exact ⟨rfl, rfl⟩
set_option maxRecDepth 100000 in
theorem fromParents_closed : joinedFacts Try.pinned.checked.prog 5 Try.f5 Rows.fnExactFromParentsSpec Rows.fnExactFromParentsRow = true :=
  (and_of (and_of (and_of (and_of (and_of (and_of (and_of (and_of (and_of (and_of (and_of (and_of (and_of (and_of (and_of (and_of (and_of (and_of (and_of (and_of (and_of (and_of (and_of (and_of (and_of (and_of (and_of (and_of (and_of (and_of (and_of fromParents_k0 fromParents_k1) fromParents_k2) fromParents_k3) fromParents_k4) fromParents_k5) fromParents_k6) fromParents_k7) fromParents_k8) fromParents_k9) fromParents_k10) fromParents_k11) fromParents_k12) fromParents_k13) fromParents_k14) fromParents_k15) fromParents_k16) fromParents_k17) fromParents_k18) fromParents_k19) fromParents_k20) fromParents_k21) fromParents_k22) fromParents_k23) fromParents_k24) fromParents_k25) fromParents_k26) fromParents_k27) fromParents_k28) fromParents_k29) fromParents_k30) fromParents_k31)
theorem fromParents_holds : Rows.FnExactFromParentsSaid :=
  OpenClaim.holds_of_wide 5 Try.f5 rfl rfl rfl rfl rfl rfl rfl ⟨rfl, rfl, rfl, rfl, rfl⟩ rfl rfl rfl rfl rfl (by kernel_rfl) Try.func5 fromParents_closed
    fromParents_inst fromParents_wrap (fun os started H enc _ => fromParents_lifted os started H enc)
end Go.Proofs.Ytmcimfblhpflnaa
