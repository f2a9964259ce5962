/-
NullityOfMap answers as its model at every list, and the list is as it was. No condition.
-/
import Derived.Test.YtdpoceijnbbmgaaNM
import Derived.Test.YtdpoceijnbbmgaaP
import Derived.Test.YtdpoceijnbbmgaaQ1
import Derived.ChangeMaps5
namespace Go.Proofs.Ytdpoceijnbbmgaa
open Go.ChangeShapes Go.WideShapes Go.ChangeAt Go.RowKit Go.ChangeMaps
set_option maxRecDepth 100000 in
theorem nullityOfMap_lifted (os : Os) (started : os.Started) (H : Type) (enc : TypeId × Value → H) :
    ReturnsInHanded {} Try.checked os 5 .any (Rows.fnExactNullityOfMapSpec.pre6 enc Try.prog Try.f5 Rows.fnExactNullityOfMapRow.domain false) (Rows.fnExactNullityOfMapSpec.post enc Try.prog Try.f5 false true false false) := by
  refine returnsInHanded_of_change (C := Try.checked) Try.own started (by kernel_rfl) Try.func5
    (ChangeSpec.witness6 (enc := enc) (C := Try.checked) false ⟨#[], #[.slice none 0 0], []⟩ 8 (by kernel_rfl) (by kernel_rfl) (by kernel_rfl) (by kernel_rfl)) ?_
  intro W base args ds gs before hval0 hW hcnd _
  have hval : ∀ (j : Nat) t v, Try.f5.params[j]? = some t → args[j]? = some v → Value.okWide Try.prog W .any base t v := hval0
  have hW' := hW
  obtain ⟨p, q, hA0, hV, rfl, hfz, hnd⟩ := hW
  have hA : DataW.TrodAll enc Try.prog W 0 (fun _ => true) true Try.f5.params.toList args.toList ds p := hA0
  rw [Try.params5] at hA hval
  obtain ⟨v0, d0, rfl, rfl, h0⟩ := trodAll_one hA
  obtain ⟨rfl, rfl⟩ := trodVars_none hV
  obtain ⟨A0, n0, c0, f0, rfl, hn0, hs0, hw0⟩ := open_ints_arg (hval 0 22 v0 rfl rfl) h0
  clear hA0 hval0
  simp only [List.append_nil] at hW'
  have hlt0 : ∀ x ∈ p, x.block < W.heap.size := fun x hx => hW'.lt x (by simp [hx])
  refine (lawNullityOfMap A0 n0 c0 f0 W hn0 hs0).mono fun e W' ⟨he, hb⟩ => ?_
  subst he
  exact ⟨_, rfl, post_of_below (pa := p) (pv := []) hW' (fun _ _ _ => trodAll_mk1 (shut_bool Try.underlying4 true))
    (fun sp hsp => trodAll_mk1 (stays Try.laidOut (by kernel_rfl) (of_decide_eq_true (by kernel_rfl)) h0 hb hlt0 (fun x hx => hsp x (by simp [hx])))) (fun _ _ => rfl) (by simp) hb
    (ok_one (by kernel_rfl) rfl (okWide_bool_mk Try.underlying4 true))⟩
theorem nullityOfMap_k0 : (Rows.fnExactNullityOfMapRow.wf (OpenSpec.ofChange Rows.fnExactNullityOfMapSpec)) = true := by kernel_rfl
theorem nullityOfMap_k1 : (laidOutB Try.pinned.checked.prog) = true := by kernel_rfl
theorem nullityOfMap_k2 : (mapsRowed Try.pinned.checked.prog) = true := by kernel_rfl
theorem nullityOfMap_k3 : (Try.f5.params.all (Try.pinned.checked.prog.readableRec ·)) = true := by kernel_rfl
theorem nullityOfMap_k4 : (namedTie Try.pinned.checked.prog Rows.fnExactNullityOfMapRow.named Rows.fnExactNullityOfMapSpec.vars) = true := by kernel_rfl
theorem nullityOfMap_k5 : ((Rows.fnExactNullityOfMapRow.stops == [])) = true := by kernel_rfl
theorem nullityOfMap_k6 : ((Try.pinned.checked.prog.stops == [])) = true := by kernel_rfl
theorem nullityOfMap_k7 : ((Rows.fnExactNullityOfMapRow.knobs == [])) = true := by kernel_rfl
theorem nullityOfMap_k8 : ((Try.pinned.checked.prog.stopKnobs == [])) = true := by kernel_rfl
theorem nullityOfMap_k9 : ((Rows.fnExactNullityOfMapRow.inPlace == Try.pinned.checked.prog.inPlace 5)) = true := by kernel_rfl
theorem nullityOfMap_k10 : ((Rows.fnExactNullityOfMapRow.unfollowed == Try.pinned.checked.prog.unfollowed 5)) = true := by kernel_rfl
theorem nullityOfMap_k11 : ((Rows.fnExactNullityOfMapRow.recurses == Try.pinned.checked.prog.recurses 5)) = true := by kernel_rfl
theorem nullityOfMap_k12 : ((Rows.fnExactNullityOfMapRow.named == Try.pinned.checked.prog.varsNamed 5)) = true := by kernel_rfl
theorem nullityOfMap_k13 : ((Rows.fnExactNullityOfMapRow.maps == (Try.f5.params.toList ++ Rows.fnExactNullityOfMapSpec.plain.varTypes Try.pinned.checked.prog).any (Try.pinned.checked.prog.mapsRec ·))) = true := by kernel_rfl
theorem nullityOfMap_k14 : ((Rows.fnExactNullityOfMapRow.ifaces == (Try.f5.params.toList ++ Rows.fnExactNullityOfMapSpec.plain.varTypes Try.pinned.checked.prog).any (Try.pinned.checked.prog.ifacesRec ·))) = true := by kernel_rfl
theorem nullityOfMap_k15 : ((Rows.fnExactNullityOfMapRow.mapsOut == Try.pinned.checked.prog.mapsAmong Try.f5.resultTypes.toList)) = true := by kernel_rfl
theorem nullityOfMap_k16 : ((Rows.fnExactNullityOfMapRow.loops == (Try.f5.params.toList ++ Rows.fnExactNullityOfMapSpec.plain.varTypes Try.pinned.checked.prog).any (Try.pinned.checked.prog.loopsFrom ·))) = true := by kernel_rfl
theorem nullityOfMap_k17 : ((Rows.fnExactNullityOfMapRow.wideKeys == (Try.f5.params.toList ++ Rows.fnExactNullityOfMapSpec.plain.varTypes Try.pinned.checked.prog ++ Try.f5.resultTypes.toList).any (Try.pinned.checked.prog.wideKeysFrom ·))) = true := by kernel_rfl
theorem nullityOfMap_k18 : (Rows.fnExactNullityOfMapSpec.vars.all (Try.pinned.checked.prog.varReadable ·)) = true := by kernel_rfl
theorem nullityOfMap_k19 : (Try.f5.resultTypes.all (fun t => Try.pinned.checked.prog.readableRec t && decide (t < Try.pinned.checked.prog.types.size))) = true := by kernel_rfl
theorem nullityOfMap_k20 : ((Rows.fnExactNullityOfMapRow.ifacesOut == Try.f5.resultTypes.toList.any (Try.pinned.checked.prog.ifacesRec ·))) = true := by kernel_rfl
theorem nullityOfMap_k21 : ((Rows.fnExactNullityOfMapRow.loopsOut == Try.f5.resultTypes.toList.any (Try.pinned.checked.prog.loopsFrom ·))) = true := by kernel_rfl
theorem nullityOfMap_k22 : ((Rows.fnExactNullityOfMapRow.plainKeys == Try.pinned.checked.prog.plainKeys)) = true := by kernel_rfl
theorem nullityOfMap_k23 : (Rows.fnExactNullityOfMapRow.shortTexts.isNone) = true := by kernel_rfl
theorem nullityOfMap_k24 : (Try.pinned.checked.prog.stopsHeard) = true := by kernel_rfl
theorem nullityOfMap_k25 : (Try.pinned.checked.prog.mayEnter) = true := x_enter
theorem nullityOfMap_k26 : ((Rows.fnExactNullityOfMapRow.lifted == Try.pinned.checked.prog.liftsFinal)) = true := by rw [x_lifts]; rfl
theorem nullityOfMap_k27 : ((Try.pinned.checked.prog.make == some Rows.fnExactNullityOfMapRow.make)) = true := by rw [x_make]; rfl
theorem nullityOfMap_k28 : ((Rows.fnExactNullityOfMapRow.kinds == (if Rows.fnExactNullityOfMapRow.domain.isEmpty then [] else Try.f5.params.toList.map fun t => match Try.pinned.checked.prog.underlying t with | some (.int k) => some k | _ => none))) = true := by kernel_rfl
theorem nullityOfMap_k29 : ((Rows.fnExactNullityOfMapRow.pinned == Rows.fnExactNullityOfMapRow.pinnedBy)) = true := by kernel_rfl
theorem nullityOfMap_k30 : ((Rows.fnExactNullityOfMapRow.veiled == (Try.f5.params.toList ++ Rows.fnExactNullityOfMapSpec.plain.varTypes Try.pinned.checked.prog ++ Try.f5.resultTypes.toList).any (Try.pinned.checked.prog.veiledRec ·))) = true := by kernel_rfl
theorem nullityOfMap_k31 : (Rows.fnExactNullityOfMapRow.veiledFits Try.pinned.checked.prog Try.f5.params.toList (Try.f5.params.toList ++ Rows.fnExactNullityOfMapSpec.plain.varTypes Try.pinned.checked.prog ++ Try.f5.resultTypes.toList)) = true := by kernel_rfl
theorem nullityOfMap_pkg : decide (Check.packageOf Try.f5.name = "main") = false := by kernel_rfl
theorem nullityOfMap_inst : Func.isInstance Try.pinned.checked.prog Try.f5 Rows.fnExactNullityOfMapRow.origin Rows.fnExactNullityOfMapRow.targs := of_decide_eq_true (by kernel_rfl)
theorem nullityOfMap_wrap : Func.isWrapper Try.pinned.checked.prog Try.f5 Rows.fnExactNullityOfMapRow.wrapper Rows.fnExactNullityOfMapRow.mainSum := by
  unfold Func.isWrapper; rw [if_neg (of_decide_eq_false nullityOfMap_pkg)]; exact ⟨rfl, rfl⟩
set_option maxRecDepth 100000 in
theorem nullityOfMap_closed : joinedFacts Try.pinned.checked.prog 5 Try.f5 Rows.fnExactNullityOfMapSpec Rows.fnExactNullityOfMapRow = true :=
  (and_of (and_of (and_of (and_of (and_of (and_of (and_of (and_of (and_of (and_of (and_of (and_of (and_of (and_of (and_of (and_of (and_of (and_of (and_of (and_of (and_of (and_of (and_of (and_of (and_of (and_of (and_of (and_of (and_of (and_of (and_of nullityOfMap_k0 nullityOfMap_k1) nullityOfMap_k2) nullityOfMap_k3) nullityOfMap_k4) nullityOfMap_k5) nullityOfMap_k6) nullityOfMap_k7) nullityOfMap_k8) nullityOfMap_k9) nullityOfMap_k10) nullityOfMap_k11) nullityOfMap_k12) nullityOfMap_k13) nullityOfMap_k14) nullityOfMap_k15) nullityOfMap_k16) nullityOfMap_k17) nullityOfMap_k18) nullityOfMap_k19) nullityOfMap_k20) nullityOfMap_k21) nullityOfMap_k22) nullityOfMap_k23) nullityOfMap_k24) nullityOfMap_k25) nullityOfMap_k26) nullityOfMap_k27) nullityOfMap_k28) nullityOfMap_k29) nullityOfMap_k30) nullityOfMap_k31)
theorem nullityOfMap_holds : Rows.FnExactNullityOfMapSaid :=
  OpenClaim.holds_of_wide 5 Try.f5 rfl rfl rfl rfl rfl rfl rfl ⟨rfl, rfl, rfl, rfl, rfl⟩ rfl rfl rfl rfl rfl (by kernel_rfl) Try.func5 nullityOfMap_closed
    nullityOfMap_inst nullityOfMap_wrap (fun os started H enc _ => nullityOfMap_lifted os started H enc)
end Go.Proofs.Ytdpoceijnbbmgaa
