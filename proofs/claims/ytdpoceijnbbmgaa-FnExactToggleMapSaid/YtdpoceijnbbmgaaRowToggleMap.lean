/-
ToggleMap answers as its model at every graph, its answers share no memory, and the graph is as it was. No condition.
-/
import Derived.Test.YtdpoceijnbbmgaaTM
import Derived.Test.YtdpoceijnbbmgaaP
import Derived.Test.YtdpoceijnbbmgaaQ1
import Derived.ChangeMaps5
namespace Go.Proofs.Ytdpoceijnbbmgaa
open Go.ChangeShapes Go.WideShapes Go.ChangeAt Go.RowKit Go.ChangeMaps
set_option maxRecDepth 100000 in
theorem toggleMap_lifted (os : Os) (started : os.Started) (H : Type) (enc : TypeId × Value → H) :
    ReturnsInHanded {} Try.checked os 3 .any (Rows.fnExactToggleMapSpec.pre6 enc Try.prog Try.f3 Rows.fnExactToggleMapRow.domain false) (Rows.fnExactToggleMapSpec.post enc Try.prog Try.f3 false true false false) := by
  refine returnsInHanded_of_change (C := Try.checked) Try.own started (by kernel_rfl) Try.func3
    (ChangeSpec.witness6 (enc := enc) (C := Try.checked) false ⟨#[], #[.agg #[.slice none 0 0, .bool false]], []⟩ 8 (by kernel_rfl) (by kernel_rfl) (by kernel_rfl) (by kernel_rfl)) ?_
  intro W base args ds gs before hval0 hW hcnd _
  have hval : ∀ (j : Nat) t v, Try.f3.params[j]? = some t → args[j]? = some v → Value.okWide Try.prog W .any base t v := hval0
  have hW' := hW
  obtain ⟨p, q, hA0, hV, rfl, hfz, hnd⟩ := hW
  have hA : DataW.TrodAll enc Try.prog W 0 (fun _ => true) true Try.f3.params.toList args.toList ds p := hA0
  rw [Try.params3] at hA hval
  obtain ⟨v0, d0, rfl, rfl, h0⟩ := trodAll_one hA
  obtain ⟨rfl, rfl⟩ := trodVars_none hV
  obtain ⟨A0, n0, c0, f0, own0, rfl, hn0, hs0, hw0⟩ := open_graph (hval 0 24 v0 rfl rfl) h0
  clear hA0 hval0
  simp only [List.append_nil] at hW'
  have hlt0 : ∀ x ∈ p, x.block < W.heap.size := fun x hx => hW'.lt x (by simp [hx])
  refine (lawToggleMap A0 n0 c0 f0 own0 W hn0 hs0).mono fun e W' ⟨he, hb⟩ => ?_
  subst he
  exact ⟨_, rfl, post_of_below (pa := p) (pv := []) hW' (fun _ _ _ => trodAll_mk1 (shut_bool Try.underlying4 true))
    (fun sp hsp => trodAll_mk1 (stays Try.laidOut (by kernel_rfl) (of_decide_eq_true (by kernel_rfl)) h0 hb hlt0 (fun x hx => hsp x (by simp [hx])))) (fun _ _ => rfl) (by simp) hb
    (ok_one (by kernel_rfl) rfl (okWide_bool_mk Try.underlying4 true))⟩
theorem toggleMap_k0 : (Rows.fnExactToggleMapRow.wf (OpenSpec.ofChange Rows.fnExactToggleMapSpec)) = true := by kernel_rfl
theorem toggleMap_k1 : (laidOutB Try.pinned.checked.prog) = true := by kernel_rfl
theorem toggleMap_k2 : (mapsRowed Try.pinned.checked.prog) = true := by kernel_rfl
theorem toggleMap_k3 : (Try.f3.params.all (Try.pinned.checked.prog.readableRec ·)) = true := by kernel_rfl
theorem toggleMap_k4 : (namedTie Try.pinned.checked.prog Rows.fnExactToggleMapRow.named Rows.fnExactToggleMapSpec.vars) = true := by kernel_rfl
theorem toggleMap_k5 : ((Rows.fnExactToggleMapRow.stops == [])) = true := by kernel_rfl
theorem toggleMap_k6 : ((Try.pinned.checked.prog.stops == [])) = true := by kernel_rfl
theorem toggleMap_k7 : ((Rows.fnExactToggleMapRow.knobs == [])) = true := by kernel_rfl
theorem toggleMap_k8 : ((Try.pinned.checked.prog.stopKnobs == [])) = true := by kernel_rfl
theorem toggleMap_k9 : ((Rows.fnExactToggleMapRow.inPlace == Try.pinned.checked.prog.inPlace 3)) = true := by kernel_rfl
theorem toggleMap_k10 : ((Rows.fnExactToggleMapRow.unfollowed == Try.pinned.checked.prog.unfollowed 3)) = true := by kernel_rfl
theorem toggleMap_k11 : ((Rows.fnExactToggleMapRow.recurses == Try.pinned.checked.prog.recurses 3)) = true := by kernel_rfl
theorem toggleMap_k12 : ((Rows.fnExactToggleMapRow.named == Try.pinned.checked.prog.varsNamed 3)) = true := by kernel_rfl
theorem toggleMap_k13 : ((Rows.fnExactToggleMapRow.maps == (Try.f3.params.toList ++ Rows.fnExactToggleMapSpec.plain.varTypes Try.pinned.checked.prog).any (Try.pinned.checked.prog.mapsRec ·))) = true := by kernel_rfl
theorem toggleMap_k14 : ((Rows.fnExactToggleMapRow.ifaces == (Try.f3.params.toList ++ Rows.fnExactToggleMapSpec.plain.varTypes Try.pinned.checked.prog).any (Try.pinned.checked.prog.ifacesRec ·))) = true := by kernel_rfl
theorem toggleMap_k15 : ((Rows.fnExactToggleMapRow.mapsOut == Try.pinned.checked.prog.mapsAmong Try.f3.resultTypes.toList)) = true := by kernel_rfl
theorem toggleMap_k16 : ((Rows.fnExactToggleMapRow.loops == (Try.f3.params.toList ++ Rows.fnExactToggleMapSpec.plain.varTypes Try.pinned.checked.prog).any (Try.pinned.checked.prog.loopsFrom ·))) = true := by kernel_rfl
theorem toggleMap_k17 : ((Rows.fnExactToggleMapRow.wideKeys == (Try.f3.params.toList ++ Rows.fnExactToggleMapSpec.plain.varTypes Try.pinned.checked.prog ++ Try.f3.resultTypes.toList).any (Try.pinned.checked.prog.wideKeysFrom ·))) = true := by kernel_rfl
theorem toggleMap_k18 : (Rows.fnExactToggleMapSpec.vars.all (Try.pinned.checked.prog.varReadable ·)) = true := by kernel_rfl
theorem toggleMap_k19 : (Try.f3.resultTypes.all (fun t => Try.pinned.checked.prog.readableRec t && decide (t < Try.pinned.checked.prog.types.size))) = true := by kernel_rfl
theorem toggleMap_k20 : ((Rows.fnExactToggleMapRow.ifacesOut == Try.f3.resultTypes.toList.any (Try.pinned.checked.prog.ifacesRec ·))) = true := by kernel_rfl
theorem toggleMap_k21 : ((Rows.fnExactToggleMapRow.loopsOut == Try.f3.resultTypes.toList.any (Try.pinned.checked.prog.loopsFrom ·))) = true := by kernel_rfl
theorem toggleMap_k22 : ((Rows.fnExactToggleMapRow.plainKeys == Try.pinned.checked.prog.plainKeys)) = true := by kernel_rfl
theorem toggleMap_k23 : (Rows.fnExactToggleMapRow.shortTexts.isNone) = true := by kernel_rfl
theorem toggleMap_k24 : (Try.pinned.checked.prog.stopsHeard) = true := by kernel_rfl
theorem toggleMap_k25 : (Try.pinned.checked.prog.mayEnter) = true := x_enter
theorem toggleMap_k26 : ((Rows.fnExactToggleMapRow.lifted == Try.pinned.checked.prog.liftsFinal)) = true := by rw [x_lifts]; rfl
theorem toggleMap_k27 : ((Try.pinned.checked.prog.make == some Rows.fnExactToggleMapRow.make)) = true := by rw [x_make]; rfl
theorem toggleMap_k28 : ((Rows.fnExactToggleMapRow.kinds == (if Rows.fnExactToggleMapRow.domain.isEmpty then [] else Try.f3.params.toList.map fun t => match Try.pinned.checked.prog.underlying t with | some (.int k) => some k | _ => none))) = true := by kernel_rfl
theorem toggleMap_k29 : ((Rows.fnExactToggleMapRow.pinned == Rows.fnExactToggleMapRow.pinnedBy)) = true := by kernel_rfl
theorem toggleMap_k30 : ((Rows.fnExactToggleMapRow.veiled == (Try.f3.params.toList ++ Rows.fnExactToggleMapSpec.plain.varTypes Try.pinned.checked.prog ++ Try.f3.resultTypes.toList).any (Try.pinned.checked.prog.veiledRec ·))) = true := by kernel_rfl
theorem toggleMap_k31 : (Rows.fnExactToggleMapRow.veiledFits Try.pinned.checked.prog Try.f3.params.toList (Try.f3.params.toList ++ Rows.fnExactToggleMapSpec.plain.varTypes Try.pinned.checked.prog ++ Try.f3.resultTypes.toList)) = true := by kernel_rfl
theorem toggleMap_pkg : decide (Check.packageOf Try.f3.name = "main") = false := by kernel_rfl
theorem toggleMap_inst : Func.isInstance Try.pinned.checked.prog Try.f3 Rows.fnExactToggleMapRow.origin Rows.fnExactToggleMapRow.targs := of_decide_eq_true (by kernel_rfl)
theorem toggleMap_wrap : Func.isWrapper Try.pinned.checked.prog Try.f3 Rows.fnExactToggleMapRow.wrapper Rows.fnExactToggleMapRow.mainSum := by
  unfold Func.isWrapper; rw [if_neg (of_decide_eq_false toggleMap_pkg)]; exact ⟨rfl, rfl⟩
set_option maxRecDepth 100000 in
theorem toggleMap_closed : joinedFacts Try.pinned.checked.prog 3 Try.f3 Rows.fnExactToggleMapSpec Rows.fnExactToggleMapRow = true :=
  (and_of (and_of (and_of (and_of (and_of (and_of (and_of (and_of (and_of (and_of (and_of (and_of (and_of (and_of (and_of (and_of (and_of (and_of (and_of (and_of (and_of (and_of (and_of (and_of (and_of (and_of (and_of (and_of (and_of (and_of (and_of toggleMap_k0 toggleMap_k1) toggleMap_k2) toggleMap_k3) toggleMap_k4) toggleMap_k5) toggleMap_k6) toggleMap_k7) toggleMap_k8) toggleMap_k9) toggleMap_k10) toggleMap_k11) toggleMap_k12) toggleMap_k13) toggleMap_k14) toggleMap_k15) toggleMap_k16) toggleMap_k17) toggleMap_k18) toggleMap_k19) toggleMap_k20) toggleMap_k21) toggleMap_k22) toggleMap_k23) toggleMap_k24) toggleMap_k25) toggleMap_k26) toggleMap_k27) toggleMap_k28) toggleMap_k29) toggleMap_k30) toggleMap_k31)
theorem toggleMap_holds : Rows.FnExactToggleMapSaid :=
  OpenClaim.holds_of_wide 3 Try.f3 rfl rfl rfl rfl rfl rfl rfl ⟨rfl, rfl, rfl, rfl, rfl⟩ rfl rfl rfl rfl rfl (by kernel_rfl) Try.func3 toggleMap_closed
    toggleMap_inst toggleMap_wrap (fun os started H enc _ => toggleMap_lifted os started H enc)
end Go.Proofs.Ytdpoceijnbbmgaa
