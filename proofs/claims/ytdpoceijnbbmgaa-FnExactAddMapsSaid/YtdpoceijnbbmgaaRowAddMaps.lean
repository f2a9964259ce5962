/-
AddMaps answers as its model at every two lists, its answers share no memory, and both lists are as they were. No condition.
-/
import Derived.Test.YtdpoceijnbbmgaaAM
import Derived.Test.YtdpoceijnbbmgaaP
import Derived.Test.YtdpoceijnbbmgaaQ1
import Derived.ChangeMaps5
namespace Go.Proofs.Ytdpoceijnbbmgaa
open Go.ChangeShapes Go.WideShapes Go.ChangeAt Go.RowKit Go.ChangeMaps
set_option maxRecDepth 100000 in
theorem addMaps_lifted (os : Os) (started : os.Started) (H : Type) (enc : TypeId × Value → H) :
    ReturnsInHanded {} Try.checked os 4 .any (Rows.fnExactAddMapsSpec.pre6 enc Try.prog Try.f4 Rows.fnExactAddMapsRow.domain false) (Rows.fnExactAddMapsSpec.post enc Try.prog Try.f4 false true false false) := by
  refine returnsInHanded_of_change (C := Try.checked) Try.own started (by kernel_rfl) Try.func4
    (ChangeSpec.witness6 (enc := enc) (C := Try.checked) false ⟨#[], #[.slice none 0 0, .slice none 0 0], []⟩ 8 (by kernel_rfl) (by kernel_rfl) (by kernel_rfl) (by kernel_rfl)) ?_
  intro W base args ds gs before hval0 hW hcnd _
  have hval : ∀ (j : Nat) t v, Try.f4.params[j]? = some t → args[j]? = some v → Value.okWide Try.prog W .any base t v := hval0
  have hW' := hW
  obtain ⟨p, q, hA0, hV, rfl, hfz, hnd⟩ := hW
  have hA : DataW.TrodAll enc Try.prog W 0 (fun _ => true) true Try.f4.params.toList args.toList ds p := hA0
  rw [Try.params4] at hA hval
  obtain ⟨v0, v1, d0, d1, p0, p1, rfl, rfl, rfl, h0, h1⟩ := trodAll_two hA
  obtain ⟨rfl, rfl⟩ := trodVars_none hV
  obtain ⟨A0, n0, c0, f0, rfl, hn0, hs0, hw0⟩ := open_ints_arg (hval 0 22 v0 rfl rfl) h0
  obtain ⟨A1, n1, c1, f1, rfl, hn1, hs1, hw1⟩ := open_ints_arg (hval 1 22 v1 rfl rfl) h1
  clear hA0 hval0
  simp only [List.append_nil] at hW'
  have hlt0 : ∀ x ∈ p0, x.block < W.heap.size := fun x hx => hW'.lt x (by simp [hx])
  have hlt1 : ∀ x ∈ p1, x.block < W.heap.size := fun x hx => hW'.lt x (by simp [hx])
  refine (lawAddMaps A0 n0 c0 f0 A1 n1 c1 f1 W hn0 hn1 hs0 hs1).mono fun e W' ⟨he, hb⟩ => ?_
  subst he
  exact ⟨_, rfl, post_of_below (pa := p0 ++ (p1)) (pv := []) hW' (fun _ _ _ => trodAll_mk1 (shut_bool Try.underlying4 true))
    (fun sp hsp => trodAll_mk2 (stays Try.laidOut (by kernel_rfl) (of_decide_eq_true (by kernel_rfl)) h0 hb hlt0 (fun x hx => hsp x (by simp [hx]))) (stays Try.laidOut (by kernel_rfl) (of_decide_eq_true (by kernel_rfl)) h1 hb hlt1 (fun x hx => hsp x (by simp [hx])))) (fun _ _ => rfl) (by simp) hb
    (ok_one (by kernel_rfl) rfl (okWide_bool_mk Try.underlying4 true))⟩
theorem addMaps_k0 : (Rows.fnExactAddMapsRow.wf (OpenSpec.ofChange Rows.fnExactAddMapsSpec)) = true := by kernel_rfl
theorem addMaps_k1 : (laidOutB Try.pinned.checked.prog) = true := by kernel_rfl
theorem addMaps_k2 : (mapsRowed Try.pinned.checked.prog) = true := by kernel_rfl
theorem addMaps_k3 : (Try.f4.params.all (Try.pinned.checked.prog.readableRec ·)) = true := by kernel_rfl
theorem addMaps_k4 : (namedTie Try.pinned.checked.prog Rows.fnExactAddMapsRow.named Rows.fnExactAddMapsSpec.vars) = true := by kernel_rfl
theorem addMaps_k5 : ((Rows.fnExactAddMapsRow.stops == [])) = true := by kernel_rfl
theorem addMaps_k6 : ((Try.pinned.checked.prog.stops == [])) = true := by kernel_rfl
theorem addMaps_k7 : ((Rows.fnExactAddMapsRow.knobs == [])) = true := by kernel_rfl
theorem addMaps_k8 : ((Try.pinned.checked.prog.stopKnobs == [])) = true := by kernel_rfl
theorem addMaps_k9 : ((Rows.fnExactAddMapsRow.inPlace == Try.pinned.checked.prog.inPlace 4)) = true := by kernel_rfl
theorem addMaps_k10 : ((Rows.fnExactAddMapsRow.unfollowed == Try.pinned.checked.prog.unfollowed 4)) = true := by kernel_rfl
theorem addMaps_k11 : ((Rows.fnExactAddMapsRow.recurses == Try.pinned.checked.prog.recurses 4)) = true := by kernel_rfl
theorem addMaps_k12 : ((Rows.fnExactAddMapsRow.named == Try.pinned.checked.prog.varsNamed 4)) = true := by kernel_rfl
theorem addMaps_k13 : ((Rows.fnExactAddMapsRow.maps == (Try.f4.params.toList ++ Rows.fnExactAddMapsSpec.plain.varTypes Try.pinned.checked.prog).any (Try.pinned.checked.prog.mapsRec ·))) = true := by kernel_rfl
theorem addMaps_k14 : ((Rows.fnExactAddMapsRow.ifaces == (Try.f4.params.toList ++ Rows.fnExactAddMapsSpec.plain.varTypes Try.pinned.checked.prog).any (Try.pinned.checked.prog.ifacesRec ·))) = true := by kernel_rfl
theorem addMaps_k15 : ((Rows.fnExactAddMapsRow.mapsOut == Try.pinned.checked.prog.mapsAmong Try.f4.resultTypes.toList)) = true := by kernel_rfl
theorem addMaps_k16 : ((Rows.fnExactAddMapsRow.loops == (Try.f4.params.toList ++ Rows.fnExactAddMapsSpec.plain.varTypes Try.pinned.checked.prog).any (Try.pinned.checked.prog.loopsFrom ·))) = true := by kernel_rfl
theorem addMaps_k17 : ((Rows.fnExactAddMapsRow.wideKeys == (Try.f4.params.toList ++ Rows.fnExactAddMapsSpec.plain.varTypes Try.pinned.checked.prog ++ Try.f4.resultTypes.toList).any (Try.pinned.checked.prog.wideKeysFrom ·))) = true := by kernel_rfl
theorem addMaps_k18 : (Rows.fnExactAddMapsSpec.vars.all (Try.pinned.checked.prog.varReadable ·)) = true := by kernel_rfl
theorem addMaps_k19 : (Try.f4.resultTypes.all (fun t => Try.pinned.checked.prog.readableRec t && decide (t < Try.pinned.checked.prog.types.size))) = true := by kernel_rfl
theorem addMaps_k20 : ((Rows.fnExactAddMapsRow.ifacesOut == Try.f4.resultTypes.toList.any (Try.pinned.checked.prog.ifacesRec ·))) = true := by kernel_rfl
theorem addMaps_k21 : ((Rows.fnExactAddMapsRow.loopsOut == Try.f4.resultTypes.toList.any (Try.pinned.checked.prog.loopsFrom ·))) = true := by kernel_rfl
theorem addMaps_k22 : ((Rows.fnExactAddMapsRow.plainKeys == Try.pinned.checked.prog.plainKeys)) = true := by kernel_rfl
theorem addMaps_k23 : (Rows.fnExactAddMapsRow.shortTexts.isNone) = true := by kernel_rfl
theorem addMaps_k24 : (Try.pinned.checked.prog.stopsHeard) = true := by kernel_rfl
theorem addMaps_k25 : (Try.pinned.checked.prog.mayEnter) = true := x_enter
theorem addMaps_k26 : ((Rows.fnExactAddMapsRow.lifted == Try.pinned.checked.prog.liftsFinal)) = true := by rw [x_lifts]; rfl
theorem addMaps_k27 : ((Try.pinned.checked.prog.make == some Rows.fnExactAddMapsRow.make)) = true := by rw [x_make]; rfl
theorem addMaps_k28 : ((Rows.fnExactAddMapsRow.kinds == (if Rows.fnExactAddMapsRow.domain.isEmpty then [] else Try.f4.params.toList.map fun t => match Try.pinned.checked.prog.underlying t with | some (.int k) => some k | _ => none))) = true := by kernel_rfl
theorem addMaps_k29 : ((Rows.fnExactAddMapsRow.pinned == Rows.fnExactAddMapsRow.pinnedBy)) = true := by kernel_rfl
theorem addMaps_k30 : ((Rows.fnExactAddMapsRow.veiled == (Try.f4.params.toList ++ Rows.fnExactAddMapsSpec.plain.varTypes Try.pinned.checked.prog ++ Try.f4.resultTypes.toList).any (Try.pinned.checked.prog.veiledRec ·))) = true := by kernel_rfl
theorem addMaps_k31 : (Rows.fnExactAddMapsRow.veiledFits Try.pinned.checked.prog Try.f4.params.toList (Try.f4.params.toList ++ Rows.fnExactAddMapsSpec.plain.varTypes Try.pinned.checked.prog ++ Try.f4.resultTypes.toList)) = true := by kernel_rfl
theorem addMaps_pkg : decide (Check.packageOf Try.f4.name = "main") = false := by kernel_rfl
theorem addMaps_inst : Func.isInstance Try.pinned.checked.prog Try.f4 Rows.fnExactAddMapsRow.origin Rows.fnExactAddMapsRow.targs := of_decide_eq_true (by kernel_rfl)
theorem addMaps_wrap : Func.isWrapper Try.pinned.checked.prog Try.f4 Rows.fnExactAddMapsRow.wrapper Rows.fnExactAddMapsRow.mainSum := by
  unfold Func.isWrapper; rw [if_neg (of_decide_eq_false addMaps_pkg)]; exact ⟨rfl, rfl⟩
set_option maxRecDepth 100000 in
theorem addMaps_closed : joinedFacts Try.pinned.checked.prog 4 Try.f4 Rows.fnExactAddMapsSpec Rows.fnExactAddMapsRow = true :=
  (and_of (and_of (and_of (and_of (and_of (and_of (and_of (and_of (and_of (and_of (and_of (and_of (and_of (and_of (and_of (and_of (and_of (and_of (and_of (and_of (and_of (and_of (and_of (and_of (and_of (and_of (and_of (and_of (and_of (and_of (and_of addMaps_k0 addMaps_k1) addMaps_k2) addMaps_k3) addMaps_k4) addMaps_k5) addMaps_k6) addMaps_k7) addMaps_k8) addMaps_k9) addMaps_k10) addMaps_k11) addMaps_k12) addMaps_k13) addMaps_k14) addMaps_k15) addMaps_k16) addMaps_k17) addMaps_k18) addMaps_k19) addMaps_k20) addMaps_k21) addMaps_k22) addMaps_k23) addMaps_k24) addMaps_k25) addMaps_k26) addMaps_k27) addMaps_k28) addMaps_k29) addMaps_k30) addMaps_k31)
theorem addMaps_holds : Rows.FnExactAddMapsSaid :=
  OpenClaim.holds_of_wide 4 Try.f4 rfl rfl rfl rfl rfl rfl rfl ⟨rfl, rfl, rfl, rfl, rfl⟩ rfl rfl rfl rfl rfl (by kernel_rfl) Try.func4 addMaps_closed
    addMaps_inst addMaps_wrap (fun os started H enc _ => addMaps_lifted os started H enc)
end Go.Proofs.Ytdpoceijnbbmgaa
