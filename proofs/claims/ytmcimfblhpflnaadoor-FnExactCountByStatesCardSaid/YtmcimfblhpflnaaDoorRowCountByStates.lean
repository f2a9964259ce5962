/-
CountByStates answers as its model at every graph and every number, and the graph is as it was. The table of math/bits is tied to the program's text.
-/
import Derived.Test.YtmcimfblhpflnaaDoorUB
import Derived.Test.YtmcimfblhpflnaaDoorP
import Derived.Test.YtmcimfblhpflnaaDoorZc
import Derived.Test.YtmcimfblhpflnaaDoorQ2
import Derived.Test.YtmcimfblhpflnaaDoorTie
import Derived.Test.YtmcimfblhpflnaaDoorCards
import Derived.SevenTiedAt
namespace Go.Proofs.YtmcimfblhpflnaaDoor
open Go.ChangeShapes Go.WideShapes Go.ChangeAt Go.WideElems Go.RowKit
set_option maxRecDepth 100000 in
theorem countByStates_lifted (os : Os) (started : os.Started) (H : Type) (enc : TypeId × Value → H) :
    ReturnsInHanded {} Tryd.checked os 10 .any (fun w args => (Rows.fnExactCountByStatesSpec.pre enc Tryd.prog Tryd.f10 [] false w args ∧ laidMetH Tryd.prog laidL w) ∧ sizedMet enc Tryd.prog Tryd.f10 (OpenSpec.ofChange Rows.fnExactCountByStatesSpec) false w args)
      (Rows.fnExactCountByStatesSpec.post enc Tryd.prog Tryd.f10 false true false false) := by
  refine returnsInHanded_of_change_and (C := Tryd.checked) (X := fun w _ => laidMetH Tryd.prog laidL w) (fun _ _ _ hh h => h.of_heap hh) Tryd.own started (by kernel_rfl) Tryd.func10
    (ChangeSpec.witness_shaped (enc := enc) (C := Tryd.checked) (os := os) (X := fun w _ => laidMetH Tryd.prog laidL w) false (World.doorLaid Tryd.prog 400 os) #[.agg #[.slice none 0 0, .bool false], .int .i64 0] 8 rfl (World.shaped_of_RefB (by kernel_rfl) (by kernel_rfl)) (by kernel_rfl) (by kernel_rfl) (by kernel_rfl) (door_met os _)) ?_
  intro W base args ds gs before hval0 hW _ _ hL _
  have hval : ∀ (j : Nat) t v, Tryd.f10.params[j]? = some t → args[j]? = some v → Value.okWide Tryd.prog W .any base t v := hval0
  have hW' := hW
  obtain ⟨p, q, hA0, hV, rfl, hfz, hnd⟩ := hW
  have hA : DataW.TrodAll enc Tryd.prog W 0 (fun _ => true) true Tryd.f10.params.toList args.toList ds p := hA0
  rw [Tryd.params10] at hA hval
  obtain ⟨v0, v1, d0, d1, p0, p1, rfl, rfl, rfl, h0, h1⟩ := trodAll_two hA
  obtain ⟨rfl, rfl⟩ := trodVars_none hV
  obtain ⟨A0, n0, c0, f0, own0, rfl, hn0, hs0, hw0⟩ := open_graph (hval 0 24 v0 rfl rfl) h0
  obtain ⟨a1, rfl, rfl, rfl, wa1⟩ := open_int Tryd.underlying3 (hval 1 3 v1 rfl rfl) h1
  have hT := tab_of_laid hL
  clear hA0 hval0
  simp only [List.append_nil] at hW'
  have hlt0 : ∀ x ∈ p0, x.block < W.heap.size := fun x hx => hW'.lt x (by simp [hx])
  refine (lawCountStates A0 n0 c0 f0 own0 a1 W hn0 hs0 hT).mono fun e W' ⟨he, hb⟩ => ?_
  subst he
  exact ⟨_, rfl, post_of_below (pa := p0 ++ ([])) (pv := []) hW' (fun _ _ _ => trodAll_mk1 (shut_bool Tryd.underlying4 true))
    (fun sp hsp => trodAll_mk2 (stays Tryd.laidOut (by kernel_rfl) (of_decide_eq_true (by kernel_rfl)) h0 hb hlt0 (fun x hx => hsp x (by simp [hx]))) (shut_int Tryd.underlying3 wa1)) (fun _ _ => rfl) (by simp) hb
    (ok_one (by kernel_rfl) rfl (okWide_bool_mk Tryd.underlying4 true))⟩
theorem countByStates_k0 : (Rows.fnExactCountByStatesRow.wf (OpenSpec.ofChange Rows.fnExactCountByStatesSpec)) = true := by kernel_rfl
theorem countByStates_k1 : (laidOutB Tryd.pinned.checked.prog) = true := by kernel_rfl
theorem countByStates_k2 : (mapsRowed Tryd.pinned.checked.prog) = true := by kernel_rfl
theorem countByStates_k3 : (Tryd.f10.params.all (Tryd.pinned.checked.prog.readableRec ·)) = true := by kernel_rfl
theorem countByStates_k4 : (namedTie Tryd.pinned.checked.prog Rows.fnExactCountByStatesRow.named Rows.fnExactCountByStatesSpec.vars) = true := by kernel_rfl
theorem countByStates_k5 : ((Rows.fnExactCountByStatesRow.stops == [])) = true := by kernel_rfl
theorem countByStates_k6 : ((Tryd.pinned.checked.prog.stops == [])) = true := by kernel_rfl
theorem countByStates_k7 : ((Rows.fnExactCountByStatesRow.knobs == [])) = true := by kernel_rfl
theorem countByStates_k8 : ((Tryd.pinned.checked.prog.stopKnobs == [])) = true := by kernel_rfl
theorem countByStates_k9 : ((Rows.fnExactCountByStatesRow.inPlace == Tryd.pinned.checked.prog.inPlace 10)) = true := by kernel_rfl
theorem countByStates_k10 : ((Rows.fnExactCountByStatesRow.unfollowed == Tryd.pinned.checked.prog.unfollowed 10)) = true := by kernel_rfl
theorem countByStates_k11 : ((Rows.fnExactCountByStatesRow.recurses == Tryd.pinned.checked.prog.recurses 10)) = true := by kernel_rfl
theorem countByStates_k12 : ((Rows.fnExactCountByStatesRow.named == Tryd.pinned.checked.prog.varsNamed 10)) = true := by kernel_rfl
theorem countByStates_k13 : ((Rows.fnExactCountByStatesRow.maps == (Tryd.f10.params.toList ++ Rows.fnExactCountByStatesSpec.plain.varTypes Tryd.pinned.checked.prog).any (Tryd.pinned.checked.prog.mapsRec ·))) = true := by kernel_rfl
theorem countByStates_k14 : ((Rows.fnExactCountByStatesRow.ifaces == (Tryd.f10.params.toList ++ Rows.fnExactCountByStatesSpec.plain.varTypes Tryd.pinned.checked.prog).any (Tryd.pinned.checked.prog.ifacesRec ·))) = true := by kernel_rfl
theorem countByStates_k15 : ((Rows.fnExactCountByStatesRow.mapsOut == Tryd.pinned.checked.prog.mapsAmong Tryd.f10.resultTypes.toList)) = true := by kernel_rfl
theorem countByStates_k16 : ((Rows.fnExactCountByStatesRow.loops == (Tryd.f10.params.toList ++ Rows.fnExactCountByStatesSpec.plain.varTypes Tryd.pinned.checked.prog).any (Tryd.pinned.checked.prog.loopsFrom ·))) = true := by kernel_rfl
theorem countByStates_k17 : ((Rows.fnExactCountByStatesRow.wideKeys == (Tryd.f10.params.toList ++ Rows.fnExactCountByStatesSpec.plain.varTypes Tryd.pinned.checked.prog ++ Tryd.f10.resultTypes.toList).any (Tryd.pinned.checked.prog.wideKeysFrom ·))) = true := by kernel_rfl
theorem countByStates_k18 : (Rows.fnExactCountByStatesSpec.vars.all (Tryd.pinned.checked.prog.varReadable ·)) = true := by kernel_rfl
theorem countByStates_k19 : (Tryd.f10.resultTypes.all (fun t => Tryd.pinned.checked.prog.readableRec t && decide (t < Tryd.pinned.checked.prog.types.size))) = true := by kernel_rfl
theorem countByStates_k20 : ((Rows.fnExactCountByStatesRow.ifacesOut == Tryd.f10.resultTypes.toList.any (Tryd.pinned.checked.prog.ifacesRec ·))) = true := by kernel_rfl
theorem countByStates_k21 : ((Rows.fnExactCountByStatesRow.loopsOut == Tryd.f10.resultTypes.toList.any (Tryd.pinned.checked.prog.loopsFrom ·))) = true := by kernel_rfl
theorem countByStates_k22 : ((Rows.fnExactCountByStatesRow.plainKeys == Tryd.pinned.checked.prog.plainKeys)) = true := by kernel_rfl
theorem countByStates_k23 : (Rows.fnExactCountByStatesRow.shortTexts.isNone) = true := by kernel_rfl
theorem countByStates_k24 : (Tryd.pinned.checked.prog.stopsHeard) = true := by kernel_rfl
theorem countByStates_k25 : (Tryd.pinned.checked.prog.mayEnter) = true := x_enter
theorem countByStates_k26 : ((Rows.fnExactCountByStatesRow.lifted == Tryd.pinned.checked.prog.liftsFinal)) = true := by rw [x_lifts]; rfl
theorem countByStates_k27 : ((Tryd.pinned.checked.prog.make == some Rows.fnExactCountByStatesRow.make)) = true := by rw [x_make]; rfl
theorem countByStates_k28 : ((Rows.fnExactCountByStatesRow.kinds == (if Rows.fnExactCountByStatesRow.domain.isEmpty then [] else Tryd.f10.params.toList.map fun t => match Tryd.pinned.checked.prog.underlying t with | some (.int k) => some k | _ => none))) = true := by kernel_rfl
theorem countByStates_k29 : ((Rows.fnExactCountByStatesRow.pinned == Rows.fnExactCountByStatesRow.pinnedBy)) = true := by kernel_rfl
theorem countByStates_k30 : ((Rows.fnExactCountByStatesRow.veiled == (Tryd.f10.params.toList ++ Rows.fnExactCountByStatesSpec.plain.varTypes Tryd.pinned.checked.prog ++ Tryd.f10.resultTypes.toList).any (Tryd.pinned.checked.prog.veiledRec ·))) = true := by kernel_rfl
theorem countByStates_k31 : (Rows.fnExactCountByStatesRow.veiledFits Tryd.pinned.checked.prog Tryd.f10.params.toList (Tryd.f10.params.toList ++ Rows.fnExactCountByStatesSpec.plain.varTypes Tryd.pinned.checked.prog ++ Tryd.f10.resultTypes.toList)) = true := by kernel_rfl
theorem countByStates_pkg : decide (Check.packageOf Tryd.f10.name = "main") = false := by kernel_rfl
theorem countByStates_inst : Func.isInstance Tryd.pinned.checked.prog Tryd.f10 Rows.fnExactCountByStatesRow.origin Rows.fnExactCountByStatesRow.targs := of_decide_eq_true (by kernel_rfl)
theorem countByStates_wrap : Func.isWrapper Tryd.pinned.checked.prog Tryd.f10 Rows.fnExactCountByStatesRow.wrapper Rows.fnExactCountByStatesRow.mainSum := by
  unfold Func.isWrapper; rw [if_neg (of_decide_eq_false countByStates_pkg)]; exact ⟨rfl, rfl⟩
set_option maxRecDepth 100000 in
theorem countByStates_closed : joinedFacts Tryd.pinned.checked.prog 10 Tryd.f10 Rows.fnExactCountByStatesSpec Rows.fnExactCountByStatesRow = true :=
  (and_of (and_of (and_of (and_of (and_of (and_of (and_of (and_of (and_of (and_of (and_of (and_of (and_of (and_of (and_of (and_of (and_of (and_of (and_of (and_of (and_of (and_of (and_of (and_of (and_of (and_of (and_of (and_of (and_of (and_of (and_of countByStates_k0 countByStates_k1) countByStates_k2) countByStates_k3) countByStates_k4) countByStates_k5) countByStates_k6) countByStates_k7) countByStates_k8) countByStates_k9) countByStates_k10) countByStates_k11) countByStates_k12) countByStates_k13) countByStates_k14) countByStates_k15) countByStates_k16) countByStates_k17) countByStates_k18) countByStates_k19) countByStates_k20) countByStates_k21) countByStates_k22) countByStates_k23) countByStates_k24) countByStates_k25) countByStates_k26) countByStates_k27) countByStates_k28) countByStates_k29) countByStates_k30) countByStates_k31)
theorem countByStates_holds : Rows.FnExactCountByStatesSaid :=
  OpenClaim.holds_of_wide 10 Tryd.f10 rfl rfl rfl rfl rfl rfl rfl ⟨rfl, rfl, rfl, rfl, rfl⟩ rfl rfl rfl rfl rfl (by kernel_rfl) Tryd.func10 countByStates_closed
    countByStates_inst countByStates_wrap (fun os started H enc _ => countByStates_lifted os started H enc)
theorem countByStates_w3 : Tryd.prog.wantsStandIn 3 = false := by kernel_rfl
theorem countByStates_w24 : Tryd.prog.wantsStandIn 24 = false := by kernel_rfl
theorem countByStates_name : Tryd.prog.funcNamed "loop.example/g01146/laws.FnExactCountByStates" = some 10 := by kernel_rfl
theorem countByStates_card : Rows.FnExactCountByStatesCardSaid :=
  Claim7.holds_tied_plain_at .later [] [.data, .data] true (true, "d9f68eeca04446aeb59a10a6381a8f5e3305cfa5fea7ce90659e0ad35415a417") false
    countByStates_holds (fun _ h => by cases h) (by kernel_rfl) (fun _ h => by cases h) fnExactCountByStates_row_tie rfl ⟨rfl, rfl⟩ (by kernel_rfl) rfl
    (fun f fn hf hfn => by
      obtain rfl : f = 10 := Option.some.inj (countByStates_name.symm.trans hf) |>.symm
      obtain rfl : fn = Tryd.f10 := (Option.some.inj (Tryd.func10.symm.trans hfn)).symm
      exact ⟨by kernel_rfl, fun j t ht => by
        rw [Tryd.params10] at ht
        have hmem : t ∈ ([24, 3] : List TypeId) := by
          have := Array.mem_of_getElem? ht
          simpa using this
        simp only [List.mem_cons, List.not_mem_nil, or_false] at hmem
        rcases hmem with rfl | rfl
        · exact countByStates_w24
        · exact countByStates_w3⟩)
    (by kernel_rfl)
end Go.Proofs.YtmcimfblhpflnaaDoor
