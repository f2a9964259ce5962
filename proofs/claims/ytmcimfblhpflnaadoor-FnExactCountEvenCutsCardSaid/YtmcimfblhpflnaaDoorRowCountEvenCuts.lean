/-
CountEvenCuts answers as its model at every graph, and the graph is as it was. The table of math/bits is tied to the program's text.
-/
import Derived.Test.YtmcimfblhpflnaaDoorEC
import Derived.Test.YtmcimfblhpflnaaDoorP
import Derived.Test.YtmcimfblhpflnaaDoorZc
import Derived.Test.YtmcimfblhpflnaaDoorQ2
import Derived.Test.YtmcimfblhpflnaaDoorTie
import Derived.Test.YtmcimfblhpflnaaDoorCards
import Derived.SevenTiedAt
namespace Go.Proofs.YtmcimfblhpflnaaDoor
open Go.ChangeShapes Go.WideShapes Go.ChangeAt Go.WideElems Go.RowKit
set_option maxRecDepth 100000 in
theorem countEvenCuts_lifted (os : Os) (started : os.Started) (H : Type) (enc : TypeId × Value → H) :
    ReturnsInHanded {} Tryd.checked os 13 .any (fun w args => (Rows.fnExactCountEvenCutsSpec.pre enc Tryd.prog Tryd.f13 [] false w args ∧ laidMetH Tryd.prog laidL w) ∧ sizedMet enc Tryd.prog Tryd.f13 (OpenSpec.ofChange Rows.fnExactCountEvenCutsSpec) false w args)
      (Rows.fnExactCountEvenCutsSpec.post enc Tryd.prog Tryd.f13 false true false false) := by
  refine returnsInHanded_of_change_and (C := Tryd.checked) (X := fun w _ => laidMetH Tryd.prog laidL w) (fun _ _ _ hh h => h.of_heap hh) Tryd.own started (by kernel_rfl) Tryd.func13
    (ChangeSpec.witness_shaped (enc := enc) (C := Tryd.checked) (os := os) (X := fun w _ => laidMetH Tryd.prog laidL w) false (World.doorLaid Tryd.prog 400 os) #[.agg #[.slice none 0 0, .bool false]] 8 rfl (World.shaped_of_RefB (by kernel_rfl) (by kernel_rfl)) (by kernel_rfl) (by kernel_rfl) (by kernel_rfl) (door_met os _)) ?_
  intro W base args ds gs before hval0 hW _ _ hL _
  have hval : ∀ (j : Nat) t v, Tryd.f13.params[j]? = some t → args[j]? = some v → Value.okWide Tryd.prog W .any base t v := hval0
  have hW' := hW
  obtain ⟨p, q, hA0, hV, rfl, hfz, hnd⟩ := hW
  have hA : DataW.TrodAll enc Tryd.prog W 0 (fun _ => true) true Tryd.f13.params.toList args.toList ds p := hA0
  rw [Tryd.params13] at hA hval
  obtain ⟨v0, d0, rfl, rfl, h0⟩ := trodAll_one hA
  obtain ⟨rfl, rfl⟩ := trodVars_none hV
  obtain ⟨A0, n0, c0, f0, own0, rfl, hn0, hs0, hw0⟩ := open_graph (hval 0 24 v0 rfl rfl) h0
  have hT := tab_of_laid hL
  clear hA0 hval0
  simp only [List.append_nil] at hW'
  have hlt0 : ∀ x ∈ p, x.block < W.heap.size := fun x hx => hW'.lt x (by simp [hx])
  refine (lawEvenCuts A0 n0 c0 f0 own0 W hn0 hs0 hT).mono fun e W' ⟨he, hb⟩ => ?_
  subst he
  exact ⟨_, rfl, post_of_below (pa := p) (pv := []) hW' (fun _ _ _ => trodAll_mk1 (shut_bool Tryd.underlying4 true))
    (fun sp hsp => trodAll_mk1 (stays Tryd.laidOut (by kernel_rfl) (of_decide_eq_true (by kernel_rfl)) h0 hb hlt0 (fun x hx => hsp x (by simp [hx])))) (fun _ _ => rfl) (by simp) hb
    (ok_one (by kernel_rfl) rfl (okWide_bool_mk Tryd.underlying4 true))⟩
theorem countEvenCuts_k0 : (Rows.fnExactCountEvenCutsRow.wf (OpenSpec.ofChange Rows.fnExactCountEvenCutsSpec)) = true := by kernel_rfl
theorem countEvenCuts_k1 : (laidOutB Tryd.pinned.checked.prog) = true := by kernel_rfl
theorem countEvenCuts_k2 : (mapsRowed Tryd.pinned.checked.prog) = true := by kernel_rfl
theorem countEvenCuts_k3 : (Tryd.f13.params.all (Tryd.pinned.checked.prog.readableRec ·)) = true := by kernel_rfl
theorem countEvenCuts_k4 : (namedTie Tryd.pinned.checked.prog Rows.fnExactCountEvenCutsRow.named Rows.fnExactCountEvenCutsSpec.vars) = true := by kernel_rfl
theorem countEvenCuts_k5 : ((Rows.fnExactCountEvenCutsRow.stops == [])) = true := by kernel_rfl
theorem countEvenCuts_k6 : ((Tryd.pinned.checked.prog.stops == [])) = true := by kernel_rfl
theorem countEvenCuts_k7 : ((Rows.fnExactCountEvenCutsRow.knobs == [])) = true := by kernel_rfl
theorem countEvenCuts_k8 : ((Tryd.pinned.checked.prog.stopKnobs == [])) = true := by kernel_rfl
theorem countEvenCuts_k9 : ((Rows.fnExactCountEvenCutsRow.inPlace == Tryd.pinned.checked.prog.inPlace 13)) = true := by kernel_rfl
theorem countEvenCuts_k10 : ((Rows.fnExactCountEvenCutsRow.unfollowed == Tryd.pinned.checked.prog.unfollowed 13)) = true := by kernel_rfl
theorem countEvenCuts_k11 : ((Rows.fnExactCountEvenCutsRow.recurses == Tryd.pinned.checked.prog.recurses 13)) = true := by kernel_rfl
theorem countEvenCuts_k12 : ((Rows.fnExactCountEvenCutsRow.named == Tryd.pinned.checked.prog.varsNamed 13)) = true := by kernel_rfl
theorem countEvenCuts_k13 : ((Rows.fnExactCountEvenCutsRow.maps == (Tryd.f13.params.toList ++ Rows.fnExactCountEvenCutsSpec.plain.varTypes Tryd.pinned.checked.prog).any (Tryd.pinned.checked.prog.mapsRec ·))) = true := by kernel_rfl
theorem countEvenCuts_k14 : ((Rows.fnExactCountEvenCutsRow.ifaces == (Tryd.f13.params.toList ++ Rows.fnExactCountEvenCutsSpec.plain.varTypes Tryd.pinned.checked.prog).any (Tryd.pinned.checked.prog.ifacesRec ·))) = true := by kernel_rfl
theorem countEvenCuts_k15 : ((Rows.fnExactCountEvenCutsRow.mapsOut == Tryd.pinned.checked.prog.mapsAmong Tryd.f13.resultTypes.toList)) = true := by kernel_rfl
theorem countEvenCuts_k16 : ((Rows.fnExactCountEvenCutsRow.loops == (Tryd.f13.params.toList ++ Rows.fnExactCountEvenCutsSpec.plain.varTypes Tryd.pinned.checked.prog).any (Tryd.pinned.checked.prog.loopsFrom ·))) = true := by kernel_rfl
theorem countEvenCuts_k17 : ((Rows.fnExactCountEvenCutsRow.wideKeys == (Tryd.f13.params.toList ++ Rows.fnExactCountEvenCutsSpec.plain.varTypes Tryd.pinned.checked.prog ++ Tryd.f13.resultTypes.toList).any (Tryd.pinned.checked.prog.wideKeysFrom ·))) = true := by kernel_rfl
theorem countEvenCuts_k18 : (Rows.fnExactCountEvenCutsSpec.vars.all (Tryd.pinned.checked.prog.varReadable ·)) = true := by kernel_rfl
theorem countEvenCuts_k19 : (Tryd.f13.resultTypes.all (fun t => Tryd.pinned.checked.prog.readableRec t && decide (t < Tryd.pinned.checked.prog.types.size))) = true := by kernel_rfl
theorem countEvenCuts_k20 : ((Rows.fnExactCountEvenCutsRow.ifacesOut == Tryd.f13.resultTypes.toList.any (Tryd.pinned.checked.prog.ifacesRec ·))) = true := by kernel_rfl
theorem countEvenCuts_k21 : ((Rows.fnExactCountEvenCutsRow.loopsOut == Tryd.f13.resultTypes.toList.any (Tryd.pinned.checked.prog.loopsFrom ·))) = true := by kernel_rfl
theorem countEvenCuts_k22 : ((Rows.fnExactCountEvenCutsRow.plainKeys == Tryd.pinned.checked.prog.plainKeys)) = true := by kernel_rfl
theorem countEvenCuts_k23 : (Rows.fnExactCountEvenCutsRow.shortTexts.isNone) = true := by kernel_rfl
theorem countEvenCuts_k24 : (Tryd.pinned.checked.prog.stopsHeard) = true := by kernel_rfl
theorem countEvenCuts_k25 : (Tryd.pinned.checked.prog.mayEnter) = true := x_enter
theorem countEvenCuts_k26 : ((Rows.fnExactCountEvenCutsRow.lifted == Tryd.pinned.checked.prog.liftsFinal)) = true := by rw [x_lifts]; rfl
theorem countEvenCuts_k27 : ((Tryd.pinned.checked.prog.make == some Rows.fnExactCountEvenCutsRow.make)) = true := by rw [x_make]; rfl
theorem countEvenCuts_k28 : ((Rows.fnExactCountEvenCutsRow.kinds == (if Rows.fnExactCountEvenCutsRow.domain.isEmpty then [] else Tryd.f13.params.toList.map fun t => match Tryd.pinned.checked.prog.underlying t with | some (.int k) => some k | _ => none))) = true := by kernel_rfl
theorem countEvenCuts_k29 : ((Rows.fnExactCountEvenCutsRow.pinned == Rows.fnExactCountEvenCutsRow.pinnedBy)) = true := by kernel_rfl
theorem countEvenCuts_k30 : ((Rows.fnExactCountEvenCutsRow.veiled == (Tryd.f13.params.toList ++ Rows.fnExactCountEvenCutsSpec.plain.varTypes Tryd.pinned.checked.prog ++ Tryd.f13.resultTypes.toList).any (Tryd.pinned.checked.prog.veiledRec ·))) = true := by kernel_rfl
theorem countEvenCuts_k31 : (Rows.fnExactCountEvenCutsRow.veiledFits Tryd.pinned.checked.prog Tryd.f13.params.toList (Tryd.f13.params.toList ++ Rows.fnExactCountEvenCutsSpec.plain.varTypes Tryd.pinned.checked.prog ++ Tryd.f13.resultTypes.toList)) = true := by kernel_rfl
theorem countEvenCuts_pkg : decide (Check.packageOf Tryd.f13.name = "main") = false := by kernel_rfl
theorem countEvenCuts_inst : Func.isInstance Tryd.pinned.checked.prog Tryd.f13 Rows.fnExactCountEvenCutsRow.origin Rows.fnExactCountEvenCutsRow.targs := of_decide_eq_true (by kernel_rfl)
theorem countEvenCuts_wrap : Func.isWrapper Tryd.pinned.checked.prog Tryd.f13 Rows.fnExactCountEvenCutsRow.wrapper Rows.fnExactCountEvenCutsRow.mainSum := by
  unfold Func.isWrapper; rw [if_neg (of_decide_eq_false countEvenCuts_pkg)]; exact ⟨rfl, rfl⟩
set_option maxRecDepth 100000 in
theorem countEvenCuts_closed : joinedFacts Tryd.pinned.checked.prog 13 Tryd.f13 Rows.fnExactCountEvenCutsSpec Rows.fnExactCountEvenCutsRow = true :=
  (and_of (and_of (and_of (and_of (and_of (and_of (and_of (and_of (and_of (and_of (and_of (and_of (and_of (and_of (and_of (and_of (and_of (and_of (and_of (and_of (and_of (and_of (and_of (and_of (and_of (and_of (and_of (and_of (and_of (and_of (and_of countEvenCuts_k0 countEvenCuts_k1) countEvenCuts_k2) countEvenCuts_k3) countEvenCuts_k4) countEvenCuts_k5) countEvenCuts_k6) countEvenCuts_k7) countEvenCuts_k8) countEvenCuts_k9) countEvenCuts_k10) countEvenCuts_k11) countEvenCuts_k12) countEvenCuts_k13) countEvenCuts_k14) countEvenCuts_k15) countEvenCuts_k16) countEvenCuts_k17) countEvenCuts_k18) countEvenCuts_k19) countEvenCuts_k20) countEvenCuts_k21) countEvenCuts_k22) countEvenCuts_k23) countEvenCuts_k24) countEvenCuts_k25) countEvenCuts_k26) countEvenCuts_k27) countEvenCuts_k28) countEvenCuts_k29) countEvenCuts_k30) countEvenCuts_k31)
theorem countEvenCuts_holds : Rows.FnExactCountEvenCutsSaid :=
  OpenClaim.holds_of_wide 13 Tryd.f13 rfl rfl rfl rfl rfl rfl rfl ⟨rfl, rfl, rfl, rfl, rfl⟩ rfl rfl rfl rfl rfl (by kernel_rfl) Tryd.func13 countEvenCuts_closed
    countEvenCuts_inst countEvenCuts_wrap (fun os started H enc _ => countEvenCuts_lifted os started H enc)
theorem countEvenCuts_w24 : Tryd.prog.wantsStandIn 24 = false := by kernel_rfl
theorem countEvenCuts_name : Tryd.prog.funcNamed "loop.example/g01146/laws.FnExactCountEvenCuts" = some 13 := by kernel_rfl
theorem countEvenCuts_card : Rows.FnExactCountEvenCutsCardSaid :=
  Claim7.holds_tied_plain_at .later [] [.data, .data] true (true, "d9f68eeca04446aeb59a10a6381a8f5e3305cfa5fea7ce90659e0ad35415a417") false
    countEvenCuts_holds (fun _ h => by cases h) (by kernel_rfl) (fun _ h => by cases h) fnExactCountEvenCuts_row_tie rfl ⟨rfl, rfl⟩ (by kernel_rfl) rfl
    (fun f fn hf hfn => by
      obtain rfl : f = 13 := Option.some.inj (countEvenCuts_name.symm.trans hf) |>.symm
      obtain rfl : fn = Tryd.f13 := (Option.some.inj (Tryd.func13.symm.trans hfn)).symm
      exact ⟨by kernel_rfl, fun j t ht => by
        rw [Tryd.params13] at ht
        have hmem : t ∈ ([24] : List TypeId) := by
          have := Array.mem_of_getElem? ht
          simpa using this
        simp only [List.mem_cons, List.not_mem_nil, or_false] at hmem
        rcases hmem with rfl
        · exact countEvenCuts_w24⟩)
    (by kernel_rfl)
end Go.Proofs.YtmcimfblhpflnaaDoor
