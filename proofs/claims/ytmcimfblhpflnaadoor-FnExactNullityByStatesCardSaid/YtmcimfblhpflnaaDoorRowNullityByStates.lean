/-
NullityByStates answers as its model at every graph, and the graph is as it was. The table of math/bits is tied to the program's text.
-/
import Derived.Test.YtmcimfblhpflnaaDoorUD
import Derived.Test.YtmcimfblhpflnaaDoorP
import Derived.Test.YtmcimfblhpflnaaDoorZc
import Derived.Test.YtmcimfblhpflnaaDoorQ2
import Derived.Test.YtmcimfblhpflnaaDoorTie
import Derived.Test.YtmcimfblhpflnaaDoorCards
import Derived.SevenTiedAt
namespace Go.Proofs.YtmcimfblhpflnaaDoor
open Go.ChangeShapes Go.WideShapes Go.ChangeAt Go.WideElems Go.RowKit
set_option maxRecDepth 100000 in
theorem nullityByStates_lifted (os : Os) (started : os.Started) (H : Type) (enc : TypeId × Value → H) :
    ReturnsInHanded {} Tryd.checked os 12 .any (fun w args => (Rows.fnExactNullityByStatesSpec.pre enc Tryd.prog Tryd.f12 [] false w args ∧ laidMetH Tryd.prog laidL w) ∧ sizedMet enc Tryd.prog Tryd.f12 (OpenSpec.ofChange Rows.fnExactNullityByStatesSpec) false w args)
      (Rows.fnExactNullityByStatesSpec.post enc Tryd.prog Tryd.f12 false true false false) := by
  refine returnsInHanded_of_change_and (C := Tryd.checked) (X := fun w _ => laidMetH Tryd.prog laidL w) (fun _ _ _ hh h => h.of_heap hh) Tryd.own started (by kernel_rfl) Tryd.func12
    (ChangeSpec.witness_shaped (enc := enc) (C := Tryd.checked) (os := os) (X := fun w _ => laidMetH Tryd.prog laidL w) false (World.doorLaid Tryd.prog 400 os) #[.agg #[.slice none 0 0, .bool false]] 8 rfl (World.shaped_of_RefB (by kernel_rfl) (by kernel_rfl)) (by kernel_rfl) (by kernel_rfl) (by kernel_rfl) (door_met os _)) ?_
  intro W base args ds gs before hval0 hW _ _ hL _
  have hval : ∀ (j : Nat) t v, Tryd.f12.params[j]? = some t → args[j]? = some v → Value.okWide Tryd.prog W .any base t v := hval0
  have hW' := hW
  obtain ⟨p, q, hA0, hV, rfl, hfz, hnd⟩ := hW
  have hA : DataW.TrodAll enc Tryd.prog W 0 (fun _ => true) true Tryd.f12.params.toList args.toList ds p := hA0
  rw [Tryd.params12] at hA hval
  obtain ⟨v0, d0, rfl, rfl, h0⟩ := trodAll_one hA
  obtain ⟨rfl, rfl⟩ := trodVars_none hV
  obtain ⟨A0, n0, c0, f0, own0, rfl, hn0, hs0, hw0⟩ := open_graph (hval 0 24 v0 rfl rfl) h0
  have hT := tab_of_laid hL
  clear hA0 hval0
  simp only [List.append_nil] at hW'
  have hlt0 : ∀ x ∈ p, x.block < W.heap.size := fun x hx => hW'.lt x (by simp [hx])
  refine (lawNullityStates A0 n0 c0 f0 own0 W hn0 hs0 hT).mono fun e W' ⟨he, hb⟩ => ?_
  subst he
  exact ⟨_, rfl, post_of_below (pa := p) (pv := []) hW' (fun _ _ _ => trodAll_mk1 (shut_bool Tryd.underlying4 true))
    (fun sp hsp => trodAll_mk1 (stays Tryd.laidOut (by kernel_rfl) (of_decide_eq_true (by kernel_rfl)) h0 hb hlt0 (fun x hx => hsp x (by simp [hx])))) (fun _ _ => rfl) (by simp) hb
    (ok_one (by kernel_rfl) rfl (okWide_bool_mk Tryd.underlying4 true))⟩
theorem nullityByStates_k0 : (Rows.fnExactNullityByStatesRow.wf (OpenSpec.ofChange Rows.fnExactNullityByStatesSpec)) = true := by kernel_rfl
theorem nullityByStates_k1 : (laidOutB Tryd.pinned.checked.prog) = true := by kernel_rfl
theorem nullityByStates_k2 : (mapsRowed Tryd.pinned.checked.prog) = true := by kernel_rfl
theorem nullityByStates_k3 : (Tryd.f12.params.all (Tryd.pinned.checked.prog.readableRec ·)) = true := by kernel_rfl
theorem nullityByStates_k4 : (namedTie Tryd.pinned.checked.prog Rows.fnExactNullityByStatesRow.named Rows.fnExactNullityByStatesSpec.vars) = true := by kernel_rfl
theorem nullityByStates_k5 : ((Rows.fnExactNullityByStatesRow.stops == [])) = true := by kernel_rfl
theorem nullityByStates_k6 : ((Tryd.pinned.checked.prog.stops == [])) = true := by kernel_rfl
theorem nullityByStates_k7 : ((Rows.fnExactNullityByStatesRow.knobs == [])) = true := by kernel_rfl
theorem nullityByStates_k8 : ((Tryd.pinned.checked.prog.stopKnobs == [])) = true := by kernel_rfl
theorem nullityByStates_k9 : ((Rows.fnExactNullityByStatesRow.inPlace == Tryd.pinned.checked.prog.inPlace 12)) = true := by kernel_rfl
theorem nullityByStates_k10 : ((Rows.fnExactNullityByStatesRow.unfollowed == Tryd.pinned.checked.prog.unfollowed 12)) = true := by kernel_rfl
theorem nullityByStates_k11 : ((Rows.fnExactNullityByStatesRow.recurses == Tryd.pinned.checked.prog.recurses 12)) = true := by kernel_rfl
theorem nullityByStates_k12 : ((Rows.fnExactNullityByStatesRow.named == Tryd.pinned.checked.prog.varsNamed 12)) = true := by kernel_rfl
theorem nullityByStates_k13 : ((Rows.fnExactNullityByStatesRow.maps == (Tryd.f12.params.toList ++ Rows.fnExactNullityByStatesSpec.plain.varTypes Tryd.pinned.checked.prog).any (Tryd.pinned.checked.prog.mapsRec ·))) = true := by kernel_rfl
theorem nullityByStates_k14 : ((Rows.fnExactNullityByStatesRow.ifaces == (Tryd.f12.params.toList ++ Rows.fnExactNullityByStatesSpec.plain.varTypes Tryd.pinned.checked.prog).any (Tryd.pinned.checked.prog.ifacesRec ·))) = true := by kernel_rfl
theorem nullityByStates_k15 : ((Rows.fnExactNullityByStatesRow.mapsOut == Tryd.pinned.checked.prog.mapsAmong Tryd.f12.resultTypes.toList)) = true := by kernel_rfl
theorem nullityByStates_k16 : ((Rows.fnExactNullityByStatesRow.loops == (Tryd.f12.params.toList ++ Rows.fnExactNullityByStatesSpec.plain.varTypes Tryd.pinned.checked.prog).any (Tryd.pinned.checked.prog.loopsFrom ·))) = true := by kernel_rfl
theorem nullityByStates_k17 : ((Rows.fnExactNullityByStatesRow.wideKeys == (Tryd.f12.params.toList ++ Rows.fnExactNullityByStatesSpec.plain.varTypes Tryd.pinned.checked.prog ++ Tryd.f12.resultTypes.toList).any (Tryd.pinned.checked.prog.wideKeysFrom ·))) = true := by kernel_rfl
theorem nullityByStates_k18 : (Rows.fnExactNullityByStatesSpec.vars.all (Tryd.pinned.checked.prog.varReadable ·)) = true := by kernel_rfl
theorem nullityByStates_k19 : (Tryd.f12.resultTypes.all (fun t => Tryd.pinned.checked.prog.readableRec t && decide (t < Tryd.pinned.checked.prog.types.size))) = true := by kernel_rfl
theorem nullityByStates_k20 : ((Rows.fnExactNullityByStatesRow.ifacesOut == Tryd.f12.resultTypes.toList.any (Tryd.pinned.checked.prog.ifacesRec ·))) = true := by kernel_rfl
theorem nullityByStates_k21 : ((Rows.fnExactNullityByStatesRow.loopsOut == Tryd.f12.resultTypes.toList.any (Tryd.pinned.checked.prog.loopsFrom ·))) = true := by kernel_rfl
theorem nullityByStates_k22 : ((Rows.fnExactNullityByStatesRow.plainKeys == Tryd.pinned.checked.prog.plainKeys)) = true := by kernel_rfl
theorem nullityByStates_k23 : (Rows.fnExactNullityByStatesRow.shortTexts.isNone) = true := by kernel_rfl
theorem nullityByStates_k24 : (Tryd.pinned.checked.prog.stopsHeard) = true := by kernel_rfl
theorem nullityByStates_k25 : (Tryd.pinned.checked.prog.mayEnter) = true := x_enter
theorem nullityByStates_k26 : ((Rows.fnExactNullityByStatesRow.lifted == Tryd.pinned.checked.prog.liftsFinal)) = true := by rw [x_lifts]; rfl
theorem nullityByStates_k27 : ((Tryd.pinned.checked.prog.make == some Rows.fnExactNullityByStatesRow.make)) = true := by rw [x_make]; rfl
theorem nullityByStates_k28 : ((Rows.fnExactNullityByStatesRow.kinds == (if Rows.fnExactNullityByStatesRow.domain.isEmpty then [] else Tryd.f12.params.toList.map fun t => match Tryd.pinned.checked.prog.underlying t with | some (.int k) => some k | _ => none))) = true := by kernel_rfl
theorem nullityByStates_k29 : ((Rows.fnExactNullityByStatesRow.pinned == Rows.fnExactNullityByStatesRow.pinnedBy)) = true := by kernel_rfl
theorem nullityByStates_k30 : ((Rows.fnExactNullityByStatesRow.veiled == (Tryd.f12.params.toList ++ Rows.fnExactNullityByStatesSpec.plain.varTypes Tryd.pinned.checked.prog ++ Tryd.f12.resultTypes.toList).any (Tryd.pinned.checked.prog.veiledRec ·))) = true := by kernel_rfl
theorem nullityByStates_k31 : (Rows.fnExactNullityByStatesRow.veiledFits Tryd.pinned.checked.prog Tryd.f12.params.toList (Tryd.f12.params.toList ++ Rows.fnExactNullityByStatesSpec.plain.varTypes Tryd.pinned.checked.prog ++ Tryd.f12.resultTypes.toList)) = true := by kernel_rfl
theorem nullityByStates_pkg : decide (Check.packageOf Tryd.f12.name = "main") = false := by kernel_rfl
theorem nullityByStates_inst : Func.isInstance Tryd.pinned.checked.prog Tryd.f12 Rows.fnExactNullityByStatesRow.origin Rows.fnExactNullityByStatesRow.targs := of_decide_eq_true (by kernel_rfl)
theorem nullityByStates_wrap : Func.isWrapper Tryd.pinned.checked.prog Tryd.f12 Rows.fnExactNullityByStatesRow.wrapper Rows.fnExactNullityByStatesRow.mainSum := by
  unfold Func.isWrapper; rw [if_neg (of_decide_eq_false nullityByStates_pkg)]; exact ⟨rfl, rfl⟩
set_option maxRecDepth 100000 in
theorem nullityByStates_closed : joinedFacts Tryd.pinned.checked.prog 12 Tryd.f12 Rows.fnExactNullityByStatesSpec Rows.fnExactNullityByStatesRow = true :=
  (and_of (and_of (and_of (and_of (and_of (and_of (and_of (and_of (and_of (and_of (and_of (and_of (and_of (and_of (and_of (and_of (and_of (and_of (and_of (and_of (and_of (and_of (and_of (and_of (and_of (and_of (and_of (and_of (and_of (and_of (and_of nullityByStates_k0 nullityByStates_k1) nullityByStates_k2) nullityByStates_k3) nullityByStates_k4) nullityByStates_k5) nullityByStates_k6) nullityByStates_k7) nullityByStates_k8) nullityByStates_k9) nullityByStates_k10) nullityByStates_k11) nullityByStates_k12) nullityByStates_k13) nullityByStates_k14) nullityByStates_k15) nullityByStates_k16) nullityByStates_k17) nullityByStates_k18) nullityByStates_k19) nullityByStates_k20) nullityByStates_k21) nullityByStates_k22) nullityByStates_k23) nullityByStates_k24) nullityByStates_k25) nullityByStates_k26) nullityByStates_k27) nullityByStates_k28) nullityByStates_k29) nullityByStates_k30) nullityByStates_k31)
theorem nullityByStates_holds : Rows.FnExactNullityByStatesSaid :=
  OpenClaim.holds_of_wide 12 Tryd.f12 rfl rfl rfl rfl rfl rfl rfl ⟨rfl, rfl, rfl, rfl, rfl⟩ rfl rfl rfl rfl rfl (by kernel_rfl) Tryd.func12 nullityByStates_closed
    nullityByStates_inst nullityByStates_wrap (fun os started H enc _ => nullityByStates_lifted os started H enc)
theorem nullityByStates_w24 : Tryd.prog.wantsStandIn 24 = false := by kernel_rfl
theorem nullityByStates_name : Tryd.prog.funcNamed "loop.example/g01146/laws.FnExactNullityByStates" = some 12 := by kernel_rfl
theorem nullityByStates_card : Rows.FnExactNullityByStatesCardSaid :=
  Claim7.holds_tied_plain_at .later [] [.data, .data] true (true, "d9f68eeca04446aeb59a10a6381a8f5e3305cfa5fea7ce90659e0ad35415a417") false
    nullityByStates_holds (fun _ h => by cases h) (by kernel_rfl) (fun _ h => by cases h) fnExactNullityByStates_row_tie rfl ⟨rfl, rfl⟩ (by kernel_rfl) rfl
    (fun f fn hf hfn => by
      obtain rfl : f = 12 := Option.some.inj (nullityByStates_name.symm.trans hf) |>.symm
      obtain rfl : fn = Tryd.f12 := (Option.some.inj (Tryd.func12.symm.trans hfn)).symm
      exact ⟨by kernel_rfl, fun j t ht => by
        rw [Tryd.params12] at ht
        have hmem : t ∈ ([24] : List TypeId) := by
          have := Array.mem_of_getElem? ht
          simpa using this
        simp only [List.mem_cons, List.not_mem_nil, or_false] at hmem
        rcases hmem with rfl
        · exact nullityByStates_w24⟩)
    (by kernel_rfl)
end Go.Proofs.YtmcimfblhpflnaaDoor
