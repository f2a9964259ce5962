/-
MatchingOf answers as its model at every graph, its answers share no memory, and the graph is as it was. The table of math/bits is tied to the program's text.
-/
import Derived.Test.YtmcimfblhpflnaaDoorVK
import Derived.Test.YtmcimfblhpflnaaDoorP
import Derived.Test.YtmcimfblhpflnaaDoorZc
import Derived.Test.YtmcimfblhpflnaaDoorQ2
import Derived.Test.YtmcimfblhpflnaaDoorTie
import Derived.Test.YtmcimfblhpflnaaDoorCards
import Derived.SevenTiedAt
namespace Go.Proofs.YtmcimfblhpflnaaDoor
open Go.ChangeShapes Go.WideShapes Go.ChangeAt Go.WideElems Go.RowKit
set_option maxRecDepth 100000 in
theorem matchingOf_lifted (os : Os) (started : os.Started) (H : Type) (enc : TypeId × Value → H) :
    ReturnsInHanded {} Tryd.checked os 8 .any (fun w args => (Rows.fnExactMatchingOfSpec.pre enc Tryd.prog Tryd.f8 [] false w args ∧ laidMetH Tryd.prog laidL w) ∧ sizedMet enc Tryd.prog Tryd.f8 (OpenSpec.ofChange Rows.fnExactMatchingOfSpec) false w args)
      (Rows.fnExactMatchingOfSpec.post enc Tryd.prog Tryd.f8 false true false false) := by
  refine returnsInHanded_of_change_and (C := Tryd.checked) (X := fun w _ => laidMetH Tryd.prog laidL w) (fun _ _ _ hh h => h.of_heap hh) Tryd.own started (by kernel_rfl) Tryd.func8
    (ChangeSpec.witness_shaped (enc := enc) (C := Tryd.checked) (os := os) (X := fun w _ => laidMetH Tryd.prog laidL w) false (World.doorLaid Tryd.prog 400 os) #[.agg #[.slice none 0 0, .bool false]] 8 rfl (World.shaped_of_RefB (by kernel_rfl) (by kernel_rfl)) (by kernel_rfl) (by kernel_rfl) (by kernel_rfl) (door_met os _)) ?_
  intro W base args ds gs before hval0 hW _ _ hL _
  have hval : ∀ (j : Nat) t v, Tryd.f8.params[j]? = some t → args[j]? = some v → Value.okWide Tryd.prog W .any base t v := hval0
  have hW' := hW
  obtain ⟨p, q, hA0, hV, rfl, hfz, hnd⟩ := hW
  have hA : DataW.TrodAll enc Tryd.prog W 0 (fun _ => true) true Tryd.f8.params.toList args.toList ds p := hA0
  rw [Tryd.params8] at hA hval
  obtain ⟨v0, d0, rfl, rfl, h0⟩ := trodAll_one hA
  obtain ⟨rfl, rfl⟩ := trodVars_none hV
  obtain ⟨A0, n0, c0, f0, own0, rfl, hn0, hs0, hw0⟩ := open_graph (hval 0 24 v0 rfl rfl) h0
  have hT := tab_of_laid hL
  clear hA0 hval0
  simp only [List.append_nil] at hW'
  have hlt0 : ∀ x ∈ p, x.block < W.heap.size := fun x hx => hW'.lt x (by simp [hx])
  refine (lawMatching A0 n0 c0 f0 own0 W hn0 hs0 hT).mono fun e W' ⟨he, hb⟩ => ?_
  subst he
  exact ⟨_, rfl, post_of_below (pa := p) (pv := []) hW' (fun _ _ _ => trodAll_mk1 (shut_bool Tryd.underlying4 true))
    (fun sp hsp => trodAll_mk1 (stays Tryd.laidOut (by kernel_rfl) (of_decide_eq_true (by kernel_rfl)) h0 hb hlt0 (fun x hx => hsp x (by simp [hx])))) (fun _ _ => rfl) (by simp) hb
    (ok_one (by kernel_rfl) rfl (okWide_bool_mk Tryd.underlying4 true))⟩
theorem matchingOf_k0 : (Rows.fnExactMatchingOfRow.wf (OpenSpec.ofChange Rows.fnExactMatchingOfSpec)) = true := by kernel_rfl
theorem matchingOf_k1 : (laidOutB Tryd.pinned.checked.prog) = true := by kernel_rfl
theorem matchingOf_k2 : (mapsRowed Tryd.pinned.checked.prog) = true := by kernel_rfl
theorem matchingOf_k3 : (Tryd.f8.params.all (Tryd.pinned.checked.prog.readableRec ·)) = true := by kernel_rfl
theorem matchingOf_k4 : (namedTie Tryd.pinned.checked.prog Rows.fnExactMatchingOfRow.named Rows.fnExactMatchingOfSpec.vars) = true := by kernel_rfl
theorem matchingOf_k5 : ((Rows.fnExactMatchingOfRow.stops == [])) = true := by kernel_rfl
theorem matchingOf_k6 : ((Tryd.pinned.checked.prog.stops == [])) = true := by kernel_rfl
theorem matchingOf_k7 : ((Rows.fnExactMatchingOfRow.knobs == [])) = true := by kernel_rfl
theorem matchingOf_k8 : ((Tryd.pinned.checked.prog.stopKnobs == [])) = true := by kernel_rfl
theorem matchingOf_k9 : ((Rows.fnExactMatchingOfRow.inPlace == Tryd.pinned.checked.prog.inPlace 8)) = true := by kernel_rfl
theorem matchingOf_k10 : ((Rows.fnExactMatchingOfRow.unfollowed == Tryd.pinned.checked.prog.unfollowed 8)) = true := by kernel_rfl
theorem matchingOf_k11 : ((Rows.fnExactMatchingOfRow.recurses == Tryd.pinned.checked.prog.recurses 8)) = true := by kernel_rfl
theorem matchingOf_k12 : ((Rows.fnExactMatchingOfRow.named == Tryd.pinned.checked.prog.varsNamed 8)) = true := by kernel_rfl
theorem matchingOf_k13 : ((Rows.fnExactMatchingOfRow.maps == (Tryd.f8.params.toList ++ Rows.fnExactMatchingOfSpec.plain.varTypes Tryd.pinned.checked.prog).any (Tryd.pinned.checked.prog.mapsRec ·))) = true := by kernel_rfl
theorem matchingOf_k14 : ((Rows.fnExactMatchingOfRow.ifaces == (Tryd.f8.params.toList ++ Rows.fnExactMatchingOfSpec.plain.varTypes Tryd.pinned.checked.prog).any (Tryd.pinned.checked.prog.ifacesRec ·))) = true := by kernel_rfl
theorem matchingOf_k15 : ((Rows.fnExactMatchingOfRow.mapsOut == Tryd.pinned.checked.prog.mapsAmong Tryd.f8.resultTypes.toList)) = true := by kernel_rfl
theorem matchingOf_k16 : ((Rows.fnExactMatchingOfRow.loops == (Tryd.f8.params.toList ++ Rows.fnExactMatchingOfSpec.plain.varTypes Tryd.pinned.checked.prog).any (Tryd.pinned.checked.prog.loopsFrom ·))) = true := by kernel_rfl
theorem matchingOf_k17 : ((Rows.fnExactMatchingOfRow.wideKeys == (Tryd.f8.params.toList ++ Rows.fnExactMatchingOfSpec.plain.varTypes Tryd.pinned.checked.prog ++ Tryd.f8.resultTypes.toList).any (Tryd.pinned.checked.prog.wideKeysFrom ·))) = true := by kernel_rfl
theorem matchingOf_k18 : (Rows.fnExactMatchingOfSpec.vars.all (Tryd.pinned.checked.prog.varReadable ·)) = true := by kernel_rfl
theorem matchingOf_k19 : (Tryd.f8.resultTypes.all (fun t => Tryd.pinned.checked.prog.readableRec t && decide (t < Tryd.pinned.checked.prog.types.size))) = true := by kernel_rfl
theorem matchingOf_k20 : ((Rows.fnExactMatchingOfRow.ifacesOut == Tryd.f8.resultTypes.toList.any (Tryd.pinned.checked.prog.ifacesRec ·))) = true := by kernel_rfl
theorem matchingOf_k21 : ((Rows.fnExactMatchingOfRow.loopsOut == Tryd.f8.resultTypes.toList.any (Tryd.pinned.checked.prog.loopsFrom ·))) = true := by kernel_rfl
theorem matchingOf_k22 : ((Rows.fnExactMatchingOfRow.plainKeys == Tryd.pinned.checked.prog.plainKeys)) = true := by kernel_rfl
theorem matchingOf_k23 : (Rows.fnExactMatchingOfRow.shortTexts.isNone) = true := by kernel_rfl
theorem matchingOf_k24 : (Tryd.pinned.checked.prog.stopsHeard) = true := by kernel_rfl
theorem matchingOf_k25 : (Tryd.pinned.checked.prog.mayEnter) = true := x_enter
theorem matchingOf_k26 : ((Rows.fnExactMatchingOfRow.lifted == Tryd.pinned.checked.prog.liftsFinal)) = true := by rw [x_lifts]; rfl
theorem matchingOf_k27 : ((Tryd.pinned.checked.prog.make == some Rows.fnExactMatchingOfRow.make)) = true := by rw [x_make]; rfl
theorem matchingOf_k28 : ((Rows.fnExactMatchingOfRow.kinds == (if Rows.fnExactMatchingOfRow.domain.isEmpty then [] else Tryd.f8.params.toList.map fun t => match Tryd.pinned.checked.prog.underlying t with | some (.int k) => some k | _ => none))) = true := by kernel_rfl
theorem matchingOf_k29 : ((Rows.fnExactMatchingOfRow.pinned == Rows.fnExactMatchingOfRow.pinnedBy)) = true := by kernel_rfl
theorem matchingOf_k30 : ((Rows.fnExactMatchingOfRow.veiled == (Tryd.f8.params.toList ++ Rows.fnExactMatchingOfSpec.plain.varTypes Tryd.pinned.checked.prog ++ Tryd.f8.resultTypes.toList).any (Tryd.pinned.checked.prog.veiledRec ·))) = true := by kernel_rfl
theorem matchingOf_k31 : (Rows.fnExactMatchingOfRow.veiledFits Tryd.pinned.checked.prog Tryd.f8.params.toList (Tryd.f8.params.toList ++ Rows.fnExactMatchingOfSpec.plain.varTypes Tryd.pinned.checked.prog ++ Tryd.f8.resultTypes.toList)) = true := by kernel_rfl
theorem matchingOf_pkg : decide (Check.packageOf Tryd.f8.name = "main") = false := by kernel_rfl
theorem matchingOf_inst : Func.isInstance Tryd.pinned.checked.prog Tryd.f8 Rows.fnExactMatchingOfRow.origin Rows.fnExactMatchingOfRow.targs := of_decide_eq_true (by kernel_rfl)
theorem matchingOf_wrap : Func.isWrapper Tryd.pinned.checked.prog Tryd.f8 Rows.fnExactMatchingOfRow.wrapper Rows.fnExactMatchingOfRow.mainSum := by
  unfold Func.isWrapper; rw [if_neg (of_decide_eq_false matchingOf_pkg)]; exact ⟨rfl, rfl⟩
set_option maxRecDepth 100000 in
theorem matchingOf_closed : joinedFacts Tryd.pinned.checked.prog 8 Tryd.f8 Rows.fnExactMatchingOfSpec Rows.fnExactMatchingOfRow = true :=
  (and_of (and_of (and_of (and_of (and_of (and_of (and_of (and_of (and_of (and_of (and_of (and_of (and_of (and_of (and_of (and_of (and_of (and_of (and_of (and_of (and_of (and_of (and_of (and_of (and_of (and_of (and_of (and_of (and_of (and_of (and_of matchingOf_k0 matchingOf_k1) matchingOf_k2) matchingOf_k3) matchingOf_k4) matchingOf_k5) matchingOf_k6) matchingOf_k7) matchingOf_k8) matchingOf_k9) matchingOf_k10) matchingOf_k11) matchingOf_k12) matchingOf_k13) matchingOf_k14) matchingOf_k15) matchingOf_k16) matchingOf_k17) matchingOf_k18) matchingOf_k19) matchingOf_k20) matchingOf_k21) matchingOf_k22) matchingOf_k23) matchingOf_k24) matchingOf_k25) matchingOf_k26) matchingOf_k27) matchingOf_k28) matchingOf_k29) matchingOf_k30) matchingOf_k31)
theorem matchingOf_holds : Rows.FnExactMatchingOfSaid :=
  OpenClaim.holds_of_wide 8 Tryd.f8 rfl rfl rfl rfl rfl rfl rfl ⟨rfl, rfl, rfl, rfl, rfl⟩ rfl rfl rfl rfl rfl (by kernel_rfl) Tryd.func8 matchingOf_closed
    matchingOf_inst matchingOf_wrap (fun os started H enc _ => matchingOf_lifted os started H enc)
theorem matchingOf_w24 : Tryd.prog.wantsStandIn 24 = false := by kernel_rfl
theorem matchingOf_name : Tryd.prog.funcNamed "loop.example/g01146/laws.FnExactMatchingOf" = some 8 := by kernel_rfl
theorem matchingOf_card : Rows.FnExactMatchingOfCardSaid :=
  Claim7.holds_tied_plain_at .later [] [.data, .data] true (true, "d9f68eeca04446aeb59a10a6381a8f5e3305cfa5fea7ce90659e0ad35415a417") false
    matchingOf_holds (fun _ h => by cases h) (by kernel_rfl) (fun _ h => by cases h) fnExactMatchingOf_row_tie rfl ⟨rfl, rfl⟩ (by kernel_rfl) rfl
    (fun f fn hf hfn => by
      obtain rfl : f = 8 := Option.some.inj (matchingOf_name.symm.trans hf) |>.symm
      obtain rfl : fn = Tryd.f8 := (Option.some.inj (Tryd.func8.symm.trans hfn)).symm
      exact ⟨by kernel_rfl, fun j t ht => by
        rw [Tryd.params8] at ht
        have hmem : t ∈ ([24] : List TypeId) := by
          have := Array.mem_of_getElem? ht
          simpa using this
        simp only [List.mem_cons, List.not_mem_nil, or_false] at hmem
        rcases hmem with rfl
        · exact matchingOf_w24⟩)
    (by kernel_rfl)
end Go.Proofs.YtmcimfblhpflnaaDoor
