/-
MatchingSize answers as its model at every graph, and the graph is as it was. The table of math/bits is tied to the program's text.
-/
import Derived.Test.YtmcimfblhpflnaaDoorVM
import Derived.Test.YtmcimfblhpflnaaDoorP
import Derived.Test.YtmcimfblhpflnaaDoorZc
import Derived.Test.YtmcimfblhpflnaaDoorQ2
import Derived.Test.YtmcimfblhpflnaaDoorTie
import Derived.Test.YtmcimfblhpflnaaDoorCards
import Derived.SevenTiedAt
namespace Go.Proofs.YtmcimfblhpflnaaDoor
open Go.ChangeShapes Go.WideShapes Go.ChangeAt Go.WideElems Go.RowKit
set_option maxRecDepth 100000 in
theorem matchingSize_lifted (os : Os) (started : os.Started) (H : Type) (enc : TypeId × Value → H) :
    ReturnsInHanded {} Tryd.checked os 9 .any (fun w args => (Rows.fnExactMatchingSizeSpec.pre enc Tryd.prog Tryd.f9 [] false w args ∧ laidMetH Tryd.prog laidL w) ∧ sizedMet enc Tryd.prog Tryd.f9 (OpenSpec.ofChange Rows.fnExactMatchingSizeSpec) false w args)
      (Rows.fnExactMatchingSizeSpec.post enc Tryd.prog Tryd.f9 false true false false) := by
  refine returnsInHanded_of_change_and (C := Tryd.checked) (X := fun w _ => laidMetH Tryd.prog laidL w) (fun _ _ _ hh h => h.of_heap hh) Tryd.own started (by kernel_rfl) Tryd.func9
    (ChangeSpec.witness_shaped (enc := enc) (C := Tryd.checked) (os := os) (X := fun w _ => laidMetH Tryd.prog laidL w) false (World.doorLaid Tryd.prog 400 os) #[.agg #[.slice none 0 0, .bool false]] 8 rfl (World.shaped_of_RefB (by kernel_rfl) (by kernel_rfl)) (by kernel_rfl) (by kernel_rfl) (by kernel_rfl) (door_met os _)) ?_
  intro W base args ds gs before hval0 hW _ _ hL _
  have hval : ∀ (j : Nat) t v, Tryd.f9.params[j]? = some t → args[j]? = some v → Value.okWide Tryd.prog W .any base t v := hval0
  have hW' := hW
  obtain ⟨p, q, hA0, hV, rfl, hfz, hnd⟩ := hW
  have hA : DataW.TrodAll enc Tryd.prog W 0 (fun _ => true) true Tryd.f9.params.toList args.toList ds p := hA0
  rw [Tryd.params9] at hA hval
  obtain ⟨v0, d0, rfl, rfl, h0⟩ := trodAll_one hA
  obtain ⟨rfl, rfl⟩ := trodVars_none hV
  obtain ⟨A0, n0, c0, f0, own0, rfl, hn0, hs0, hw0⟩ := open_graph (hval 0 24 v0 rfl rfl) h0
  have hT := tab_of_laid hL
  clear hA0 hval0
  simp only [List.append_nil] at hW'
  have hlt0 : ∀ x ∈ p, x.block < W.heap.size := fun x hx => hW'.lt x (by simp [hx])
  refine (lawMatchingSize A0 n0 c0 f0 own0 W hn0 hs0 hT).mono fun e W' ⟨he, hb⟩ => ?_
  subst he
  exact ⟨_, rfl, post_of_below (pa := p) (pv := []) hW' (fun _ _ _ => trodAll_mk1 (shut_bool Tryd.underlying4 true))
    (fun sp hsp => trodAll_mk1 (stays Tryd.laidOut (by kernel_rfl) (of_decide_eq_true (by kernel_rfl)) h0 hb hlt0 (fun x hx => hsp x (by simp [hx])))) (fun _ _ => rfl) (by simp) hb
    (ok_one (by kernel_rfl) rfl (okWide_bool_mk Tryd.underlying4 true))⟩
theorem matchingSize_k0 : (Rows.fnExactMatchingSizeRow.wf (OpenSpec.ofChange Rows.fnExactMatchingSizeSpec)) = true := by kernel_rfl
theorem matchingSize_k1 : (laidOutB Tryd.pinned.checked.prog) = true := by kernel_rfl
theorem matchingSize_k2 : (mapsRowed Tryd.pinned.checked.prog) = true := by kernel_rfl
theorem matchingSize_k3 : (Tryd.f9.params.all (Tryd.pinned.checked.prog.readableRec ·)) = true := by kernel_rfl
theorem matchingSize_k4 : (namedTie Tryd.pinned.checked.prog Rows.fnExactMatchingSizeRow.named Rows.fnExactMatchingSizeSpec.vars) = true := by kernel_rfl
theorem matchingSize_k5 : ((Rows.fnExactMatchingSizeRow.stops == [])) = true := by kernel_rfl
theorem matchingSize_k6 : ((Tryd.pinned.checked.prog.stops == [])) = true := by kernel_rfl
theorem matchingSize_k7 : ((Rows.fnExactMatchingSizeRow.knobs == [])) = true := by kernel_rfl
theorem matchingSize_k8 : ((Tryd.pinned.checked.prog.stopKnobs == [])) = true := by kernel_rfl
theorem matchingSize_k9 : ((Rows.fnExactMatchingSizeRow.inPlace == Tryd.pinned.checked.prog.inPlace 9)) = true := by kernel_rfl
theorem matchingSize_k10 : ((Rows.fnExactMatchingSizeRow.unfollowed == Tryd.pinned.checked.prog.unfollowed 9)) = true := by kernel_rfl
theorem matchingSize_k11 : ((Rows.fnExactMatchingSizeRow.recurses == Tryd.pinned.checked.prog.recurses 9)) = true := by kernel_rfl
theorem matchingSize_k12 : ((Rows.fnExactMatchingSizeRow.named == Tryd.pinned.checked.prog.varsNamed 9)) = true := by kernel_rfl
theorem matchingSize_k13 : ((Rows.fnExactMatchingSizeRow.maps == (Tryd.f9.params.toList ++ Rows.fnExactMatchingSizeSpec.plain.varTypes Tryd.pinned.checked.prog).any (Tryd.pinned.checked.prog.mapsRec ·))) = true := by kernel_rfl
theorem matchingSize_k14 : ((Rows.fnExactMatchingSizeRow.ifaces == (Tryd.f9.params.toList ++ Rows.fnExactMatchingSizeSpec.plain.varTypes Tryd.pinned.checked.prog).any (Tryd.pinned.checked.prog.ifacesRec ·))) = true := by kernel_rfl
theorem matchingSize_k15 : ((Rows.fnExactMatchingSizeRow.mapsOut == Tryd.pinned.checked.prog.mapsAmong Tryd.f9.resultTypes.toList)) = true := by kernel_rfl
theorem matchingSize_k16 : ((Rows.fnExactMatchingSizeRow.loops == (Tryd.f9.params.toList ++ Rows.fnExactMatchingSizeSpec.plain.varTypes Tryd.pinned.checked.prog).any (Tryd.pinned.checked.prog.loopsFrom ·))) = true := by kernel_rfl
theorem matchingSize_k17 : ((Rows.fnExactMatchingSizeRow.wideKeys == (Tryd.f9.params.toList ++ Rows.fnExactMatchingSizeSpec.plain.varTypes Tryd.pinned.checked.prog ++ Tryd.f9.resultTypes.toList).any (Tryd.pinned.checked.prog.wideKeysFrom ·))) = true := by kernel_rfl
theorem matchingSize_k18 : (Rows.fnExactMatchingSizeSpec.vars.all (Tryd.pinned.checked.prog.varReadable ·)) = true := by kernel_rfl
theorem matchingSize_k19 : (Tryd.f9.resultTypes.all (fun t => Tryd.pinned.checked.prog.readableRec t && decide (t < Tryd.pinned.checked.prog.types.size))) = true := by kernel_rfl
theorem matchingSize_k20 : ((Rows.fnExactMatchingSizeRow.ifacesOut == Tryd.f9.resultTypes.toList.any (Tryd.pinned.checked.prog.ifacesRec ·))) = true := by kernel_rfl
theorem matchingSize_k21 : ((Rows.fnExactMatchingSizeRow.loopsOut == Tryd.f9.resultTypes.toList.any (Tryd.pinned.checked.prog.loopsFrom ·))) = true := by kernel_rfl
theorem matchingSize_k22 : ((Rows.fnExactMatchingSizeRow.plainKeys == Tryd.pinned.checked.prog.plainKeys)) = true := by kernel_rfl
theorem matchingSize_k23 : (Rows.fnExactMatchingSizeRow.shortTexts.isNone) = true := by kernel_rfl
theorem matchingSize_k24 : (Tryd.pinned.checked.prog.stopsHeard) = true := by kernel_rfl
theorem matchingSize_k25 : (Tryd.pinned.checked.prog.mayEnter) = true := x_enter
theorem matchingSize_k26 : ((Rows.fnExactMatchingSizeRow.lifted == Tryd.pinned.checked.prog.liftsFinal)) = true := by rw [x_lifts]; rfl
theorem matchingSize_k27 : ((Tryd.pinned.checked.prog.make == some Rows.fnExactMatchingSizeRow.make)) = true := by rw [x_make]; rfl
theorem matchingSize_k28 : ((Rows.fnExactMatchingSizeRow.kinds == (if Rows.fnExactMatchingSizeRow.domain.isEmpty then [] else Tryd.f9.params.toList.map fun t => match Tryd.pinned.checked.prog.underlying t with | some (.int k) => some k | _ => none))) = true := by kernel_rfl
theorem matchingSize_k29 : ((Rows.fnExactMatchingSizeRow.pinned == Rows.fnExactMatchingSizeRow.pinnedBy)) = true := by kernel_rfl
theorem matchingSize_k30 : ((Rows.fnExactMatchingSizeRow.veiled == (Tryd.f9.params.toList ++ Rows.fnExactMatchingSizeSpec.plain.varTypes Tryd.pinned.checked.prog ++ Tryd.f9.resultTypes.toList).any (Tryd.pinned.checked.prog.veiledRec ·))) = true := by kernel_rfl
theorem matchingSize_k31 : (Rows.fnExactMatchingSizeRow.veiledFits Tryd.pinned.checked.prog Tryd.f9.params.toList (Tryd.f9.params.toList ++ Rows.fnExactMatchingSizeSpec.plain.varTypes Tryd.pinned.checked.prog ++ Tryd.f9.resultTypes.toList)) = true := by kernel_rfl
theorem matchingSize_pkg : decide (Check.packageOf Tryd.f9.name = "main") = false := by kernel_rfl
theorem matchingSize_inst : Func.isInstance Tryd.pinned.checked.prog Tryd.f9 Rows.fnExactMatchingSizeRow.origin Rows.fnExactMatchingSizeRow.targs := of_decide_eq_true (by kernel_rfl)
theorem matchingSize_wrap : Func.isWrapper Tryd.pinned.checked.prog Tryd.f9 Rows.fnExactMatchingSizeRow.wrapper Rows.fnExactMatchingSizeRow.mainSum := by
  unfold Func.isWrapper; rw [if_neg (of_decide_eq_false matchingSize_pkg)]; exact ⟨rfl, rfl⟩
set_option maxRecDepth 100000 in
theorem matchingSize_closed : joinedFacts Tryd.pinned.checked.prog 9 Tryd.f9 Rows.fnExactMatchingSizeSpec Rows.fnExactMatchingSizeRow = true :=
  (and_of (and_of (and_of (and_of (and_of (and_of (and_of (and_of (and_of (and_of (and_of (and_of (and_of (and_of (and_of (and_of (and_of (and_of (and_of (and_of (and_of (and_of (and_of (and_of (and_of (and_of (and_of (and_of (and_of (and_of (and_of matchingSize_k0 matchingSize_k1) matchingSize_k2) matchingSize_k3) matchingSize_k4) matchingSize_k5) matchingSize_k6) matchingSize_k7) matchingSize_k8) matchingSize_k9) matchingSize_k10) matchingSize_k11) matchingSize_k12) matchingSize_k13) matchingSize_k14) matchingSize_k15) matchingSize_k16) matchingSize_k17) matchingSize_k18) matchingSize_k19) matchingSize_k20) matchingSize_k21) matchingSize_k22) matchingSize_k23) matchingSize_k24) matchingSize_k25) matchingSize_k26) matchingSize_k27) matchingSize_k28) matchingSize_k29) matchingSize_k30) matchingSize_k31)
theorem matchingSize_holds : Rows.FnExactMatchingSizeSaid :=
  OpenClaim.holds_of_wide 9 Tryd.f9 rfl rfl rfl rfl rfl rfl rfl ⟨rfl, rfl, rfl, rfl, rfl⟩ rfl rfl rfl rfl rfl (by kernel_rfl) Tryd.func9 matchingSize_closed
    matchingSize_inst matchingSize_wrap (fun os started H enc _ => matchingSize_lifted os started H enc)
theorem matchingSize_w24 : Tryd.prog.wantsStandIn 24 = false := by kernel_rfl
theorem matchingSize_name : Tryd.prog.funcNamed "loop.example/g01146/laws.FnExactMatchingSize" = some 9 := by kernel_rfl
theorem matchingSize_card : Rows.FnExactMatchingSizeCardSaid :=
  Claim7.holds_tied_plain_at .later [] [.data, .data] true (true, "d9f68eeca04446aeb59a10a6381a8f5e3305cfa5fea7ce90659e0ad35415a417") false
    matchingSize_holds (fun _ h => by cases h) (by kernel_rfl) (fun _ h => by cases h) fnExactMatchingSize_row_tie rfl ⟨rfl, rfl⟩ (by kernel_rfl) rfl
    (fun f fn hf hfn => by
      obtain rfl : f = 9 := Option.some.inj (matchingSize_name.symm.trans hf) |>.symm
      obtain rfl : fn = Tryd.f9 := (Option.some.inj (Tryd.func9.symm.trans hfn)).symm
      exact ⟨by kernel_rfl, fun j t ht => by
        rw [Tryd.params9] at ht
        have hmem : t ∈ ([24] : List TypeId) := by
          have := Array.mem_of_getElem? ht
          simpa using this
        simp only [List.mem_cons, List.not_mem_nil, or_false] at hmem
        rcases hmem with rfl
        · exact matchingSize_w24⟩)
    (by kernel_rfl)
end Go.Proofs.YtmcimfblhpflnaaDoor
