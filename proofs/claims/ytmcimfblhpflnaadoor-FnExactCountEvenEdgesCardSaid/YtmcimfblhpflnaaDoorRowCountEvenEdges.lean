/-
CountEvenEdges answers as its model at every graph, and the graph is as it was. The table of math/bits is tied to the program's text.
-/
import Derived.Test.YtmcimfblhpflnaaDoorEE
import Derived.Test.YtmcimfblhpflnaaDoorP
import Derived.Test.YtmcimfblhpflnaaDoorQ1
import Derived.Test.YtmcimfblhpflnaaDoorQ2
import Derived.Test.YtmcimfblhpflnaaDoorTie
import Derived.Test.YtmcimfblhpflnaaDoorCards
import Derived.SevenTiedAt
namespace Go.Proofs.YtmcimfblhpflnaaDoor
open Go.ChangeShapes Go.WideShapes Go.ChangeAt Go.WideElems Go.RowKit
set_option maxRecDepth 100000 in
theorem countEvenEdges_lifted (os : Os) (started : os.Started) (H : Type) (enc : TypeId × Value → H) :
    ReturnsInHanded {} Tryd.checked os 6 .any (fun w args => (Rows.fnExactCountEvenEdgesSpec.pre enc Tryd.prog Tryd.f6 [] false w args ∧ laidMetH Tryd.prog laidL w) ∧ sizedMet enc Tryd.prog Tryd.f6 (OpenSpec.ofChange Rows.fnExactCountEvenEdgesSpec) false w args)
      (Rows.fnExactCountEvenEdgesSpec.post enc Tryd.prog Tryd.f6 false true false false) := by
  refine returnsInHanded_of_change_and (C := Tryd.checked) (X := fun w _ => laidMetH Tryd.prog laidL w) (fun _ _ _ hh h => h.of_heap hh) Tryd.own started (by kernel_rfl) Tryd.func6
    (ChangeSpec.witness_shaped (enc := enc) (C := Tryd.checked) (os := os) (X := fun w _ => laidMetH Tryd.prog laidL w) false (World.doorLaid Tryd.prog 400 os) #[.agg #[.slice none 0 0, .bool false]] 8 rfl (World.shaped_of_RefB (by kernel_rfl) (by kernel_rfl)) (by kernel_rfl) (by kernel_rfl) (by kernel_rfl) (door_met os _)) ?_
  intro W base args ds gs before hval0 hW _ _ hL _
  have hval : ∀ (j : Nat) t v, Tryd.f6.params[j]? = some t → args[j]? = some v → Value.okWide Tryd.prog W .any base t v := hval0
  have hW' := hW
  obtain ⟨p, q, hA0, hV, rfl, hfz, hnd⟩ := hW
  have hA : DataW.TrodAll enc Tryd.prog W 0 (fun _ => true) true Tryd.f6.params.toList args.toList ds p := hA0
  rw [Tryd.params6] at hA hval
  obtain ⟨v0, d0, rfl, rfl, h0⟩ := trodAll_one hA
  obtain ⟨rfl, rfl⟩ := trodVars_none hV
  obtain ⟨A0, n0, c0, f0, own0, rfl, hn0, hs0, hw0⟩ := open_graph (hval 0 24 v0 rfl rfl) h0
  have hT := tab_of_laid hL
  clear hA0 hval0
  simp only [List.append_nil] at hW'
  have hlt0 : ∀ x ∈ p, x.block < W.heap.size := fun x hx => hW'.lt x (by simp [hx])
  refine (lawEvenEdges A0 n0 c0 f0 own0 W hn0 hs0 hT).mono fun e W' ⟨he, hb⟩ => ?_
  subst he
  exact ⟨_, rfl, post_of_below (pa := p) (pv := []) hW' (fun _ _ _ => trodAll_mk1 (shut_bool Tryd.underlying4 true))
    (fun sp hsp => trodAll_mk1 (stays Tryd.laidOut (by kernel_rfl) (of_decide_eq_true (by kernel_rfl)) h0 hb hlt0 (fun x hx => hsp x (by simp [hx])))) (fun _ _ => rfl) (by simp) hb
    (ok_one (by kernel_rfl) rfl (okWide_bool_mk Tryd.underlying4 true))⟩
theorem countEvenEdges_k0 : (Rows.fnExactCountEvenEdgesRow.wf (OpenSpec.ofChange Rows.fnExactCountEvenEdgesSpec)) = true := by kernel_rfl
theorem countEvenEdges_k1 : (laidOutB Tryd.pinned.checked.prog) = true := by kernel_rfl
theorem countEvenEdges_k2 : (mapsRowed Tryd.pinned.checked.prog) = true := by kernel_rfl
theorem countEvenEdges_k3 : (Tryd.f6.params.all (Tryd.pinned.checked.prog.readableRec ·)) = true := by kernel_rfl
theorem countEvenEdges_k4 : (namedTie Tryd.pinned.checked.prog Rows.fnExactCountEvenEdgesRow.named Rows.fnExactCountEvenEdgesSpec.vars) = true := by kernel_rfl
theorem countEvenEdges_k5 : ((Rows.fnExactCountEvenEdgesRow.stops == [])) = true := by kernel_rfl
theorem countEvenEdges_k6 : ((Tryd.pinned.checked.prog.stops == [])) = true := by kernel_rfl
theorem countEvenEdges_k7 : ((Rows.fnExactCountEvenEdgesRow.knobs == [])) = true := by kernel_rfl
theorem countEvenEdges_k8 : ((Tryd.pinned.checked.prog.stopKnobs == [])) = true := by kernel_rfl
theorem countEvenEdges_k9 : ((Rows.fnExactCountEvenEdgesRow.inPlace == Tryd.pinned.checked.prog.inPlace 6)) = true := by kernel_rfl
theorem countEvenEdges_k10 : ((Rows.fnExactCountEvenEdgesRow.unfollowed == Tryd.pinned.checked.prog.unfollowed 6)) = true := by kernel_rfl
theorem countEvenEdges_k11 : ((Rows.fnExactCountEvenEdgesRow.recurses == Tryd.pinned.checked.prog.recurses 6)) = true := by kernel_rfl
theorem countEvenEdges_k12 : ((Rows.fnExactCountEvenEdgesRow.named == Tryd.pinned.checked.prog.varsNamed 6)) = true := by kernel_rfl
theorem countEvenEdges_k13 : ((Rows.fnExactCountEvenEdgesRow.maps == (Tryd.f6.params.toList ++ Rows.fnExactCountEvenEdgesSpec.plain.varTypes Tryd.pinned.checked.prog).any (Tryd.pinned.checked.prog.mapsRec ·))) = true := by kernel_rfl
theorem countEvenEdges_k14 : ((Rows.fnExactCountEvenEdgesRow.ifaces == (Tryd.f6.params.toList ++ Rows.fnExactCountEvenEdgesSpec.plain.varTypes Tryd.pinned.checked.prog).any (Tryd.pinned.checked.prog.ifacesRec ·))) = true := by kernel_rfl
theorem countEvenEdges_k15 : ((Rows.fnExactCountEvenEdgesRow.mapsOut == Tryd.pinned.checked.prog.mapsAmong Tryd.f6.resultTypes.toList)) = true := by kernel_rfl
theorem countEvenEdges_k16 : ((Rows.fnExactCountEvenEdgesRow.loops == (Tryd.f6.params.toList ++ Rows.fnExactCountEvenEdgesSpec.plain.varTypes Tryd.pinned.checked.prog).any (Tryd.pinned.checked.prog.loopsFrom ·))) = true := by kernel_rfl
theorem countEvenEdges_k17 : ((Rows.fnExactCountEvenEdgesRow.wideKeys == (Tryd.f6.params.toList ++ Rows.fnExactCountEvenEdgesSpec.plain.varTypes Tryd.pinned.checked.prog ++ Tryd.f6.resultTypes.toList).any (Tryd.pinned.checked.prog.wideKeysFrom ·))) = true := by kernel_rfl
theorem countEvenEdges_k18 : (Rows.fnExactCountEvenEdgesSpec.vars.all (Tryd.pinned.checked.prog.varReadable ·)) = true := by kernel_rfl
theorem countEvenEdges_k19 : (Tryd.f6.resultTypes.all (fun t => Tryd.pinned.checked.prog.readableRec t && decide (t < Tryd.pinned.checked.prog.types.size))) = true := by kernel_rfl
theorem countEvenEdges_k20 : ((Rows.fnExactCountEvenEdgesRow.ifacesOut == Tryd.f6.resultTypes.toList.any (Tryd.pinned.checked.prog.ifacesRec ·))) = true := by kernel_rfl
theorem countEvenEdges_k21 : ((Rows.fnExactCountEvenEdgesRow.loopsOut == Tryd.f6.resultTypes.toList.any (Tryd.pinned.checked.prog.loopsFrom ·))) = true := by kernel_rfl
theorem countEvenEdges_k22 : ((Rows.fnExactCountEvenEdgesRow.plainKeys == Tryd.pinned.checked.prog.plainKeys)) = true := by kernel_rfl
theorem countEvenEdges_k23 : (Rows.fnExactCountEvenEdgesRow.shortTexts.isNone) = true := by kernel_rfl
theorem countEvenEdges_k24 : (Tryd.pinned.checked.prog.stopsHeard) = true := by kernel_rfl
theorem countEvenEdges_k25 : (Tryd.pinned.checked.prog.mayEnter) = true := x_enter
theorem countEvenEdges_k26 : ((Rows.fnExactCountEvenEdgesRow.lifted == Tryd.pinned.checked.prog.liftsFinal)) = true := by rw [x_lifts]; rfl
theorem countEvenEdges_k27 : ((Tryd.pinned.checked.prog.make == some Rows.fnExactCountEvenEdgesRow.make)) = true := by rw [x_make]; rfl
theorem countEvenEdges_k28 : ((Rows.fnExactCountEvenEdgesRow.kinds == (if Rows.fnExactCountEvenEdgesRow.domain.isEmpty then [] else Tryd.f6.params.toList.map fun t => match Tryd.pinned.checked.prog.underlying t with | some (.int k) => some k | _ => none))) = true := by kernel_rfl
theorem countEvenEdges_k29 : ((Rows.fnExactCountEvenEdgesRow.pinned == Rows.fnExactCountEvenEdgesRow.pinnedBy)) = true := by kernel_rfl
theorem countEvenEdges_k30 : ((Rows.fnExactCountEvenEdgesRow.veiled == (Tryd.f6.params.toList ++ Rows.fnExactCountEvenEdgesSpec.plain.varTypes Tryd.pinned.checked.prog ++ Tryd.f6.resultTypes.toList).any (Tryd.pinned.checked.prog.veiledRec ·))) = true := by kernel_rfl
theorem countEvenEdges_k31 : (Rows.fnExactCountEvenEdgesRow.veiledFits Tryd.pinned.checked.prog Tryd.f6.params.toList (Tryd.f6.params.toList ++ Rows.fnExactCountEvenEdgesSpec.plain.varTypes Tryd.pinned.checked.prog ++ Tryd.f6.resultTypes.toList)) = true := by kernel_rfl
theorem countEvenEdges_pkg : decide (Check.packageOf Tryd.f6.name = "main") = false := by kernel_rfl
theorem countEvenEdges_inst : Func.isInstance Tryd.pinned.checked.prog Tryd.f6 Rows.fnExactCountEvenEdgesRow.origin Rows.fnExactCountEvenEdgesRow.targs := of_decide_eq_true (by kernel_rfl)
theorem countEvenEdges_wrap : Func.isWrapper Tryd.pinned.checked.prog Tryd.f6 Rows.fnExactCountEvenEdgesRow.wrapper Rows.fnExactCountEvenEdgesRow.mainSum := by
  unfold Func.isWrapper; rw [if_neg (of_decide_eq_false countEvenEdges_pkg)]; exact ⟨rfl, rfl⟩
set_option maxRecDepth 100000 in
theorem countEvenEdges_closed : joinedFacts Tryd.pinned.checked.prog 6 Tryd.f6 Rows.fnExactCountEvenEdgesSpec Rows.fnExactCountEvenEdgesRow = true :=
  (and_of (and_of (and_of (and_of (and_of (and_of (and_of (and_of (and_of (and_of (and_of (and_of (and_of (and_of (and_of (and_of (and_of (and_of (and_of (and_of (and_of (and_of (and_of (and_of (and_of (and_of (and_of (and_of (and_of (and_of (and_of countEvenEdges_k0 countEvenEdges_k1) countEvenEdges_k2) countEvenEdges_k3) countEvenEdges_k4) countEvenEdges_k5) countEvenEdges_k6) countEvenEdges_k7) countEvenEdges_k8) countEvenEdges_k9) countEvenEdges_k10) countEvenEdges_k11) countEvenEdges_k12) countEvenEdges_k13) countEvenEdges_k14) countEvenEdges_k15) countEvenEdges_k16) countEvenEdges_k17) countEvenEdges_k18) countEvenEdges_k19) countEvenEdges_k20) countEvenEdges_k21) countEvenEdges_k22) countEvenEdges_k23) countEvenEdges_k24) countEvenEdges_k25) countEvenEdges_k26) countEvenEdges_k27) countEvenEdges_k28) countEvenEdges_k29) countEvenEdges_k30) countEvenEdges_k31)
theorem countEvenEdges_holds : Rows.FnExactCountEvenEdgesSaid :=
  OpenClaim.holds_of_wide 6 Tryd.f6 rfl rfl rfl rfl rfl rfl rfl ⟨rfl, rfl, rfl, rfl, rfl⟩ rfl rfl rfl rfl rfl (by kernel_rfl) Tryd.func6 countEvenEdges_closed
    countEvenEdges_inst countEvenEdges_wrap (fun os started H enc _ => countEvenEdges_lifted os started H enc)
theorem countEvenEdges_w24 : Tryd.prog.wantsStandIn 24 = false := by kernel_rfl
theorem countEvenEdges_name : Tryd.prog.funcNamed "loop.example/g01146/laws.FnExactCountEvenEdges" = some 6 := by kernel_rfl
theorem countEvenEdges_card : Rows.FnExactCountEvenEdgesCardSaid :=
  Claim7.holds_tied_plain_at .later [] [.data, .data] true (true, "d9f68eeca04446aeb59a10a6381a8f5e3305cfa5fea7ce90659e0ad35415a417") false
    countEvenEdges_holds (fun _ h => by cases h) (by kernel_rfl) (fun _ h => by cases h) fnExactCountEvenEdges_row_tie rfl ⟨rfl, rfl⟩ (by kernel_rfl) rfl
    (fun f fn hf hfn => by
      obtain rfl : f = 6 := Option.some.inj (countEvenEdges_name.symm.trans hf) |>.symm
      obtain rfl : fn = Tryd.f6 := (Option.some.inj (Tryd.func6.symm.trans hfn)).symm
      exact ⟨by kernel_rfl, fun j t ht => by
        rw [Tryd.params6] at ht
        have hmem : t ∈ ([24] : List TypeId) := by
          have := Array.mem_of_getElem? ht
          simpa using this
        simp only [List.mem_cons, List.not_mem_nil, or_false] at hmem
        rcases hmem with rfl
        · exact countEvenEdges_w24⟩)
    (by kernel_rfl)
end Go.Proofs.YtmcimfblhpflnaaDoor
