/-
PartsOf answers as its model at every graph, its answers share no memory, and the graph is as it was. The table of math/bits is tied to the program's text.
-/
import Derived.Test.YtmcimfblhpflnaaDoorPY
import Derived.Test.YtmcimfblhpflnaaDoorP
import Derived.Test.YtmcimfblhpflnaaDoorQ1
import Derived.Test.YtmcimfblhpflnaaDoorQ2
import Derived.Test.YtmcimfblhpflnaaDoorTie
import Derived.Test.YtmcimfblhpflnaaDoorCards
import Derived.SevenTiedAt
namespace Go.Proofs.YtmcimfblhpflnaaDoor
open Go.ChangeShapes Go.WideShapes Go.ChangeAt Go.WideElems Go.RowKit
set_option maxRecDepth 100000 in
theorem partsOf_lifted (os : Os) (started : os.Started) (H : Type) (enc : TypeId × Value → H) :
    ReturnsInHanded {} Tryd.checked os 3 .any (fun w args => (Rows.fnExactPartsOfSpec.pre enc Tryd.prog Tryd.f3 [] false w args ∧ laidMetH Tryd.prog laidL w) ∧ sizedMet enc Tryd.prog Tryd.f3 (OpenSpec.ofChange Rows.fnExactPartsOfSpec) false w args)
      (Rows.fnExactPartsOfSpec.post enc Tryd.prog Tryd.f3 false true false false) := by
  refine returnsInHanded_of_change_and (C := Tryd.checked) (X := fun w _ => laidMetH Tryd.prog laidL w) (fun _ _ _ hh h => h.of_heap hh) Tryd.own started (by kernel_rfl) Tryd.func3
    (ChangeSpec.witness_shaped (enc := enc) (C := Tryd.checked) (os := os) (X := fun w _ => laidMetH Tryd.prog laidL w) false (World.doorLaid Tryd.prog 400 os) #[.agg #[.slice none 0 0, .bool false]] 8 rfl (World.shaped_of_RefB (by kernel_rfl) (by kernel_rfl)) (by kernel_rfl) (by kernel_rfl) (by kernel_rfl) (door_met os _)) ?_
  intro W base args ds gs before hval0 hW _ _ hL _
  have hval : ∀ (j : Nat) t v, Tryd.f3.params[j]? = some t → args[j]? = some v → Value.okWide Tryd.prog W .any base t v := hval0
  have hW' := hW
  obtain ⟨p, q, hA0, hV, rfl, hfz, hnd⟩ := hW
  have hA : DataW.TrodAll enc Tryd.prog W 0 (fun _ => true) true Tryd.f3.params.toList args.toList ds p := hA0
  rw [Tryd.params3] at hA hval
  obtain ⟨v0, d0, rfl, rfl, h0⟩ := trodAll_one hA
  obtain ⟨rfl, rfl⟩ := trodVars_none hV
  obtain ⟨A0, n0, c0, f0, own0, rfl, hn0, hs0, hw0⟩ := open_graph (hval 0 24 v0 rfl rfl) h0
  have hT := tab_of_laid hL
  clear hA0 hval0
  simp only [List.append_nil] at hW'
  have hlt0 : ∀ x ∈ p, x.block < W.heap.size := fun x hx => hW'.lt x (by simp [hx])
  refine (lawParts A0 n0 c0 f0 own0 W hn0 hs0 hT).mono fun e W' ⟨he, hb⟩ => ?_
  subst he
  exact ⟨_, rfl, post_of_below (pa := p) (pv := []) hW' (fun _ _ _ => trodAll_mk1 (shut_bool Tryd.underlying4 true))
    (fun sp hsp => trodAll_mk1 (stays Tryd.laidOut (by kernel_rfl) (of_decide_eq_true (by kernel_rfl)) h0 hb hlt0 (fun x hx => hsp x (by simp [hx])))) (fun _ _ => rfl) (by simp) hb
    (ok_one (by kernel_rfl) rfl (okWide_bool_mk Tryd.underlying4 true))⟩
theorem partsOf_k0 : (Rows.fnExactPartsOfRow.wf (OpenSpec.ofChange Rows.fnExactPartsOfSpec)) = true := by kernel_rfl
theorem partsOf_k1 : (laidOutB Tryd.pinned.checked.prog) = true := by kernel_rfl
theorem partsOf_k2 : (mapsRowed Tryd.pinned.checked.prog) = true := by kernel_rfl
theorem partsOf_k3 : (Tryd.f3.params.all (Tryd.pinned.checked.prog.readableRec ·)) = true := by kernel_rfl
theorem partsOf_k4 : (namedTie Tryd.pinned.checked.prog Rows.fnExactPartsOfRow.named Rows.fnExactPartsOfSpec.vars) = true := by kernel_rfl
theorem partsOf_k5 : ((Rows.fnExactPartsOfRow.stops == [])) = true := by kernel_rfl
theorem partsOf_k6 : ((Tryd.pinned.checked.prog.stops == [])) = true := by kernel_rfl
theorem partsOf_k7 : ((Rows.fnExactPartsOfRow.knobs == [])) = true := by kernel_rfl
theorem partsOf_k8 : ((Tryd.pinned.checked.prog.stopKnobs == [])) = true := by kernel_rfl
theorem partsOf_k9 : ((Rows.fnExactPartsOfRow.inPlace == Tryd.pinned.checked.prog.inPlace 3)) = true := by kernel_rfl
theorem partsOf_k10 : ((Rows.fnExactPartsOfRow.unfollowed == Tryd.pinned.checked.prog.unfollowed 3)) = true := by kernel_rfl
theorem partsOf_k11 : ((Rows.fnExactPartsOfRow.recurses == Tryd.pinned.checked.prog.recurses 3)) = true := by kernel_rfl
theorem partsOf_k12 : ((Rows.fnExactPartsOfRow.named == Tryd.pinned.checked.prog.varsNamed 3)) = true := by kernel_rfl
theorem partsOf_k13 : ((Rows.fnExactPartsOfRow.maps == (Tryd.f3.params.toList ++ Rows.fnExactPartsOfSpec.plain.varTypes Tryd.pinned.checked.prog).any (Tryd.pinned.checked.prog.mapsRec ·))) = true := by kernel_rfl
theorem partsOf_k14 : ((Rows.fnExactPartsOfRow.ifaces == (Tryd.f3.params.toList ++ Rows.fnExactPartsOfSpec.plain.varTypes Tryd.pinned.checked.prog).any (Tryd.pinned.checked.prog.ifacesRec ·))) = true := by kernel_rfl
theorem partsOf_k15 : ((Rows.fnExactPartsOfRow.mapsOut == Tryd.pinned.checked.prog.mapsAmong Tryd.f3.resultTypes.toList)) = true := by kernel_rfl
theorem partsOf_k16 : ((Rows.fnExactPartsOfRow.loops == (Tryd.f3.params.toList ++ Rows.fnExactPartsOfSpec.plain.varTypes Tryd.pinned.checked.prog).any (Tryd.pinned.checked.prog.loopsFrom ·))) = true := by kernel_rfl
theorem partsOf_k17 : ((Rows.fnExactPartsOfRow.wideKeys == (Tryd.f3.params.toList ++ Rows.fnExactPartsOfSpec.plain.varTypes Tryd.pinned.checked.prog ++ Tryd.f3.resultTypes.toList).any (Tryd.pinned.checked.prog.wideKeysFrom ·))) = true := by kernel_rfl
theorem partsOf_k18 : (Rows.fnExactPartsOfSpec.vars.all (Tryd.pinned.checked.prog.varReadable ·)) = true := by kernel_rfl
theorem partsOf_k19 : (Tryd.f3.resultTypes.all (fun t => Tryd.pinned.checked.prog.readableRec t && decide (t < Tryd.pinned.checked.prog.types.size))) = true := by kernel_rfl
theorem partsOf_k20 : ((Rows.fnExactPartsOfRow.ifacesOut == Tryd.f3.resultTypes.toList.any (Tryd.pinned.checked.prog.ifacesRec ·))) = true := by kernel_rfl
theorem partsOf_k21 : ((Rows.fnExactPartsOfRow.loopsOut == Tryd.f3.resultTypes.toList.any (Tryd.pinned.checked.prog.loopsFrom ·))) = true := by kernel_rfl
theorem partsOf_k22 : ((Rows.fnExactPartsOfRow.plainKeys == Tryd.pinned.checked.prog.plainKeys)) = true := by kernel_rfl
theorem partsOf_k23 : (Rows.fnExactPartsOfRow.shortTexts.isNone) = true := by kernel_rfl
theorem partsOf_k24 : (Tryd.pinned.checked.prog.stopsHeard) = true := by kernel_rfl
theorem partsOf_k25 : (Tryd.pinned.checked.prog.mayEnter) = true := x_enter
theorem partsOf_k26 : ((Rows.fnExactPartsOfRow.lifted == Tryd.pinned.checked.prog.liftsFinal)) = true := by rw [x_lifts]; rfl
theorem partsOf_k27 : ((Tryd.pinned.checked.prog.make == some Rows.fnExactPartsOfRow.make)) = true := by rw [x_make]; rfl
theorem partsOf_k28 : ((Rows.fnExactPartsOfRow.kinds == (if Rows.fnExactPartsOfRow.domain.isEmpty then [] else Tryd.f3.params.toList.map fun t => match Tryd.pinned.checked.prog.underlying t with | some (.int k) => some k | _ => none))) = true := by kernel_rfl
theorem partsOf_k29 : ((Rows.fnExactPartsOfRow.pinned == Rows.fnExactPartsOfRow.pinnedBy)) = true := by kernel_rfl
theorem partsOf_k30 : ((Rows.fnExactPartsOfRow.veiled == (Tryd.f3.params.toList ++ Rows.fnExactPartsOfSpec.plain.varTypes Tryd.pinned.checked.prog ++ Tryd.f3.resultTypes.toList).any (Tryd.pinned.checked.prog.veiledRec ·))) = true := by kernel_rfl
theorem partsOf_k31 : (Rows.fnExactPartsOfRow.veiledFits Tryd.pinned.checked.prog Tryd.f3.params.toList (Tryd.f3.params.toList ++ Rows.fnExactPartsOfSpec.plain.varTypes Tryd.pinned.checked.prog ++ Tryd.f3.resultTypes.toList)) = true := by kernel_rfl
theorem partsOf_pkg : decide (Check.packageOf Tryd.f3.name = "main") = false := by kernel_rfl
theorem partsOf_inst : Func.isInstance Tryd.pinned.checked.prog Tryd.f3 Rows.fnExactPartsOfRow.origin Rows.fnExactPartsOfRow.targs := of_decide_eq_true (by kernel_rfl)
theorem partsOf_wrap : Func.isWrapper Tryd.pinned.checked.prog Tryd.f3 Rows.fnExactPartsOfRow.wrapper Rows.fnExactPartsOfRow.mainSum := by
  unfold Func.isWrapper; rw [if_neg (of_decide_eq_false partsOf_pkg)]; exact ⟨rfl, rfl⟩
set_option maxRecDepth 100000 in
theorem partsOf_closed : joinedFacts Tryd.pinned.checked.prog 3 Tryd.f3 Rows.fnExactPartsOfSpec Rows.fnExactPartsOfRow = true :=
  (and_of (and_of (and_of (and_of (and_of (and_of (and_of (and_of (and_of (and_of (and_of (and_of (and_of (and_of (and_of (and_of (and_of (and_of (and_of (and_of (and_of (and_of (and_of (and_of (and_of (and_of (and_of (and_of (and_of (and_of (and_of partsOf_k0 partsOf_k1) partsOf_k2) partsOf_k3) partsOf_k4) partsOf_k5) partsOf_k6) partsOf_k7) partsOf_k8) partsOf_k9) partsOf_k10) partsOf_k11) partsOf_k12) partsOf_k13) partsOf_k14) partsOf_k15) partsOf_k16) partsOf_k17) partsOf_k18) partsOf_k19) partsOf_k20) partsOf_k21) partsOf_k22) partsOf_k23) partsOf_k24) partsOf_k25) partsOf_k26) partsOf_k27) partsOf_k28) partsOf_k29) partsOf_k30) partsOf_k31)
theorem partsOf_holds : Rows.FnExactPartsOfSaid :=
  OpenClaim.holds_of_wide 3 Tryd.f3 rfl rfl rfl rfl rfl rfl rfl ⟨rfl, rfl, rfl, rfl, rfl⟩ rfl rfl rfl rfl rfl (by kernel_rfl) Tryd.func3 partsOf_closed
    partsOf_inst partsOf_wrap (fun os started H enc _ => partsOf_lifted os started H enc)
theorem partsOf_w24 : Tryd.prog.wantsStandIn 24 = false := by kernel_rfl
theorem partsOf_name : Tryd.prog.funcNamed "loop.example/g01146/laws.FnExactPartsOf" = some 3 := by kernel_rfl
theorem partsOf_card : Rows.FnExactPartsOfCardSaid :=
  Claim7.holds_tied_plain_at .later [] [.data, .data] true (true, "d9f68eeca04446aeb59a10a6381a8f5e3305cfa5fea7ce90659e0ad35415a417") false
    partsOf_holds (fun _ h => by cases h) (by kernel_rfl) (fun _ h => by cases h) fnExactPartsOf_row_tie rfl ⟨rfl, rfl⟩ (by kernel_rfl) rfl
    (fun f fn hf hfn => by
      obtain rfl : f = 3 := Option.some.inj (partsOf_name.symm.trans hf) |>.symm
      obtain rfl : fn = Tryd.f3 := (Option.some.inj (Tryd.func3.symm.trans hfn)).symm
      exact ⟨by kernel_rfl, fun j t ht => by
        rw [Tryd.params3] at ht
        have hmem : t ∈ ([24] : List TypeId) := by
          have := Array.mem_of_getElem? ht
          simpa using this
        simp only [List.mem_cons, List.not_mem_nil, or_false] at hmem
        rcases hmem with rfl
        · exact partsOf_w24⟩)
    (by kernel_rfl)
end Go.Proofs.YtmcimfblhpflnaaDoor
