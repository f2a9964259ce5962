/-
IsForest answers as its model at every graph, and the graph is as it was. The table of math/bits is tied to the program's text.
-/
import Derived.Test.YtmcimfblhpflnaaDoorBL
import Derived.Test.YtmcimfblhpflnaaDoorP
import Derived.Test.YtmcimfblhpflnaaDoorQ1
import Derived.Test.YtmcimfblhpflnaaDoorQ2
import Derived.Test.YtmcimfblhpflnaaDoorTie
import Derived.Test.YtmcimfblhpflnaaDoorCards
import Derived.SevenTiedAt
namespace Go.Proofs.YtmcimfblhpflnaaDoor
open Go.ChangeShapes Go.WideShapes Go.ChangeAt Go.WideElems Go.RowKit
set_option maxRecDepth 100000 in
theorem isForest_lifted (os : Os) (started : os.Started) (H : Type) (enc : TypeId × Value → H) :
    ReturnsInHanded {} Tryd.checked os 4 .any (fun w args => (Rows.fnExactIsForestSpec.pre enc Tryd.prog Tryd.f4 [] false w args ∧ laidMetH Tryd.prog laidL w) ∧ sizedMet enc Tryd.prog Tryd.f4 (OpenSpec.ofChange Rows.fnExactIsForestSpec) false w args)
      (Rows.fnExactIsForestSpec.post enc Tryd.prog Tryd.f4 false true false false) := by
  refine returnsInHanded_of_change_and (C := Tryd.checked) (X := fun w _ => laidMetH Tryd.prog laidL w) (fun _ _ _ hh h => h.of_heap hh) Tryd.own started (by kernel_rfl) Tryd.func4
    (ChangeSpec.witness_shaped (enc := enc) (C := Tryd.checked) (os := os) (X := fun w _ => laidMetH Tryd.prog laidL w) false (World.doorLaid Tryd.prog 400 os) #[.agg #[.slice none 0 0, .bool false]] 8 rfl (World.shaped_of_RefB (by kernel_rfl) (by kernel_rfl)) (by kernel_rfl) (by kernel_rfl) (by kernel_rfl) (door_met os _)) ?_
  intro W base args ds gs before hval0 hW _ _ hL _
  have hval : ∀ (j : Nat) t v, Tryd.f4.params[j]? = some t → args[j]? = some v → Value.okWide Tryd.prog W .any base t v := hval0
  have hW' := hW
  obtain ⟨p, q, hA0, hV, rfl, hfz, hnd⟩ := hW
  have hA : DataW.TrodAll enc Tryd.prog W 0 (fun _ => true) true Tryd.f4.params.toList args.toList ds p := hA0
  rw [Tryd.params4] at hA hval
  obtain ⟨v0, d0, rfl, rfl, h0⟩ := trodAll_one hA
  obtain ⟨rfl, rfl⟩ := trodVars_none hV
  obtain ⟨A0, n0, c0, f0, own0, rfl, hn0, hs0, hw0⟩ := open_graph (hval 0 24 v0 rfl rfl) h0
  have hT := tab_of_laid hL
  clear hA0 hval0
  simp only [List.append_nil] at hW'
  have hlt0 : ∀ x ∈ p, x.block < W.heap.size := fun x hx => hW'.lt x (by simp [hx])
  refine (lawForest A0 n0 c0 f0 own0 W hn0 hs0 hT).mono fun e W' ⟨he, hb⟩ => ?_
  subst he
  exact ⟨_, rfl, post_of_below (pa := p) (pv := []) hW' (fun _ _ _ => trodAll_mk1 (shut_bool Tryd.underlying4 true))
    (fun sp hsp => trodAll_mk1 (stays Tryd.laidOut (by kernel_rfl) (of_decide_eq_true (by kernel_rfl)) h0 hb hlt0 (fun x hx => hsp x (by simp [hx])))) (fun _ _ => rfl) (by simp) hb
    (ok_one (by kernel_rfl) rfl (okWide_bool_mk Tryd.underlying4 true))⟩
theorem isForest_k0 : (Rows.fnExactIsForestRow.wf (OpenSpec.ofChange Rows.fnExactIsForestSpec)) = true := by kernel_rfl
theorem isForest_k1 : (laidOutB Tryd.pinned.checked.prog) = true := by kernel_rfl
theorem isForest_k2 : (mapsRowed Tryd.pinned.checked.prog) = true := by kernel_rfl
theorem isForest_k3 : (Tryd.f4.params.all (Tryd.pinned.checked.prog.readableRec ·)) = true := by kernel_rfl
theorem isForest_k4 : (namedTie Tryd.pinned.checked.prog Rows.fnExactIsForestRow.named Rows.fnExactIsForestSpec.vars) = true := by kernel_rfl
theorem isForest_k5 : ((Rows.fnExactIsForestRow.stops == [])) = true := by kernel_rfl
theorem isForest_k6 : ((Tryd.pinned.checked.prog.stops == [])) = true := by kernel_rfl
theorem isForest_k7 : ((Rows.fnExactIsForestRow.knobs == [])) = true := by kernel_rfl
theorem isForest_k8 : ((Tryd.pinned.checked.prog.stopKnobs == [])) = true := by kernel_rfl
theorem isForest_k9 : ((Rows.fnExactIsForestRow.inPlace == Tryd.pinned.checked.prog.inPlace 4)) = true := by kernel_rfl
theorem isForest_k10 : ((Rows.fnExactIsForestRow.unfollowed == Tryd.pinned.checked.prog.unfollowed 4)) = true := by kernel_rfl
theorem isForest_k11 : ((Rows.fnExactIsForestRow.recurses == Tryd.pinned.checked.prog.recurses 4)) = true := by kernel_rfl
theorem isForest_k12 : ((Rows.fnExactIsForestRow.named == Tryd.pinned.checked.prog.varsNamed 4)) = true := by kernel_rfl
theorem isForest_k13 : ((Rows.fnExactIsForestRow.maps == (Tryd.f4.params.toList ++ Rows.fnExactIsForestSpec.plain.varTypes Tryd.pinned.checked.prog).any (Tryd.pinned.checked.prog.mapsRec ·))) = true := by kernel_rfl
theorem isForest_k14 : ((Rows.fnExactIsForestRow.ifaces == (Tryd.f4.params.toList ++ Rows.fnExactIsForestSpec.plain.varTypes Tryd.pinned.checked.prog).any (Tryd.pinned.checked.prog.ifacesRec ·))) = true := by kernel_rfl
theorem isForest_k15 : ((Rows.fnExactIsForestRow.mapsOut == Tryd.pinned.checked.prog.mapsAmong Tryd.f4.resultTypes.toList)) = true := by kernel_rfl
theorem isForest_k16 : ((Rows.fnExactIsForestRow.loops == (Tryd.f4.params.toList ++ Rows.fnExactIsForestSpec.plain.varTypes Tryd.pinned.checked.prog).any (Tryd.pinned.checked.prog.loopsFrom ·))) = true := by kernel_rfl
theorem isForest_k17 : ((Rows.fnExactIsForestRow.wideKeys == (Tryd.f4.params.toList ++ Rows.fnExactIsForestSpec.plain.varTypes Tryd.pinned.checked.prog ++ Tryd.f4.resultTypes.toList).any (Tryd.pinned.checked.prog.wideKeysFrom ·))) = true := by kernel_rfl
theorem isForest_k18 : (Rows.fnExactIsForestSpec.vars.all (Tryd.pinned.checked.prog.varReadable ·)) = true := by kernel_rfl
theorem isForest_k19 : (Tryd.f4.resultTypes.all (fun t => Tryd.pinned.checked.prog.readableRec t && decide (t < Tryd.pinned.checked.prog.types.size))) = true := by kernel_rfl
theorem isForest_k20 : ((Rows.fnExactIsForestRow.ifacesOut == Tryd.f4.resultTypes.toList.any (Tryd.pinned.checked.prog.ifacesRec ·))) = true := by kernel_rfl
theorem isForest_k21 : ((Rows.fnExactIsForestRow.loopsOut == Tryd.f4.resultTypes.toList.any (Tryd.pinned.checked.prog.loopsFrom ·))) = true := by kernel_rfl
theorem isForest_k22 : ((Rows.fnExactIsForestRow.plainKeys == Tryd.pinned.checked.prog.plainKeys)) = true := by kernel_rfl
theorem isForest_k23 : (Rows.fnExactIsForestRow.shortTexts.isNone) = true := by kernel_rfl
theorem isForest_k24 : (Tryd.pinned.checked.prog.stopsHeard) = true := by kernel_rfl
theorem isForest_k25 : (Tryd.pinned.checked.prog.mayEnter) = true := x_enter
theorem isForest_k26 : ((Rows.fnExactIsForestRow.lifted == Tryd.pinned.checked.prog.liftsFinal)) = true := by rw [x_lifts]; rfl
theorem isForest_k27 : ((Tryd.pinned.checked.prog.make == some Rows.fnExactIsForestRow.make)) = true := by rw [x_make]; rfl
theorem isForest_k28 : ((Rows.fnExactIsForestRow.kinds == (if Rows.fnExactIsForestRow.domain.isEmpty then [] else Tryd.f4.params.toList.map fun t => match Tryd.pinned.checked.prog.underlying t with | some (.int k) => some k | _ => none))) = true := by kernel_rfl
theorem isForest_k29 : ((Rows.fnExactIsForestRow.pinned == Rows.fnExactIsForestRow.pinnedBy)) = true := by kernel_rfl
theorem isForest_k30 : ((Rows.fnExactIsForestRow.veiled == (Tryd.f4.params.toList ++ Rows.fnExactIsForestSpec.plain.varTypes Tryd.pinned.checked.prog ++ Tryd.f4.resultTypes.toList).any (Tryd.pinned.checked.prog.veiledRec ·))) = true := by kernel_rfl
theorem isForest_k31 : (Rows.fnExactIsForestRow.veiledFits Tryd.pinned.checked.prog Tryd.f4.params.toList (Tryd.f4.params.toList ++ Rows.fnExactIsForestSpec.plain.varTypes Tryd.pinned.checked.prog ++ Tryd.f4.resultTypes.toList)) = true := by kernel_rfl
theorem isForest_pkg : decide (Check.packageOf Tryd.f4.name = "main") = false := by kernel_rfl
theorem isForest_inst : Func.isInstance Tryd.pinned.checked.prog Tryd.f4 Rows.fnExactIsForestRow.origin Rows.fnExactIsForestRow.targs := of_decide_eq_true (by kernel_rfl)
theorem isForest_wrap : Func.isWrapper Tryd.pinned.checked.prog Tryd.f4 Rows.fnExactIsForestRow.wrapper Rows.fnExactIsForestRow.mainSum := by
  unfold Func.isWrapper; rw [if_neg (of_decide_eq_false isForest_pkg)]; exact ⟨rfl, rfl⟩
set_option maxRecDepth 100000 in
theorem isForest_closed : joinedFacts Tryd.pinned.checked.prog 4 Tryd.f4 Rows.fnExactIsForestSpec Rows.fnExactIsForestRow = true :=
  (and_of (and_of (and_of (and_of (and_of (and_of (and_of (and_of (and_of (and_of (and_of (and_of (and_of (and_of (and_of (and_of (and_of (and_of (and_of (and_of (and_of (and_of (and_of (and_of (and_of (and_of (and_of (and_of (and_of (and_of (and_of isForest_k0 isForest_k1) isForest_k2) isForest_k3) isForest_k4) isForest_k5) isForest_k6) isForest_k7) isForest_k8) isForest_k9) isForest_k10) isForest_k11) isForest_k12) isForest_k13) isForest_k14) isForest_k15) isForest_k16) isForest_k17) isForest_k18) isForest_k19) isForest_k20) isForest_k21) isForest_k22) isForest_k23) isForest_k24) isForest_k25) isForest_k26) isForest_k27) isForest_k28) isForest_k29) isForest_k30) isForest_k31)
theorem isForest_holds : Rows.FnExactIsForestSaid :=
  OpenClaim.holds_of_wide 4 Tryd.f4 rfl rfl rfl rfl rfl rfl rfl ⟨rfl, rfl, rfl, rfl, rfl⟩ rfl rfl rfl rfl rfl (by kernel_rfl) Tryd.func4 isForest_closed
    isForest_inst isForest_wrap (fun os started H enc _ => isForest_lifted os started H enc)
theorem isForest_w24 : Tryd.prog.wantsStandIn 24 = false := by kernel_rfl
theorem isForest_name : Tryd.prog.funcNamed "loop.example/g01146/laws.FnExactIsForest" = some 4 := by kernel_rfl
theorem isForest_card : Rows.FnExactIsForestCardSaid :=
  Claim7.holds_tied_plain_at .later [] [.data, .data] true (true, "d9f68eeca04446aeb59a10a6381a8f5e3305cfa5fea7ce90659e0ad35415a417") false
    isForest_holds (fun _ h => by cases h) (by kernel_rfl) (fun _ h => by cases h) fnExactIsForest_row_tie rfl ⟨rfl, rfl⟩ (by kernel_rfl) rfl
    (fun f fn hf hfn => by
      obtain rfl : f = 4 := Option.some.inj (isForest_name.symm.trans hf) |>.symm
      obtain rfl : fn = Tryd.f4 := (Option.some.inj (Tryd.func4.symm.trans hfn)).symm
      exact ⟨by kernel_rfl, fun j t ht => by
        rw [Tryd.params4] at ht
        have hmem : t ∈ ([24] : List TypeId) := by
          have := Array.mem_of_getElem? ht
          simpa using this
        simp only [List.mem_cons, List.not_mem_nil, or_false] at hmem
        rcases hmem with rfl
        · exact isForest_w24⟩)
    (by kernel_rfl)
end Go.Proofs.YtmcimfblhpflnaaDoor
