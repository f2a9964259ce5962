/-
ParentsOf answers as its model at every graph, its answers share no memory, and the graph is as it was. The table of math/bits is tied to the program's text.
-/
import Derived.Test.YtmcimfblhpflnaaDoorFP
import Derived.Test.YtmcimfblhpflnaaDoorP
import Derived.Test.YtmcimfblhpflnaaDoorQ1
import Derived.Test.YtmcimfblhpflnaaDoorQ2
import Derived.Test.YtmcimfblhpflnaaDoorTie
import Derived.Test.YtmcimfblhpflnaaDoorCards
import Derived.SevenTiedAt
namespace Go.Proofs.YtmcimfblhpflnaaDoor
open Go.ChangeShapes Go.WideShapes Go.ChangeAt Go.WideElems Go.RowKit
set_option maxRecDepth 100000 in
theorem parentsOf_lifted (os : Os) (started : os.Started) (H : Type) (enc : TypeId × Value → H) :
    ReturnsInHanded {} Tryd.checked os 7 .any (fun w args => (Rows.fnExactParentsOfSpec.pre enc Tryd.prog Tryd.f7 [] false w args ∧ laidMetH Tryd.prog laidL w) ∧ sizedMet enc Tryd.prog Tryd.f7 (OpenSpec.ofChange Rows.fnExactParentsOfSpec) false w args)
      (Rows.fnExactParentsOfSpec.post enc Tryd.prog Tryd.f7 false true false false) := by
  refine returnsInHanded_of_change_and (C := Tryd.checked) (X := fun w _ => laidMetH Tryd.prog laidL w) (fun _ _ _ hh h => h.of_heap hh) Tryd.own started (by kernel_rfl) Tryd.func7
    (ChangeSpec.witness_shaped (enc := enc) (C := Tryd.checked) (os := os) (X := fun w _ => laidMetH Tryd.prog laidL w) false (World.doorLaid Tryd.prog 400 os) #[.agg #[.slice none 0 0, .bool false]] 8 rfl (World.shaped_of_RefB (by kernel_rfl) (by kernel_rfl)) (by kernel_rfl) (by kernel_rfl) (by kernel_rfl) (door_met os _)) ?_
  intro W base args ds gs before hval0 hW _ _ hL _
  have hval : ∀ (j : Nat) t v, Tryd.f7.params[j]? = some t → args[j]? = some v → Value.okWide Tryd.prog W .any base t v := hval0
  have hW' := hW
  obtain ⟨p, q, hA0, hV, rfl, hfz, hnd⟩ := hW
  have hA : DataW.TrodAll enc Tryd.prog W 0 (fun _ => true) true Tryd.f7.params.toList args.toList ds p := hA0
  rw [Tryd.params7] at hA hval
  obtain ⟨v0, d0, rfl, rfl, h0⟩ := trodAll_one hA
  obtain ⟨rfl, rfl⟩ := trodVars_none hV
  obtain ⟨A0, n0, c0, f0, own0, rfl, hn0, hs0, hw0⟩ := open_graph (hval 0 24 v0 rfl rfl) h0
  have hT := tab_of_laid hL
  clear hA0 hval0
  simp only [List.append_nil] at hW'
  have hlt0 : ∀ x ∈ p, x.block < W.heap.size := fun x hx => hW'.lt x (by simp [hx])
  refine (lawParents A0 n0 c0 f0 own0 W hn0 hs0 hT).mono fun e W' ⟨he, hb⟩ => ?_
  subst he
  exact ⟨_, rfl, post_of_below (pa := p) (pv := []) hW' (fun _ _ _ => trodAll_mk1 (shut_bool Tryd.underlying4 true))
    (fun sp hsp => trodAll_mk1 (stays Tryd.laidOut (by kernel_rfl) (of_decide_eq_true (by kernel_rfl)) h0 hb hlt0 (fun x hx => hsp x (by simp [hx])))) (fun _ _ => rfl) (by simp) hb
    (ok_one (by kernel_rfl) rfl (okWide_bool_mk Tryd.underlying4 true))⟩
theorem parentsOf_k0 : (Rows.fnExactParentsOfRow.wf (OpenSpec.ofChange Rows.fnExactParentsOfSpec)) = true := by kernel_rfl
theorem parentsOf_k1 : (laidOutB Tryd.pinned.checked.prog) = true := by kernel_rfl
theorem parentsOf_k2 : (mapsRowed Tryd.pinned.checked.prog) = true := by kernel_rfl
theorem parentsOf_k3 : (Tryd.f7.params.all (Tryd.pinned.checked.prog.readableRec ·)) = true := by kernel_rfl
theorem parentsOf_k4 : (namedTie Tryd.pinned.checked.prog Rows.fnExactParentsOfRow.named Rows.fnExactParentsOfSpec.vars) = true := by kernel_rfl
theorem parentsOf_k5 : ((Rows.fnExactParentsOfRow.stops == [])) = true := by kernel_rfl
theorem parentsOf_k6 : ((Tryd.pinned.checked.prog.stops == [])) = true := by kernel_rfl
theorem parentsOf_k7 : ((Rows.fnExactParentsOfRow.knobs == [])) = true := by kernel_rfl
theorem parentsOf_k8 : ((Tryd.pinned.checked.prog.stopKnobs == [])) = true := by kernel_rfl
theorem parentsOf_k9 : ((Rows.fnExactParentsOfRow.inPlace == Tryd.pinned.checked.prog.inPlace 7)) = true := by kernel_rfl
theorem parentsOf_k10 : ((Rows.fnExactParentsOfRow.unfollowed == Tryd.pinned.checked.prog.unfollowed 7)) = true := by kernel_rfl
theorem parentsOf_k11 : ((Rows.fnExactParentsOfRow.recurses == Tryd.pinned.checked.prog.recurses 7)) = true := by kernel_rfl
theorem parentsOf_k12 : ((Rows.fnExactParentsOfRow.named == Tryd.pinned.checked.prog.varsNamed 7)) = true := by kernel_rfl
theorem parentsOf_k13 : ((Rows.fnExactParentsOfRow.maps == (Tryd.f7.params.toList ++ Rows.fnExactParentsOfSpec.plain.varTypes Tryd.pinned.checked.prog).any (Tryd.pinned.checked.prog.mapsRec ·))) = true := by kernel_rfl
theorem parentsOf_k14 : ((Rows.fnExactParentsOfRow.ifaces == (Tryd.f7.params.toList ++ Rows.fnExactParentsOfSpec.plain.varTypes Tryd.pinned.checked.prog).any (Tryd.pinned.checked.prog.ifacesRec ·))) = true := by kernel_rfl
theorem parentsOf_k15 : ((Rows.fnExactParentsOfRow.mapsOut == Tryd.pinned.checked.prog.mapsAmong Tryd.f7.resultTypes.toList)) = true := by kernel_rfl
theorem parentsOf_k16 : ((Rows.fnExactParentsOfRow.loops == (Tryd.f7.params.toList ++ Rows.fnExactParentsOfSpec.plain.varTypes Tryd.pinned.checked.prog).any (Tryd.pinned.checked.prog.loopsFrom ·))) = true := by kernel_rfl
theorem parentsOf_k17 : ((Rows.fnExactParentsOfRow.wideKeys == (Tryd.f7.params.toList ++ Rows.fnExactParentsOfSpec.plain.varTypes Tryd.pinned.checked.prog ++ Tryd.f7.resultTypes.toList).any (Tryd.pinned.checked.prog.wideKeysFrom ·))) = true := by kernel_rfl
theorem parentsOf_k18 : (Rows.fnExactParentsOfSpec.vars.all (Tryd.pinned.checked.prog.varReadable ·)) = true := by kernel_rfl
theorem parentsOf_k19 : (Tryd.f7.resultTypes.all (fun t => Tryd.pinned.checked.prog.readableRec t && decide (t < Tryd.pinned.checked.prog.types.size))) = true := by kernel_rfl
theorem parentsOf_k20 : ((Rows.fnExactParentsOfRow.ifacesOut == Tryd.f7.resultTypes.toList.any (Tryd.pinned.checked.prog.ifacesRec ·))) = true := by kernel_rfl
theorem parentsOf_k21 : ((Rows.fnExactParentsOfRow.loopsOut == Tryd.f7.resultTypes.toList.any (Tryd.pinned.checked.prog.loopsFrom ·))) = true := by kernel_rfl
theorem parentsOf_k22 : ((Rows.fnExactParentsOfRow.plainKeys == Tryd.pinned.checked.prog.plainKeys)) = true := by kernel_rfl
theorem parentsOf_k23 : (Rows.fnExactParentsOfRow.shortTexts.isNone) = true := by kernel_rfl
theorem parentsOf_k24 : (Tryd.pinned.checked.prog.stopsHeard) = true := by kernel_rfl
theorem parentsOf_k25 : (Tryd.pinned.checked.prog.mayEnter) = true := x_enter
theorem parentsOf_k26 : ((Rows.fnExactParentsOfRow.lifted == Tryd.pinned.checked.prog.liftsFinal)) = true := by rw [x_lifts]; rfl
theorem parentsOf_k27 : ((Tryd.pinned.checked.prog.make == some Rows.fnExactParentsOfRow.make)) = true := by rw [x_make]; rfl
theorem parentsOf_k28 : ((Rows.fnExactParentsOfRow.kinds == (if Rows.fnExactParentsOfRow.domain.isEmpty then [] else Tryd.f7.params.toList.map fun t => match Tryd.pinned.checked.prog.underlying t with | some (.int k) => some k | _ => none))) = true := by kernel_rfl
theorem parentsOf_k29 : ((Rows.fnExactParentsOfRow.pinned == Rows.fnExactParentsOfRow.pinnedBy)) = true := by kernel_rfl
theorem parentsOf_k30 : ((Rows.fnExactParentsOfRow.veiled == (Tryd.f7.params.toList ++ Rows.fnExactParentsOfSpec.plain.varTypes Tryd.pinned.checked.prog ++ Tryd.f7.resultTypes.toList).any (Tryd.pinned.checked.prog.veiledRec ·))) = true := by kernel_rfl
theorem parentsOf_k31 : (Rows.fnExactParentsOfRow.veiledFits Tryd.pinned.checked.prog Tryd.f7.params.toList (Tryd.f7.params.toList ++ Rows.fnExactParentsOfSpec.plain.varTypes Tryd.pinned.checked.prog ++ Tryd.f7.resultTypes.toList)) = true := by kernel_rfl
theorem parentsOf_pkg : decide (Check.packageOf Tryd.f7.name = "main") = false := by kernel_rfl
theorem parentsOf_inst : Func.isInstance Tryd.pinned.checked.prog Tryd.f7 Rows.fnExactParentsOfRow.origin Rows.fnExactParentsOfRow.targs := of_decide_eq_true (by kernel_rfl)
theorem parentsOf_wrap : Func.isWrapper Tryd.pinned.checked.prog Tryd.f7 Rows.fnExactParentsOfRow.wrapper Rows.fnExactParentsOfRow.mainSum := by
  unfold Func.isWrapper; rw [if_neg (of_decide_eq_false parentsOf_pkg)]; exact ⟨rfl, rfl⟩
set_option maxRecDepth 100000 in
theorem parentsOf_closed : joinedFacts Tryd.pinned.checked.prog 7 Tryd.f7 Rows.fnExactParentsOfSpec Rows.fnExactParentsOfRow = true :=
  (and_of (and_of (and_of (and_of (and_of (and_of (and_of (and_of (and_of (and_of (and_of (and_of (and_of (and_of (and_of (and_of (and_of (and_of (and_of (and_of (and_of (and_of (and_of (and_of (and_of (and_of (and_of (and_of (and_of (and_of (and_of parentsOf_k0 parentsOf_k1) parentsOf_k2) parentsOf_k3) parentsOf_k4) parentsOf_k5) parentsOf_k6) parentsOf_k7) parentsOf_k8) parentsOf_k9) parentsOf_k10) parentsOf_k11) parentsOf_k12) parentsOf_k13) parentsOf_k14) parentsOf_k15) parentsOf_k16) parentsOf_k17) parentsOf_k18) parentsOf_k19) parentsOf_k20) parentsOf_k21) parentsOf_k22) parentsOf_k23) parentsOf_k24) parentsOf_k25) parentsOf_k26) parentsOf_k27) parentsOf_k28) parentsOf_k29) parentsOf_k30) parentsOf_k31)
theorem parentsOf_holds : Rows.FnExactParentsOfSaid :=
  OpenClaim.holds_of_wide 7 Tryd.f7 rfl rfl rfl rfl rfl rfl rfl ⟨rfl, rfl, rfl, rfl, rfl⟩ rfl rfl rfl rfl rfl (by kernel_rfl) Tryd.func7 parentsOf_closed
    parentsOf_inst parentsOf_wrap (fun os started H enc _ => parentsOf_lifted os started H enc)
theorem parentsOf_w24 : Tryd.prog.wantsStandIn 24 = false := by kernel_rfl
theorem parentsOf_name : Tryd.prog.funcNamed "loop.example/g01146/laws.FnExactParentsOf" = some 7 := by kernel_rfl
theorem parentsOf_card : Rows.FnExactParentsOfCardSaid :=
  Claim7.holds_tied_plain_at .later [] [.data, .data] true (true, "d9f68eeca04446aeb59a10a6381a8f5e3305cfa5fea7ce90659e0ad35415a417") false
    parentsOf_holds (fun _ h => by cases h) (by kernel_rfl) (fun _ h => by cases h) fnExactParentsOf_row_tie rfl ⟨rfl, rfl⟩ (by kernel_rfl) rfl
    (fun f fn hf hfn => by
      obtain rfl : f = 7 := Option.some.inj (parentsOf_name.symm.trans hf) |>.symm
      obtain rfl : fn = Tryd.f7 := (Option.some.inj (Tryd.func7.symm.trans hfn)).symm
      exact ⟨by kernel_rfl, fun j t ht => by
        rw [Tryd.params7] at ht
        have hmem : t ∈ ([24] : List TypeId) := by
          have := Array.mem_of_getElem? ht
          simpa using this
        simp only [List.mem_cons, List.not_mem_nil, or_false] at hmem
        rcases hmem with rfl
        · exact parentsOf_w24⟩)
    (by kernel_rfl)
end Go.Proofs.YtmcimfblhpflnaaDoor
