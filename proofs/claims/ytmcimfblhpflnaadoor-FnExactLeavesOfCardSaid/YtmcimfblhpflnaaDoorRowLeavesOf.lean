/-
LeavesOf answers as its model at every graph, and the graph is as it was. The table of math/bits is tied to the program's text.
-/
import Derived.Test.YtmcimfblhpflnaaDoorBM
import Derived.Test.YtmcimfblhpflnaaDoorP
import Derived.Test.YtmcimfblhpflnaaDoorQ1
import Derived.Test.YtmcimfblhpflnaaDoorQ2
import Derived.Test.YtmcimfblhpflnaaDoorTie
import Derived.Test.YtmcimfblhpflnaaDoorCards
import Derived.SevenTiedAt
namespace Go.Proofs.YtmcimfblhpflnaaDoor
open Go.ChangeShapes Go.WideShapes Go.ChangeAt Go.WideElems Go.RowKit
set_option maxRecDepth 100000 in
theorem leavesOf_lifted (os : Os) (started : os.Started) (H : Type) (enc : TypeId × Value → H) :
    ReturnsInHanded {} Tryd.checked os 5 .any (fun w args => (Rows.fnExactLeavesOfSpec.pre enc Tryd.prog Tryd.f5 [] false w args ∧ laidMetH Tryd.prog laidL w) ∧ sizedMet enc Tryd.prog Tryd.f5 (OpenSpec.ofChange Rows.fnExactLeavesOfSpec) false w args)
      (Rows.fnExactLeavesOfSpec.post enc Tryd.prog Tryd.f5 false true false false) := by
  refine returnsInHanded_of_change_and (C := Tryd.checked) (X := fun w _ => laidMetH Tryd.prog laidL w) (fun _ _ _ hh h => h.of_heap hh) Tryd.own started (by kernel_rfl) Tryd.func5
    (ChangeSpec.witness_shaped (enc := enc) (C := Tryd.checked) (os := os) (X := fun w _ => laidMetH Tryd.prog laidL w) false (World.doorLaid Tryd.prog 400 os) #[.agg #[.slice none 0 0, .bool false]] 8 rfl (World.shaped_of_RefB (by kernel_rfl) (by kernel_rfl)) (by kernel_rfl) (by kernel_rfl) (by kernel_rfl) (door_met os _)) ?_
  intro W base args ds gs before hval0 hW _ _ hL _
  have hval : ∀ (j : Nat) t v, Tryd.f5.params[j]? = some t → args[j]? = some v → Value.okWide Tryd.prog W .any base t v := hval0
  have hW' := hW
  obtain ⟨p, q, hA0, hV, rfl, hfz, hnd⟩ := hW
  have hA : DataW.TrodAll enc Tryd.prog W 0 (fun _ => true) true Tryd.f5.params.toList args.toList ds p := hA0
  rw [Tryd.params5] at hA hval
  obtain ⟨v0, d0, rfl, rfl, h0⟩ := trodAll_one hA
  obtain ⟨rfl, rfl⟩ := trodVars_none hV
  obtain ⟨A0, n0, c0, f0, own0, rfl, hn0, hs0, hw0⟩ := open_graph (hval 0 24 v0 rfl rfl) h0
  have hT := tab_of_laid hL
  clear hA0 hval0
  simp only [List.append_nil] at hW'
  have hlt0 : ∀ x ∈ p, x.block < W.heap.size := fun x hx => hW'.lt x (by simp [hx])
  refine (lawLeaves A0 n0 c0 f0 own0 W hn0 hs0 hT).mono fun e W' ⟨he, hb⟩ => ?_
  subst he
  exact ⟨_, rfl, post_of_below (pa := p) (pv := []) hW' (fun _ _ _ => trodAll_mk1 (shut_bool Tryd.underlying4 true))
    (fun sp hsp => trodAll_mk1 (stays Tryd.laidOut (by kernel_rfl) (of_decide_eq_true (by kernel_rfl)) h0 hb hlt0 (fun x hx => hsp x (by simp [hx])))) (fun _ _ => rfl) (by simp) hb
    (ok_one (by kernel_rfl) rfl (okWide_bool_mk Tryd.underlying4 true))⟩
theorem leavesOf_k0 : (Rows.fnExactLeavesOfRow.wf (OpenSpec.ofChange Rows.fnExactLeavesOfSpec)) = true := by kernel_rfl
theorem leavesOf_k1 : (laidOutB Tryd.pinned.checked.prog) = true := by kernel_rfl
theorem leavesOf_k2 : (mapsRowed Tryd.pinned.checked.prog) = true := by kernel_rfl
theorem leavesOf_k3 : (Tryd.f5.params.all (Tryd.pinned.checked.prog.readableRec ·)) = true := by kernel_rfl
theorem leavesOf_k4 : (namedTie Tryd.pinned.checked.prog Rows.fnExactLeavesOfRow.named Rows.fnExactLeavesOfSpec.vars) = true := by kernel_rfl
theorem leavesOf_k5 : ((Rows.fnExactLeavesOfRow.stops == [])) = true := by kernel_rfl
theorem leavesOf_k6 : ((Tryd.pinned.checked.prog.stops == [])) = true := by kernel_rfl
theorem leavesOf_k7 : ((Rows.fnExactLeavesOfRow.knobs == [])) = true := by kernel_rfl
theorem leavesOf_k8 : ((Tryd.pinned.checked.prog.stopKnobs == [])) = true := by kernel_rfl
theorem leavesOf_k9 : ((Rows.fnExactLeavesOfRow.inPlace == Tryd.pinned.checked.prog.inPlace 5)) = true := by kernel_rfl
theorem leavesOf_k10 : ((Rows.fnExactLeavesOfRow.unfollowed == Tryd.pinned.checked.prog.unfollowed 5)) = true := by kernel_rfl
theorem leavesOf_k11 : ((Rows.fnExactLeavesOfRow.recurses == Tryd.pinned.checked.prog.recurses 5)) = true := by kernel_rfl
theorem leavesOf_k12 : ((Rows.fnExactLeavesOfRow.named == Tryd.pinned.checked.prog.varsNamed 5)) = true := by kernel_rfl
theorem leavesOf_k13 : ((Rows.fnExactLeavesOfRow.maps == (Tryd.f5.params.toList ++ Rows.fnExactLeavesOfSpec.plain.varTypes Tryd.pinned.checked.prog).any (Tryd.pinned.checked.prog.mapsRec ·))) = true := by kernel_rfl
theorem leavesOf_k14 : ((Rows.fnExactLeavesOfRow.ifaces == (Tryd.f5.params.toList ++ Rows.fnExactLeavesOfSpec.plain.varTypes Tryd.pinned.checked.prog).any (Tryd.pinned.checked.prog.ifacesRec ·))) = true := by kernel_rfl
theorem leavesOf_k15 : ((Rows.fnExactLeavesOfRow.mapsOut == Tryd.pinned.checked.prog.mapsAmong Tryd.f5.resultTypes.toList)) = true := by kernel_rfl
theorem leavesOf_k16 : ((Rows.fnExactLeavesOfRow.loops == (Tryd.f5.params.toList ++ Rows.fnExactLeavesOfSpec.plain.varTypes Tryd.pinned.checked.prog).any (Tryd.pinned.checked.prog.loopsFrom ·))) = true := by kernel_rfl
theorem leavesOf_k17 : ((Rows.fnExactLeavesOfRow.wideKeys == (Tryd.f5.params.toList ++ Rows.fnExactLeavesOfSpec.plain.varTypes Tryd.pinned.checked.prog ++ Tryd.f5.resultTypes.toList).any (Tryd.pinned.checked.prog.wideKeysFrom ·))) = true := by kernel_rfl
theorem leavesOf_k18 : (Rows.fnExactLeavesOfSpec.vars.all (Tryd.pinned.checked.prog.varReadable ·)) = true := by kernel_rfl
theorem leavesOf_k19 : (Tryd.f5.resultTypes.all (fun t => Tryd.pinned.checked.prog.readableRec t && decide (t < Tryd.pinned.checked.prog.types.size))) = true := by kernel_rfl
theorem leavesOf_k20 : ((Rows.fnExactLeavesOfRow.ifacesOut == Tryd.f5.resultTypes.toList.any (Tryd.pinned.checked.prog.ifacesRec ·))) = true := by kernel_rfl
theorem leavesOf_k21 : ((Rows.fnExactLeavesOfRow.loopsOut == Tryd.f5.resultTypes.toList.any (Tryd.pinned.checked.prog.loopsFrom ·))) = true := by kernel_rfl
theorem leavesOf_k22 : ((Rows.fnExactLeavesOfRow.plainKeys == Tryd.pinned.checked.prog.plainKeys)) = true := by kernel_rfl
theorem leavesOf_k23 : (Rows.fnExactLeavesOfRow.shortTexts.isNone) = true := by kernel_rfl
theorem leavesOf_k24 : (Tryd.pinned.checked.prog.stopsHeard) = true := by kernel_rfl
theorem leavesOf_k25 : (Tryd.pinned.checked.prog.mayEnter) = true := x_enter
theorem leavesOf_k26 : ((Rows.fnExactLeavesOfRow.lifted == Tryd.pinned.checked.prog.liftsFinal)) = true := by rw [x_lifts]; rfl
theorem leavesOf_k27 : ((Tryd.pinned.checked.prog.make == some Rows.fnExactLeavesOfRow.make)) = true := by rw [x_make]; rfl
theorem leavesOf_k28 : ((Rows.fnExactLeavesOfRow.kinds == (if Rows.fnExactLeavesOfRow.domain.isEmpty then [] else Tryd.f5.params.toList.map fun t => match Tryd.pinned.checked.prog.underlying t with | some (.int k) => some k | _ => none))) = true := by kernel_rfl
theorem leavesOf_k29 : ((Rows.fnExactLeavesOfRow.pinned == Rows.fnExactLeavesOfRow.pinnedBy)) = true := by kernel_rfl
theorem leavesOf_k30 : ((Rows.fnExactLeavesOfRow.veiled == (Tryd.f5.params.toList ++ Rows.fnExactLeavesOfSpec.plain.varTypes Tryd.pinned.checked.prog ++ Tryd.f5.resultTypes.toList).any (Tryd.pinned.checked.prog.veiledRec ·))) = true := by kernel_rfl
theorem leavesOf_k31 : (Rows.fnExactLeavesOfRow.veiledFits Tryd.pinned.checked.prog Tryd.f5.params.toList (Tryd.f5.params.toList ++ Rows.fnExactLeavesOfSpec.plain.varTypes Tryd.pinned.checked.prog ++ Tryd.f5.resultTypes.toList)) = true := by kernel_rfl
theorem leavesOf_pkg : decide (Check.packageOf Tryd.f5.name = "main") = false := by kernel_rfl
theorem leavesOf_inst : Func.isInstance Tryd.pinned.checked.prog Tryd.f5 Rows.fnExactLeavesOfRow.origin Rows.fnExactLeavesOfRow.targs := of_decide_eq_true (by kernel_rfl)
theorem leavesOf_wrap : Func.isWrapper Tryd.pinned.checked.prog Tryd.f5 Rows.fnExactLeavesOfRow.wrapper Rows.fnExactLeavesOfRow.mainSum := by
  unfold Func.isWrapper; rw [if_neg (of_decide_eq_false leavesOf_pkg)]; exact ⟨rfl, rfl⟩
set_option maxRecDepth 100000 in
theorem leavesOf_closed : joinedFacts Tryd.pinned.checked.prog 5 Tryd.f5 Rows.fnExactLeavesOfSpec Rows.fnExactLeavesOfRow = true :=
  (and_of (and_of (and_of (and_of (and_of (and_of (and_of (and_of (and_of (and_of (and_of (and_of (and_of (and_of (and_of (and_of (and_of (and_of (and_of (and_of (and_of (and_of (and_of (and_of (and_of (and_of (and_of (and_of (and_of (and_of (and_of leavesOf_k0 leavesOf_k1) leavesOf_k2) leavesOf_k3) leavesOf_k4) leavesOf_k5) leavesOf_k6) leavesOf_k7) leavesOf_k8) leavesOf_k9) leavesOf_k10) leavesOf_k11) leavesOf_k12) leavesOf_k13) leavesOf_k14) leavesOf_k15) leavesOf_k16) leavesOf_k17) leavesOf_k18) leavesOf_k19) leavesOf_k20) leavesOf_k21) leavesOf_k22) leavesOf_k23) leavesOf_k24) leavesOf_k25) leavesOf_k26) leavesOf_k27) leavesOf_k28) leavesOf_k29) leavesOf_k30) leavesOf_k31)
theorem leavesOf_holds : Rows.FnExactLeavesOfSaid :=
  OpenClaim.holds_of_wide 5 Tryd.f5 rfl rfl rfl rfl rfl rfl rfl ⟨rfl, rfl, rfl, rfl, rfl⟩ rfl rfl rfl rfl rfl (by kernel_rfl) Tryd.func5 leavesOf_closed
    leavesOf_inst leavesOf_wrap (fun os started H enc _ => leavesOf_lifted os started H enc)
theorem leavesOf_w24 : Tryd.prog.wantsStandIn 24 = false := by kernel_rfl
theorem leavesOf_name : Tryd.prog.funcNamed "loop.example/g01146/laws.FnExactLeavesOf" = some 5 := by kernel_rfl
theorem leavesOf_card : Rows.FnExactLeavesOfCardSaid :=
  Claim7.holds_tied_plain_at .later [] [.data, .data] true (true, "d9f68eeca04446aeb59a10a6381a8f5e3305cfa5fea7ce90659e0ad35415a417") false
    leavesOf_holds (fun _ h => by cases h) (by kernel_rfl) (fun _ h => by cases h) fnExactLeavesOf_row_tie rfl ⟨rfl, rfl⟩ (by kernel_rfl) rfl
    (fun f fn hf hfn => by
      obtain rfl : f = 5 := Option.some.inj (leavesOf_name.symm.trans hf) |>.symm
      obtain rfl : fn = Tryd.f5 := (Option.some.inj (Tryd.func5.symm.trans hfn)).symm
      exact ⟨by kernel_rfl, fun j t ht => by
        rw [Tryd.params5] at ht
        have hmem : t ∈ ([24] : List TypeId) := by
          have := Array.mem_of_getElem? ht
          simpa using this
        simp only [List.mem_cons, List.not_mem_nil, or_false] at hmem
        rcases hmem with rfl
        · exact leavesOf_w24⟩)
    (by kernel_rfl)
end Go.Proofs.YtmcimfblhpflnaaDoor
