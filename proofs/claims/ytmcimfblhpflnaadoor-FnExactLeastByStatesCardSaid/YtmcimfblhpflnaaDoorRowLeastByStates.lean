/-
LeastByStates answers as its model at every graph and every number, and the graph is as it was. The table of math/bits is tied to the program's text.
-/
import Derived.Test.YtmcimfblhpflnaaDoorUB
import Derived.Test.YtmcimfblhpflnaaDoorP
import Derived.Test.YtmcimfblhpflnaaDoorZc
import Derived.Test.YtmcimfblhpflnaaDoorQ2
import Derived.Test.YtmcimfblhpflnaaDoorTie
import Derived.Test.YtmcimfblhpflnaaDoorCards
import Derived.SevenTiedAt
namespace Go.Proofs.YtmcimfblhpflnaaDoor
open Go.ChangeShapes Go.WideShapes Go.ChangeAt Go.WideElems Go.RowKit
set_option maxRecDepth 100000 in
theorem leastByStates_lifted (os : Os) (started : os.Started) (H : Type) (enc : TypeId × Value → H) :
    ReturnsInHanded {} Tryd.checked os 11 .any (fun w args => (Rows.fnExactLeastByStatesSpec.pre enc Tryd.prog Tryd.f11 [] false w args ∧ laidMetH Tryd.prog laidL w) ∧ sizedMet enc Tryd.prog Tryd.f11 (OpenSpec.ofChange Rows.fnExactLeastByStatesSpec) false w args)
      (Rows.fnExactLeastByStatesSpec.post enc Tryd.prog Tryd.f11 false true false false) := by
  refine returnsInHanded_of_change_and (C := Tryd.checked) (X := fun w _ => laidMetH Tryd.prog laidL w) (fun _ _ _ hh h => h.of_heap hh) Tryd.own started (by kernel_rfl) Tryd.func11
    (ChangeSpec.witness_shaped (enc := enc) (C := Tryd.checked) (os := os) (X := fun w _ => laidMetH Tryd.prog laidL w) false (World.doorLaid Tryd.prog 400 os) #[.agg #[.slice none 0 0, .bool false], .int .i64 0] 8 rfl (World.shaped_of_RefB (by kernel_rfl) (by kernel_rfl)) (by kernel_rfl) (by kernel_rfl) (by kernel_rfl) (door_met os _)) ?_
  intro W base args ds gs before hval0 hW _ _ hL _
  have hval : ∀ (j : Nat) t v, Tryd.f11.params[j]? = some t → args[j]? = some v → Value.okWide Tryd.prog W .any base t v := hval0
  have hW' := hW
  obtain ⟨p, q, hA0, hV, rfl, hfz, hnd⟩ := hW
  have hA : DataW.TrodAll enc Tryd.prog W 0 (fun _ => true) true Tryd.f11.params.toList args.toList ds p := hA0
  rw [Tryd.params11] at hA hval
  obtain ⟨v0, v1, d0, d1, p0, p1, rfl, rfl, rfl, h0, h1⟩ := trodAll_two hA
  obtain ⟨rfl, rfl⟩ := trodVars_none hV
  obtain ⟨A0, n0, c0, f0, own0, rfl, hn0, hs0, hw0⟩ := open_graph (hval 0 24 v0 rfl rfl) h0
  obtain ⟨a1, rfl, rfl, rfl, wa1⟩ := open_int Tryd.underlying3 (hval 1 3 v1 rfl rfl) h1
  have hT := tab_of_laid hL
  clear hA0 hval0
  simp only [List.append_nil] at hW'
  have hlt0 : ∀ x ∈ p0, x.block < W.heap.size := fun x hx => hW'.lt x (by simp [hx])
  refine (lawLeastStates A0 n0 c0 f0 own0 a1 W hn0 hs0 hT).mono fun e W' ⟨he, hb⟩ => ?_
  subst he
  exact ⟨_, rfl, post_of_below (pa := p0 ++ ([])) (pv := []) hW' (fun _ _ _ => trodAll_mk1 (shut_bool Tryd.underlying4 true))
    (fun sp hsp => trodAll_mk2 (stays Tryd.laidOut (by kernel_rfl) (of_decide_eq_true (by kernel_rfl)) h0 hb hlt0 (fun x hx => hsp x (by simp [hx]))) (shut_int Tryd.underlying3 wa1)) (fun _ _ => rfl) (by simp) hb
    (ok_one (by kernel_rfl) rfl (okWide_bool_mk Tryd.underlying4 true))⟩
theorem leastByStates_k0 : (Rows.fnExactLeastByStatesRow.wf (OpenSpec.ofChange Rows.fnExactLeastByStatesSpec)) = true := by kernel_rfl
theorem leastByStates_k1 : (laidOutB Tryd.pinned.checked.prog) = true := by kernel_rfl
theorem leastByStates_k2 : (mapsRowed Tryd.pinned.checked.prog) = true := by kernel_rfl
theorem leastByStates_k3 : (Tryd.f11.params.all (Tryd.pinned.checked.prog.readableRec ·)) = true := by kernel_rfl
theorem leastByStates_k4 : (namedTie Tryd.pinned.checked.prog Rows.fnExactLeastByStatesRow.named Rows.fnExactLeastByStatesSpec.vars) = true := by kernel_rfl
theorem leastByStates_k5 : ((Rows.fnExactLeastByStatesRow.stops == [])) = true := by kernel_rfl
theorem leastByStates_k6 : ((Tryd.pinned.checked.prog.stops == [])) = true := by kernel_rfl
theorem leastByStates_k7 : ((Rows.fnExactLeastByStatesRow.knobs == [])) = true := by kernel_rfl
theorem leastByStates_k8 : ((Tryd.pinned.checked.prog.stopKnobs == [])) = true := by kernel_rfl
theorem leastByStates_k9 : ((Rows.fnExactLeastByStatesRow.inPlace == Tryd.pinned.checked.prog.inPlace 11)) = true := by kernel_rfl
theorem leastByStates_k10 : ((Rows.fnExactLeastByStatesRow.unfollowed == Tryd.pinned.checked.prog.unfollowed 11)) = true := by kernel_rfl
theorem leastByStates_k11 : ((Rows.fnExactLeastByStatesRow.recurses == Tryd.pinned.checked.prog.recurses 11)) = true := by kernel_rfl
theorem leastByStates_k12 : ((Rows.fnExactLeastByStatesRow.named == Tryd.pinned.checked.prog.varsNamed 11)) = true := by kernel_rfl
theorem leastByStates_k13 : ((Rows.fnExactLeastByStatesRow.maps == (Tryd.f11.params.toList ++ Rows.fnExactLeastByStatesSpec.plain.varTypes Tryd.pinned.checked.prog).any (Tryd.pinned.checked.prog.mapsRec ·))) = true := by kernel_rfl
theorem leastByStates_k14 : ((Rows.fnExactLeastByStatesRow.ifaces == (Tryd.f11.params.toList ++ Rows.fnExactLeastByStatesSpec.plain.varTypes Tryd.pinned.checked.prog).any (Tryd.pinned.checked.prog.ifacesRec ·))) = true := by kernel_rfl
theorem leastByStates_k15 : ((Rows.fnExactLeastByStatesRow.mapsOut == Tryd.pinned.checked.prog.mapsAmong Tryd.f11.resultTypes.toList)) = true := by kernel_rfl
theorem leastByStates_k16 : ((Rows.fnExactLeastByStatesRow.loops == (Tryd.f11.params.toList ++ Rows.fnExactLeastByStatesSpec.plain.varTypes Tryd.pinned.checked.prog).any (Tryd.pinned.checked.prog.loopsFrom ·))) = true := by kernel_rfl
theorem leastByStates_k17 : ((Rows.fnExactLeastByStatesRow.wideKeys == (Tryd.f11.params.toList ++ Rows.fnExactLeastByStatesSpec.plain.varTypes Tryd.pinned.checked.prog ++ Tryd.f11.resultTypes.toList).any (Tryd.pinned.checked.prog.wideKeysFrom ·))) = true := by kernel_rfl
theorem leastByStates_k18 : (Rows.fnExactLeastByStatesSpec.vars.all (Tryd.pinned.checked.prog.varReadable ·)) = true := by kernel_rfl
theorem leastByStates_k19 : (Tryd.f11.resultTypes.all (fun t => Tryd.pinned.checked.prog.readableRec t && decide (t < Tryd.pinned.checked.prog.types.size))) = true := by kernel_rfl
theorem leastByStates_k20 : ((Rows.fnExactLeastByStatesRow.ifacesOut == Tryd.f11.resultTypes.toList.any (Tryd.pinned.checked.prog.ifacesRec ·))) = true := by kernel_rfl
theorem leastByStates_k21 : ((Rows.fnExactLeastByStatesRow.loopsOut == Tryd.f11.resultTypes.toList.any (Tryd.pinned.checked.prog.loopsFrom ·))) = true := by kernel_rfl
theorem leastByStates_k22 : ((Rows.fnExactLeastByStatesRow.plainKeys == Tryd.pinned.checked.prog.plainKeys)) = true := by kernel_rfl
theorem leastByStates_k23 : (Rows.fnExactLeastByStatesRow.shortTexts.isNone) = true := by kernel_rfl
theorem leastByStates_k24 : (Tryd.pinned.checked.prog.stopsHeard) = true := by kernel_rfl
theorem leastByStates_k25 : (Tryd.pinned.checked.prog.mayEnter) = true := x_enter
theorem leastByStates_k26 : ((Rows.fnExactLeastByStatesRow.lifted == Tryd.pinned.checked.prog.liftsFinal)) = true := by rw [x_lifts]; rfl
theorem leastByStates_k27 : ((Tryd.pinned.checked.prog.make == some Rows.fnExactLeastByStatesRow.make)) = true := by rw [x_make]; rfl
theorem leastByStates_k28 : ((Rows.fnExactLeastByStatesRow.kinds == (if Rows.fnExactLeastByStatesRow.domain.isEmpty then [] else Tryd.f11.params.toList.map fun t => match Tryd.pinned.checked.prog.underlying t with | some (.int k) => some k | _ => none))) = true := by kernel_rfl
theorem leastByStates_k29 : ((Rows.fnExactLeastByStatesRow.pinned == Rows.fnExactLeastByStatesRow.pinnedBy)) = true := by kernel_rfl
theorem leastByStates_k30 : ((Rows.fnExactLeastByStatesRow.veiled == (Tryd.f11.params.toList ++ Rows.fnExactLeastByStatesSpec.plain.varTypes Tryd.pinned.checked.prog ++ Tryd.f11.resultTypes.toList).any (Tryd.pinned.checked.prog.veiledRec ·))) = true := by kernel_rfl
theorem leastByStates_k31 : (Rows.fnExactLeastByStatesRow.veiledFits Tryd.pinned.checked.prog Tryd.f11.params.toList (Tryd.f11.params.toList ++ Rows.fnExactLeastByStatesSpec.plain.varTypes Tryd.pinned.checked.prog ++ Tryd.f11.resultTypes.toList)) = true := by kernel_rfl
theorem leastByStates_pkg : decide (Check.packageOf Tryd.f11.name = "main") = false := by kernel_rfl
theorem leastByStates_inst : Func.isInstance Tryd.pinned.checked.prog Tryd.f11 Rows.fnExactLeastByStatesRow.origin Rows.fnExactLeastByStatesRow.targs := of_decide_eq_true (by kernel_rfl)
theorem leastByStates_wrap : Func.isWrapper Tryd.pinned.checked.prog Tryd.f11 Rows.fnExactLeastByStatesRow.wrapper Rows.fnExactLeastByStatesRow.mainSum := by
  unfold Func.isWrapper; rw [if_neg (of_decide_eq_false leastByStates_pkg)]; exact ⟨rfl, rfl⟩
set_option maxRecDepth 100000 in
theorem leastByStates_closed : joinedFacts Tryd.pinned.checked.prog 11 Tryd.f11 Rows.fnExactLeastByStatesSpec Rows.fnExactLeastByStatesRow = true :=
  (and_of (and_of (and_of (and_of (and_of (and_of (and_of (and_of (and_of (and_of (and_of (and_of (and_of (and_of (and_of (and_of (and_of (and_of (and_of (and_of (and_of (and_of (and_of (and_of (and_of (and_of (and_of (and_of (and_of (and_of (and_of leastByStates_k0 leastByStates_k1) leastByStates_k2) leastByStates_k3) leastByStates_k4) leastByStates_k5) leastByStates_k6) leastByStates_k7) leastByStates_k8) leastByStates_k9) leastByStates_k10) leastByStates_k11) leastByStates_k12) leastByStates_k13) leastByStates_k14) leastByStates_k15) leastByStates_k16) leastByStates_k17) leastByStates_k18) leastByStates_k19) leastByStates_k20) leastByStates_k21) leastByStates_k22) leastByStates_k23) leastByStates_k24) leastByStates_k25) leastByStates_k26) leastByStates_k27) leastByStates_k28) leastByStates_k29) leastByStates_k30) leastByStates_k31)
theorem leastByStates_holds : Rows.FnExactLeastByStatesSaid :=
  OpenClaim.holds_of_wide 11 Tryd.f11 rfl rfl rfl rfl rfl rfl rfl ⟨rfl, rfl, rfl, rfl, rfl⟩ rfl rfl rfl rfl rfl (by kernel_rfl) Tryd.func11 leastByStates_closed
    leastByStates_inst leastByStates_wrap (fun os started H enc _ => leastByStates_lifted os started H enc)
theorem leastByStates_w3 : Tryd.prog.wantsStandIn 3 = false := by kernel_rfl
theorem leastByStates_w24 : Tryd.prog.wantsStandIn 24 = false := by kernel_rfl
theorem leastByStates_name : Tryd.prog.funcNamed "loop.example/g01146/laws.FnExactLeastByStates" = some 11 := by kernel_rfl
theorem leastByStates_card : Rows.FnExactLeastByStatesCardSaid :=
  Claim7.holds_tied_plain_at .later [] [.data, .data] true (true, "d9f68eeca04446aeb59a10a6381a8f5e3305cfa5fea7ce90659e0ad35415a417") false
    leastByStates_holds (fun _ h => by cases h) (by kernel_rfl) (fun _ h => by cases h) fnExactLeastByStates_row_tie rfl ⟨rfl, rfl⟩ (by kernel_rfl) rfl
    (fun f fn hf hfn => by
      obtain rfl : f = 11 := Option.some.inj (leastByStates_name.symm.trans hf) |>.symm
      obtain rfl : fn = Tryd.f11 := (Option.some.inj (Tryd.func11.symm.trans hfn)).symm
      exact ⟨by kernel_rfl, fun j t ht => by
        rw [Tryd.params11] at ht
        have hmem : t ∈ ([24, 3] : List TypeId) := by
          have := Array.mem_of_getElem? ht
          simpa using this
        simp only [List.mem_cons, List.not_mem_nil, or_false] at hmem
        rcases hmem with rfl | rfl
        · exact leastByStates_w24
        · exact leastByStates_w3⟩)
    (by kernel_rfl)
end Go.Proofs.YtmcimfblhpflnaaDoor
