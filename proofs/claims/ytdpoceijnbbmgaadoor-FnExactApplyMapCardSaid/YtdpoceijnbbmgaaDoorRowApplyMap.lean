/-
ApplyMap answers as its model at every list and number, and the list is as it was. The table of math/bits is tied to the program's text.
-/
import Derived.Test.YtdpoceijnbbmgaaDoorOA
import Derived.Test.YtdpoceijnbbmgaaDoorP
import Derived.Test.YtdpoceijnbbmgaaDoorQ1
import Derived.Test.YtdpoceijnbbmgaaDoorQ2
import Derived.Test.YtdpoceijnbbmgaaDoorTie
import Derived.Test.YtdpoceijnbbmgaaDoorCards
import Derived.SevenTiedAt
namespace Go.Proofs.YtdpoceijnbbmgaaDoor
open Go.ChangeShapes Go.WideShapes Go.ChangeAt Go.WideElems Go.RowKit
set_option maxRecDepth 100000 in
theorem applyMap_lifted (os : Os) (started : os.Started) (H : Type) (enc : TypeId × Value → H) :
    ReturnsInHanded {} Tryd.checked os 4 .any (fun w args => (Rows.fnExactApplyMapSpec.pre enc Tryd.prog Tryd.f4 [] false w args ∧ laidMetH Tryd.prog laidL w) ∧ sizedMet enc Tryd.prog Tryd.f4 (OpenSpec.ofChange Rows.fnExactApplyMapSpec) false w args)
      (Rows.fnExactApplyMapSpec.post enc Tryd.prog Tryd.f4 false true false false) := by
  refine returnsInHanded_of_change_and (C := Tryd.checked) (X := fun w _ => laidMetH Tryd.prog laidL w) (fun _ _ _ hh h => h.of_heap hh) Tryd.own started (by kernel_rfl) Tryd.func4
    (ChangeSpec.witness_shaped (enc := enc) (C := Tryd.checked) (os := os) (X := fun w _ => laidMetH Tryd.prog laidL w) false (World.doorLaid Tryd.prog 400 os) #[.slice none 0 0, .int .i64 0] 8 rfl (World.shaped_of_RefB (by kernel_rfl) (by kernel_rfl)) (by kernel_rfl) (by kernel_rfl) (by kernel_rfl) (door_met os _)) ?_
  intro W base args ds gs before hval0 hW _ _ hL _
  have hval : ∀ (j : Nat) t v, Tryd.f4.params[j]? = some t → args[j]? = some v → Value.okWide Tryd.prog W .any base t v := hval0
  have hW' := hW
  obtain ⟨p, q, hA0, hV, rfl, hfz, hnd⟩ := hW
  have hA : DataW.TrodAll enc Tryd.prog W 0 (fun _ => true) true Tryd.f4.params.toList args.toList ds p := hA0
  rw [Tryd.params4] at hA hval
  obtain ⟨v0, v1, d0, d1, p0, p1, rfl, rfl, rfl, h0, h1⟩ := trodAll_two hA
  obtain ⟨rfl, rfl⟩ := trodVars_none hV
  obtain ⟨A0, n0, c0, f0, rfl, hn0, hs0, hw0⟩ := open_ints_arg (hval 0 22 v0 rfl rfl) h0
  obtain ⟨a1, rfl, rfl, rfl, wa1⟩ := open_int Tryd.underlying3 (hval 1 3 v1 rfl rfl) h1
  have hT := tab_of_laid hL
  clear hA0 hval0
  simp only [List.append_nil] at hW'
  have hlt0 : ∀ x ∈ p0, x.block < W.heap.size := fun x hx => hW'.lt x (by simp [hx])
  refine (lawApplyMap A0 n0 c0 f0 a1 W hn0 hs0 hT).mono fun e W' ⟨he, hb⟩ => ?_
  subst he
  exact ⟨_, rfl, post_of_below (pa := p0 ++ ([])) (pv := []) hW' (fun _ _ _ => trodAll_mk1 (shut_bool Tryd.underlying4 true))
    (fun sp hsp => trodAll_mk2 (stays Tryd.laidOut (by kernel_rfl) (of_decide_eq_true (by kernel_rfl)) h0 hb hlt0 (fun x hx => hsp x (by simp [hx]))) (shut_int Tryd.underlying3 wa1)) (fun _ _ => rfl) (by simp) hb
    (ok_one (by kernel_rfl) rfl (okWide_bool_mk Tryd.underlying4 true))⟩
theorem applyMap_k0 : (Rows.fnExactApplyMapRow.wf (OpenSpec.ofChange Rows.fnExactApplyMapSpec)) = true := by kernel_rfl
theorem applyMap_k1 : (laidOutB Tryd.pinned.checked.prog) = true := by kernel_rfl
theorem applyMap_k2 : (mapsRowed Tryd.pinned.checked.prog) = true := by kernel_rfl
theorem applyMap_k3 : (Tryd.f4.params.all (Tryd.pinned.checked.prog.readableRec ·)) = true := by kernel_rfl
theorem applyMap_k4 : (namedTie Tryd.pinned.checked.prog Rows.fnExactApplyMapRow.named Rows.fnExactApplyMapSpec.vars) = true := by kernel_rfl
theorem applyMap_k5 : ((Rows.fnExactApplyMapRow.stops == [])) = true := by kernel_rfl
theorem applyMap_k6 : ((Tryd.pinned.checked.prog.stops == [])) = true := by kernel_rfl
theorem applyMap_k7 : ((Rows.fnExactApplyMapRow.knobs == [])) = true := by kernel_rfl
theorem applyMap_k8 : ((Tryd.pinned.checked.prog.stopKnobs == [])) = true := by kernel_rfl
theorem applyMap_k9 : ((Rows.fnExactApplyMapRow.inPlace == Tryd.pinned.checked.prog.inPlace 4)) = true := by kernel_rfl
theorem applyMap_k10 : ((Rows.fnExactApplyMapRow.unfollowed == Tryd.pinned.checked.prog.unfollowed 4)) = true := by kernel_rfl
theorem applyMap_k11 : ((Rows.fnExactApplyMapRow.recurses == Tryd.pinned.checked.prog.recurses 4)) = true := by kernel_rfl
theorem applyMap_k12 : ((Rows.fnExactApplyMapRow.named == Tryd.pinned.checked.prog.varsNamed 4)) = true := by kernel_rfl
theorem applyMap_k13 : ((Rows.fnExactApplyMapRow.maps == (Tryd.f4.params.toList ++ Rows.fnExactApplyMapSpec.plain.varTypes Tryd.pinned.checked.prog).any (Tryd.pinned.checked.prog.mapsRec ·))) = true := by kernel_rfl
theorem applyMap_k14 : ((Rows.fnExactApplyMapRow.ifaces == (Tryd.f4.params.toList ++ Rows.fnExactApplyMapSpec.plain.varTypes Tryd.pinned.checked.prog).any (Tryd.pinned.checked.prog.ifacesRec ·))) = true := by kernel_rfl
theorem applyMap_k15 : ((Rows.fnExactApplyMapRow.mapsOut == Tryd.pinned.checked.prog.mapsAmong Tryd.f4.resultTypes.toList)) = true := by kernel_rfl
theorem applyMap_k16 : ((Rows.fnExactApplyMapRow.loops == (Tryd.f4.params.toList ++ Rows.fnExactApplyMapSpec.plain.varTypes Tryd.pinned.checked.prog).any (Tryd.pinned.checked.prog.loopsFrom ·))) = true := by kernel_rfl
theorem applyMap_k17 : ((Rows.fnExactApplyMapRow.wideKeys == (Tryd.f4.params.toList ++ Rows.fnExactApplyMapSpec.plain.varTypes Tryd.pinned.checked.prog ++ Tryd.f4.resultTypes.toList).any (Tryd.pinned.checked.prog.wideKeysFrom ·))) = true := by kernel_rfl
theorem applyMap_k18 : (Rows.fnExactApplyMapSpec.vars.all (Tryd.pinned.checked.prog.varReadable ·)) = true := by kernel_rfl
theorem applyMap_k19 : (Tryd.f4.resultTypes.all (fun t => Tryd.pinned.checked.prog.readableRec t && decide (t < Tryd.pinned.checked.prog.types.size))) = true := by kernel_rfl
theorem applyMap_k20 : ((Rows.fnExactApplyMapRow.ifacesOut == Tryd.f4.resultTypes.toList.any (Tryd.pinned.checked.prog.ifacesRec ·))) = true := by kernel_rfl
theorem applyMap_k21 : ((Rows.fnExactApplyMapRow.loopsOut == Tryd.f4.resultTypes.toList.any (Tryd.pinned.checked.prog.loopsFrom ·))) = true := by kernel_rfl
theorem applyMap_k22 : ((Rows.fnExactApplyMapRow.plainKeys == Tryd.pinned.checked.prog.plainKeys)) = true := by kernel_rfl
theorem applyMap_k23 : (Rows.fnExactApplyMapRow.shortTexts.isNone) = true := by kernel_rfl
theorem applyMap_k24 : (Tryd.pinned.checked.prog.stopsHeard) = true := by kernel_rfl
theorem applyMap_k25 : (Tryd.pinned.checked.prog.mayEnter) = true := x_enter
theorem applyMap_k26 : ((Rows.fnExactApplyMapRow.lifted == Tryd.pinned.checked.prog.liftsFinal)) = true := by rw [x_lifts]; rfl
theorem applyMap_k27 : ((Tryd.pinned.checked.prog.make == some Rows.fnExactApplyMapRow.make)) = true := by rw [x_make]; rfl
theorem applyMap_k28 : ((Rows.fnExactApplyMapRow.kinds == (if Rows.fnExactApplyMapRow.domain.isEmpty then [] else Tryd.f4.params.toList.map fun t => match Tryd.pinned.checked.prog.underlying t with | some (.int k) => some k | _ => none))) = true := by kernel_rfl
theorem applyMap_k29 : ((Rows.fnExactApplyMapRow.pinned == Rows.fnExactApplyMapRow.pinnedBy)) = true := by kernel_rfl
theorem applyMap_k30 : ((Rows.fnExactApplyMapRow.veiled == (Tryd.f4.params.toList ++ Rows.fnExactApplyMapSpec.plain.varTypes Tryd.pinned.checked.prog ++ Tryd.f4.resultTypes.toList).any (Tryd.pinned.checked.prog.veiledRec ·))) = true := by kernel_rfl
theorem applyMap_k31 : (Rows.fnExactApplyMapRow.veiledFits Tryd.pinned.checked.prog Tryd.f4.params.toList (Tryd.f4.params.toList ++ Rows.fnExactApplyMapSpec.plain.varTypes Tryd.pinned.checked.prog ++ Tryd.f4.resultTypes.toList)) = true := by kernel_rfl
theorem applyMap_pkg : decide (Check.packageOf Tryd.f4.name = "main") = false := by kernel_rfl
theorem applyMap_inst : Func.isInstance Tryd.pinned.checked.prog Tryd.f4 Rows.fnExactApplyMapRow.origin Rows.fnExactApplyMapRow.targs := of_decide_eq_true (by kernel_rfl)
theorem applyMap_wrap : Func.isWrapper Tryd.pinned.checked.prog Tryd.f4 Rows.fnExactApplyMapRow.wrapper Rows.fnExactApplyMapRow.mainSum := by
  unfold Func.isWrapper; rw [if_neg (of_decide_eq_false applyMap_pkg)]; exact ⟨rfl, rfl⟩
set_option maxRecDepth 100000 in
theorem applyMap_closed : joinedFacts Tryd.pinned.checked.prog 4 Tryd.f4 Rows.fnExactApplyMapSpec Rows.fnExactApplyMapRow = true :=
  (and_of (and_of (and_of (and_of (and_of (and_of (and_of (and_of (and_of (and_of (and_of (and_of (and_of (and_of (and_of (and_of (and_of (and_of (and_of (and_of (and_of (and_of (and_of (and_of (and_of (and_of (and_of (and_of (and_of (and_of (and_of applyMap_k0 applyMap_k1) applyMap_k2) applyMap_k3) applyMap_k4) applyMap_k5) applyMap_k6) applyMap_k7) applyMap_k8) applyMap_k9) applyMap_k10) applyMap_k11) applyMap_k12) applyMap_k13) applyMap_k14) applyMap_k15) applyMap_k16) applyMap_k17) applyMap_k18) applyMap_k19) applyMap_k20) applyMap_k21) applyMap_k22) applyMap_k23) applyMap_k24) applyMap_k25) applyMap_k26) applyMap_k27) applyMap_k28) applyMap_k29) applyMap_k30) applyMap_k31)
theorem applyMap_holds : Rows.FnExactApplyMapSaid :=
  OpenClaim.holds_of_wide 4 Tryd.f4 rfl rfl rfl rfl rfl rfl rfl ⟨rfl, rfl, rfl, rfl, rfl⟩ rfl rfl rfl rfl rfl (by kernel_rfl) Tryd.func4 applyMap_closed
    applyMap_inst applyMap_wrap (fun os started H enc _ => applyMap_lifted os started H enc)
theorem applyMap_w3 : Tryd.prog.wantsStandIn 3 = false := by kernel_rfl
theorem applyMap_w22 : Tryd.prog.wantsStandIn 22 = false := by kernel_rfl
theorem applyMap_name : Tryd.prog.funcNamed "loop.example/g01146/laws.FnExactApplyMap" = some 4 := by kernel_rfl
theorem applyMap_card : Rows.FnExactApplyMapCardSaid :=
  Claim7.holds_tied_plain_at .later [] [.data, .data] true (true, "5536c0046486681e01e5fab92ac8ee6f74011625c2a97f4c05a73b11d6c6542c") false
    applyMap_holds (fun _ h => by cases h) (by kernel_rfl) (fun _ h => by cases h) fnExactApplyMap_row_tie rfl ⟨rfl, rfl⟩ (by kernel_rfl) rfl
    (fun f fn hf hfn => by
      obtain rfl : f = 4 := Option.some.inj (applyMap_name.symm.trans hf) |>.symm
      obtain rfl : fn = Tryd.f4 := (Option.some.inj (Tryd.func4.symm.trans hfn)).symm
      exact ⟨by kernel_rfl, fun j t ht => by
        rw [Tryd.params4] at ht
        have hmem : t ∈ ([22, 3] : List TypeId) := by
          have := Array.mem_of_getElem? ht
          simpa using this
        simp only [List.mem_cons, List.not_mem_nil, or_false] at hmem
        rcases hmem with rfl | rfl
        · exact applyMap_w22
        · exact applyMap_w3⟩)
    (by kernel_rfl)
end Go.Proofs.YtdpoceijnbbmgaaDoor
