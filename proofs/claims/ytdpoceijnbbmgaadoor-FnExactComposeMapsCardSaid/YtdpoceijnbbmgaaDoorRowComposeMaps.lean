/-
ComposeMaps answers as its model at every two lists, its answers share no memory, and both lists are as they were. The table of math/bits is tied to the program's text.
-/
import Derived.Test.YtdpoceijnbbmgaaDoorOI
import Derived.Test.YtdpoceijnbbmgaaDoorP
import Derived.Test.YtdpoceijnbbmgaaDoorQ1
import Derived.Test.YtdpoceijnbbmgaaDoorQ2
import Derived.Test.YtdpoceijnbbmgaaDoorTie
import Derived.Test.YtdpoceijnbbmgaaDoorCards
import Derived.SevenTiedAt
namespace Go.Proofs.YtdpoceijnbbmgaaDoor
open Go.ChangeShapes Go.WideShapes Go.ChangeAt Go.WideElems Go.RowKit
set_option maxRecDepth 100000 in
theorem composeMaps_lifted (os : Os) (started : os.Started) (H : Type) (enc : TypeId × Value → H) :
    ReturnsInHanded {} Tryd.checked os 5 .any (fun w args => (Rows.fnExactComposeMapsSpec.pre enc Tryd.prog Tryd.f5 [] false w args ∧ laidMetH Tryd.prog laidL w) ∧ sizedMet enc Tryd.prog Tryd.f5 (OpenSpec.ofChange Rows.fnExactComposeMapsSpec) false w args)
      (Rows.fnExactComposeMapsSpec.post enc Tryd.prog Tryd.f5 false true false false) := by
  refine returnsInHanded_of_change_and (C := Tryd.checked) (X := fun w _ => laidMetH Tryd.prog laidL w) (fun _ _ _ hh h => h.of_heap hh) Tryd.own started (by kernel_rfl) Tryd.func5
    (ChangeSpec.witness_shaped (enc := enc) (C := Tryd.checked) (os := os) (X := fun w _ => laidMetH Tryd.prog laidL w) false (World.doorLaid Tryd.prog 400 os) #[.slice none 0 0, .slice none 0 0] 8 rfl (World.shaped_of_RefB (by kernel_rfl) (by kernel_rfl)) (by kernel_rfl) (by kernel_rfl) (by kernel_rfl) (door_met os _)) ?_
  intro W base args ds gs before hval0 hW _ _ hL _
  have hval : ∀ (j : Nat) t v, Tryd.f5.params[j]? = some t → args[j]? = some v → Value.okWide Tryd.prog W .any base t v := hval0
  have hW' := hW
  obtain ⟨p, q, hA0, hV, rfl, hfz, hnd⟩ := hW
  have hA : DataW.TrodAll enc Tryd.prog W 0 (fun _ => true) true Tryd.f5.params.toList args.toList ds p := hA0
  rw [Tryd.params5] at hA hval
  obtain ⟨v0, v1, d0, d1, p0, p1, rfl, rfl, rfl, h0, h1⟩ := trodAll_two hA
  obtain ⟨rfl, rfl⟩ := trodVars_none hV
  obtain ⟨A0, n0, c0, f0, rfl, hn0, hs0, hw0⟩ := open_ints_arg (hval 0 22 v0 rfl rfl) h0
  obtain ⟨A1, n1, c1, f1, rfl, hn1, hs1, hw1⟩ := open_ints_arg (hval 1 22 v1 rfl rfl) h1
  have hT := tab_of_laid hL
  clear hA0 hval0
  simp only [List.append_nil] at hW'
  have hlt0 : ∀ x ∈ p0, x.block < W.heap.size := fun x hx => hW'.lt x (by simp [hx])
  have hlt1 : ∀ x ∈ p1, x.block < W.heap.size := fun x hx => hW'.lt x (by simp [hx])
  refine (lawComposeMaps A0 n0 c0 f0 A1 n1 c1 f1 W hn0 hn1 hs0 hs1 hT).mono fun e W' ⟨he, hb⟩ => ?_
  subst he
  exact ⟨_, rfl, post_of_below (pa := p0 ++ (p1)) (pv := []) hW' (fun _ _ _ => trodAll_mk1 (shut_bool Tryd.underlying4 true))
    (fun sp hsp => trodAll_mk2 (stays Tryd.laidOut (by kernel_rfl) (of_decide_eq_true (by kernel_rfl)) h0 hb hlt0 (fun x hx => hsp x (by simp [hx]))) (stays Tryd.laidOut (by kernel_rfl) (of_decide_eq_true (by kernel_rfl)) h1 hb hlt1 (fun x hx => hsp x (by simp [hx])))) (fun _ _ => rfl) (by simp) hb
    (ok_one (by kernel_rfl) rfl (okWide_bool_mk Tryd.underlying4 true))⟩
theorem composeMaps_k0 : (Rows.fnExactComposeMapsRow.wf (OpenSpec.ofChange Rows.fnExactComposeMapsSpec)) = true := by kernel_rfl
theorem composeMaps_k1 : (laidOutB Tryd.pinned.checked.prog) = true := by kernel_rfl
theorem composeMaps_k2 : (mapsRowed Tryd.pinned.checked.prog) = true := by kernel_rfl
theorem composeMaps_k3 : (Tryd.f5.params.all (Tryd.pinned.checked.prog.readableRec ·)) = true := by kernel_rfl
theorem composeMaps_k4 : (namedTie Tryd.pinned.checked.prog Rows.fnExactComposeMapsRow.named Rows.fnExactComposeMapsSpec.vars) = true := by kernel_rfl
theorem composeMaps_k5 : ((Rows.fnExactComposeMapsRow.stops == [])) = true := by kernel_rfl
theorem composeMaps_k6 : ((Tryd.pinned.checked.prog.stops == [])) = true := by kernel_rfl
theorem composeMaps_k7 : ((Rows.fnExactComposeMapsRow.knobs == [])) = true := by kernel_rfl
theorem composeMaps_k8 : ((Tryd.pinned.checked.prog.stopKnobs == [])) = true := by kernel_rfl
theorem composeMaps_k9 : ((Rows.fnExactComposeMapsRow.inPlace == Tryd.pinned.checked.prog.inPlace 5)) = true := by kernel_rfl
theorem composeMaps_k10 : ((Rows.fnExactComposeMapsRow.unfollowed == Tryd.pinned.checked.prog.unfollowed 5)) = true := by kernel_rfl
theorem composeMaps_k11 : ((Rows.fnExactComposeMapsRow.recurses == Tryd.pinned.checked.prog.recurses 5)) = true := by kernel_rfl
theorem composeMaps_k12 : ((Rows.fnExactComposeMapsRow.named == Tryd.pinned.checked.prog.varsNamed 5)) = true := by kernel_rfl
theorem composeMaps_k13 : ((Rows.fnExactComposeMapsRow.maps == (Tryd.f5.params.toList ++ Rows.fnExactComposeMapsSpec.plain.varTypes Tryd.pinned.checked.prog).any (Tryd.pinned.checked.prog.mapsRec ·))) = true := by kernel_rfl
theorem composeMaps_k14 : ((Rows.fnExactComposeMapsRow.ifaces == (Tryd.f5.params.toList ++ Rows.fnExactComposeMapsSpec.plain.varTypes Tryd.pinned.checked.prog).any (Tryd.pinned.checked.prog.ifacesRec ·))) = true := by kernel_rfl
theorem composeMaps_k15 : ((Rows.fnExactComposeMapsRow.mapsOut == Tryd.pinned.checked.prog.mapsAmong Tryd.f5.resultTypes.toList)) = true := by kernel_rfl
theorem composeMaps_k16 : ((Rows.fnExactComposeMapsRow.loops == (Tryd.f5.params.toList ++ Rows.fnExactComposeMapsSpec.plain.varTypes Tryd.pinned.checked.prog).any (Tryd.pinned.checked.prog.loopsFrom ·))) = true := by kernel_rfl
theorem composeMaps_k17 : ((Rows.fnExactComposeMapsRow.wideKeys == (Tryd.f5.params.toList ++ Rows.fnExactComposeMapsSpec.plain.varTypes Tryd.pinned.checked.prog ++ Tryd.f5.resultTypes.toList).any (Tryd.pinned.checked.prog.wideKeysFrom ·))) = true := by kernel_rfl
theorem composeMaps_k18 : (Rows.fnExactComposeMapsSpec.vars.all (Tryd.pinned.checked.prog.varReadable ·)) = true := by kernel_rfl
theorem composeMaps_k19 : (Tryd.f5.resultTypes.all (fun t => Tryd.pinned.checked.prog.readableRec t && decide (t < Tryd.pinned.checked.prog.types.size))) = true := by kernel_rfl
theorem composeMaps_k20 : ((Rows.fnExactComposeMapsRow.ifacesOut == Tryd.f5.resultTypes.toList.any (Tryd.pinned.checked.prog.ifacesRec ·))) = true := by kernel_rfl
theorem composeMaps_k21 : ((Rows.fnExactComposeMapsRow.loopsOut == Tryd.f5.resultTypes.toList.any (Tryd.pinned.checked.prog.loopsFrom ·))) = true := by kernel_rfl
theorem composeMaps_k22 : ((Rows.fnExactComposeMapsRow.plainKeys == Tryd.pinned.checked.prog.plainKeys)) = true := by kernel_rfl
theorem composeMaps_k23 : (Rows.fnExactComposeMapsRow.shortTexts.isNone) = true := by kernel_rfl
theorem composeMaps_k24 : (Tryd.pinned.checked.prog.stopsHeard) = true := by kernel_rfl
theorem composeMaps_k25 : (Tryd.pinned.checked.prog.mayEnter) = true := x_enter
theorem composeMaps_k26 : ((Rows.fnExactComposeMapsRow.lifted == Tryd.pinned.checked.prog.liftsFinal)) = true := by rw [x_lifts]; rfl
theorem composeMaps_k27 : ((Tryd.pinned.checked.prog.make == some Rows.fnExactComposeMapsRow.make)) = true := by rw [x_make]; rfl
theorem composeMaps_k28 : ((Rows.fnExactComposeMapsRow.kinds == (if Rows.fnExactComposeMapsRow.domain.isEmpty then [] else Tryd.f5.params.toList.map fun t => match Tryd.pinned.checked.prog.underlying t with | some (.int k) => some k | _ => none))) = true := by kernel_rfl
theorem composeMaps_k29 : ((Rows.fnExactComposeMapsRow.pinned == Rows.fnExactComposeMapsRow.pinnedBy)) = true := by kernel_rfl
theorem composeMaps_k30 : ((Rows.fnExactComposeMapsRow.veiled == (Tryd.f5.params.toList ++ Rows.fnExactComposeMapsSpec.plain.varTypes Tryd.pinned.checked.prog ++ Tryd.f5.resultTypes.toList).any (Tryd.pinned.checked.prog.veiledRec ·))) = true := by kernel_rfl
theorem composeMaps_k31 : (Rows.fnExactComposeMapsRow.veiledFits Tryd.pinned.checked.prog Tryd.f5.params.toList (Tryd.f5.params.toList ++ Rows.fnExactComposeMapsSpec.plain.varTypes Tryd.pinned.checked.prog ++ Tryd.f5.resultTypes.toList)) = true := by kernel_rfl
theorem composeMaps_pkg : decide (Check.packageOf Tryd.f5.name = "main") = false := by kernel_rfl
theorem composeMaps_inst : Func.isInstance Tryd.pinned.checked.prog Tryd.f5 Rows.fnExactComposeMapsRow.origin Rows.fnExactComposeMapsRow.targs := of_decide_eq_true (by kernel_rfl)
theorem composeMaps_wrap : Func.isWrapper Tryd.pinned.checked.prog Tryd.f5 Rows.fnExactComposeMapsRow.wrapper Rows.fnExactComposeMapsRow.mainSum := by
  unfold Func.isWrapper; rw [if_neg (of_decide_eq_false composeMaps_pkg)]; exact ⟨rfl, rfl⟩
set_option maxRecDepth 100000 in
theorem composeMaps_closed : joinedFacts Tryd.pinned.checked.prog 5 Tryd.f5 Rows.fnExactComposeMapsSpec Rows.fnExactComposeMapsRow = true :=
  (and_of (and_of (and_of (and_of (and_of (and_of (and_of (and_of (and_of (and_of (and_of (and_of (and_of (and_of (and_of (and_of (and_of (and_of (and_of (and_of (and_of (and_of (and_of (and_of (and_of (and_of (and_of (and_of (and_of (and_of (and_of composeMaps_k0 composeMaps_k1) composeMaps_k2) composeMaps_k3) composeMaps_k4) composeMaps_k5) composeMaps_k6) composeMaps_k7) composeMaps_k8) composeMaps_k9) composeMaps_k10) composeMaps_k11) composeMaps_k12) composeMaps_k13) composeMaps_k14) composeMaps_k15) composeMaps_k16) composeMaps_k17) composeMaps_k18) composeMaps_k19) composeMaps_k20) composeMaps_k21) composeMaps_k22) composeMaps_k23) composeMaps_k24) composeMaps_k25) composeMaps_k26) composeMaps_k27) composeMaps_k28) composeMaps_k29) composeMaps_k30) composeMaps_k31)
theorem composeMaps_holds : Rows.FnExactComposeMapsSaid :=
  OpenClaim.holds_of_wide 5 Tryd.f5 rfl rfl rfl rfl rfl rfl rfl ⟨rfl, rfl, rfl, rfl, rfl⟩ rfl rfl rfl rfl rfl (by kernel_rfl) Tryd.func5 composeMaps_closed
    composeMaps_inst composeMaps_wrap (fun os started H enc _ => composeMaps_lifted os started H enc)
theorem composeMaps_w22 : Tryd.prog.wantsStandIn 22 = false := by kernel_rfl
theorem composeMaps_name : Tryd.prog.funcNamed "loop.example/g01146/laws.FnExactComposeMaps" = some 5 := by kernel_rfl
theorem composeMaps_card : Rows.FnExactComposeMapsCardSaid :=
  Claim7.holds_tied_plain_at .later [] [.data, .data] true (true, "5536c0046486681e01e5fab92ac8ee6f74011625c2a97f4c05a73b11d6c6542c") false
    composeMaps_holds (fun _ h => by cases h) (by kernel_rfl) (fun _ h => by cases h) fnExactComposeMaps_row_tie rfl ⟨rfl, rfl⟩ (by kernel_rfl) rfl
    (fun f fn hf hfn => by
      obtain rfl : f = 5 := Option.some.inj (composeMaps_name.symm.trans hf) |>.symm
      obtain rfl : fn = Tryd.f5 := (Option.some.inj (Tryd.func5.symm.trans hfn)).symm
      exact ⟨by kernel_rfl, fun j t ht => by
        rw [Tryd.params5] at ht
        have hmem : t ∈ ([22, 22] : List TypeId) := by
          have := Array.mem_of_getElem? ht
          simpa using this
        simp only [List.mem_cons, List.not_mem_nil, or_false] at hmem
        rcases hmem with rfl | rfl
        · exact composeMaps_w22
        · exact composeMaps_w22⟩)
    (by kernel_rfl)
end Go.Proofs.YtdpoceijnbbmgaaDoor
