/-
TorusNullity answers as its model at every two numbers. The table of math/bits is tied to the program's text.
-/
import Derived.Test.YtdpoceijnbbmgaaDoorOT
import Derived.Test.YtdpoceijnbbmgaaDoorP
import Derived.Test.YtdpoceijnbbmgaaDoorZc
import Derived.Test.YtdpoceijnbbmgaaDoorQ2
import Derived.Test.YtdpoceijnbbmgaaDoorTie
import Derived.Test.YtdpoceijnbbmgaaDoorCards
import Derived.SevenTiedAt
namespace Go.Proofs.YtdpoceijnbbmgaaDoor
open Go.ChangeShapes Go.WideShapes Go.ChangeAt Go.WideElems Go.RowKit
set_option maxRecDepth 100000 in
theorem torusNullity_lifted (os : Os) (started : os.Started) (H : Type) (enc : TypeId × Value → H) :
    ReturnsInHanded {} Tryd.checked os 10 .any (fun w args => (Rows.fnExactTorusNullitySpec.pre enc Tryd.prog Tryd.f10 [] false w args ∧ laidMetH Tryd.prog laidL w) ∧ sizedMet enc Tryd.prog Tryd.f10 (OpenSpec.ofChange Rows.fnExactTorusNullitySpec) false w args)
      (Rows.fnExactTorusNullitySpec.post enc Tryd.prog Tryd.f10 false true false false) := by
  refine returnsInHanded_of_change_and (C := Tryd.checked) (X := fun w _ => laidMetH Tryd.prog laidL w) (fun _ _ _ hh h => h.of_heap hh) Tryd.own started (by kernel_rfl) Tryd.func10
    (ChangeSpec.witness_shaped (enc := enc) (C := Tryd.checked) (os := os) (X := fun w _ => laidMetH Tryd.prog laidL w) false (World.doorLaid Tryd.prog 400 os) #[.int .i64 0, .int .i64 0, .bool false] 8 rfl (World.shaped_of_RefB (by kernel_rfl) (by kernel_rfl)) (by kernel_rfl) (by kernel_rfl) (by kernel_rfl) (door_met os _)) ?_
  intro W base args ds gs before hval0 hW _ _ hL _
  have hval : ∀ (j : Nat) t v, Tryd.f10.params[j]? = some t → args[j]? = some v → Value.okWide Tryd.prog W .any base t v := hval0
  have hW' := hW
  obtain ⟨p, q, hA0, hV, rfl, hfz, hnd⟩ := hW
  have hA : DataW.TrodAll enc Tryd.prog W 0 (fun _ => true) true Tryd.f10.params.toList args.toList ds p := hA0
  rw [Tryd.params10] at hA hval
  obtain ⟨v0, v1, v2, d0, d1, d2, p0, p1, p2, rfl, rfl, rfl, h0, h1, h2⟩ := trodAll_three hA
  obtain ⟨rfl, rfl⟩ := trodVars_none hV
  obtain ⟨a0, rfl, rfl, rfl, wa0⟩ := open_int Tryd.underlying3 (hval 0 3 v0 rfl rfl) h0
  obtain ⟨a1, rfl, rfl, rfl, wa1⟩ := open_int Tryd.underlying3 (hval 1 3 v1 rfl rfl) h1
  obtain ⟨b2, rfl, rfl, rfl⟩ := open_bool Tryd.underlying4 (hval 2 4 v2 rfl rfl) h2
  have hT := tab_of_laid hL
  clear hA0 hval0
  simp only [List.append_nil] at hW'
  refine (lawTorusNullity a0 a1 b2 W hT).mono fun e W' ⟨he, hb⟩ => ?_
  subst he
  exact ⟨_, rfl, post_of_below (pa := []) (pv := []) hW' (fun _ _ _ => trodAll_mk1 (shut_bool Tryd.underlying4 true))
    (fun sp hsp => trodAll_mk3 (shut_int Tryd.underlying3 wa0) (shut_int Tryd.underlying3 wa1) (shut_bool Tryd.underlying4 b2)) (fun _ _ => rfl) (by simp) hb
    (ok_one (by kernel_rfl) rfl (okWide_bool_mk Tryd.underlying4 true))⟩
theorem torusNullity_k0 : (Rows.fnExactTorusNullityRow.wf (OpenSpec.ofChange Rows.fnExactTorusNullitySpec)) = true := by kernel_rfl
theorem torusNullity_k1 : (laidOutB Tryd.pinned.checked.prog) = true := by kernel_rfl
theorem torusNullity_k2 : (mapsRowed Tryd.pinned.checked.prog) = true := by kernel_rfl
theorem torusNullity_k3 : (Tryd.f10.params.all (Tryd.pinned.checked.prog.readableRec ·)) = true := by kernel_rfl
theorem torusNullity_k4 : (namedTie Tryd.pinned.checked.prog Rows.fnExactTorusNullityRow.named Rows.fnExactTorusNullitySpec.vars) = true := by kernel_rfl
theorem torusNullity_k5 : ((Rows.fnExactTorusNullityRow.stops == [])) = true := by kernel_rfl
theorem torusNullity_k6 : ((Tryd.pinned.checked.prog.stops == [])) = true := by kernel_rfl
theorem torusNullity_k7 : ((Rows.fnExactTorusNullityRow.knobs == [])) = true := by kernel_rfl
theorem torusNullity_k8 : ((Tryd.pinned.checked.prog.stopKnobs == [])) = true := by kernel_rfl
theorem torusNullity_k9 : ((Rows.fnExactTorusNullityRow.inPlace == Tryd.pinned.checked.prog.inPlace 10)) = true := by kernel_rfl
theorem torusNullity_k10 : ((Rows.fnExactTorusNullityRow.unfollowed == Tryd.pinned.checked.prog.unfollowed 10)) = true := by kernel_rfl
theorem torusNullity_k11 : ((Rows.fnExactTorusNullityRow.recurses == Tryd.pinned.checked.prog.recurses 10)) = true := by kernel_rfl
theorem torusNullity_k12 : ((Rows.fnExactTorusNullityRow.named == Tryd.pinned.checked.prog.varsNamed 10)) = true := by kernel_rfl
theorem torusNullity_k13 : ((Rows.fnExactTorusNullityRow.maps == (Tryd.f10.params.toList ++ Rows.fnExactTorusNullitySpec.plain.varTypes Tryd.pinned.checked.prog).any (Tryd.pinned.checked.prog.mapsRec ·))) = true := by kernel_rfl
theorem torusNullity_k14 : ((Rows.fnExactTorusNullityRow.ifaces == (Tryd.f10.params.toList ++ Rows.fnExactTorusNullitySpec.plain.varTypes Tryd.pinned.checked.prog).any (Tryd.pinned.checked.prog.ifacesRec ·))) = true := by kernel_rfl
theorem torusNullity_k15 : ((Rows.fnExactTorusNullityRow.mapsOut == Tryd.pinned.checked.prog.mapsAmong Tryd.f10.resultTypes.toList)) = true := by kernel_rfl
theorem torusNullity_k16 : ((Rows.fnExactTorusNullityRow.loops == (Tryd.f10.params.toList ++ Rows.fnExactTorusNullitySpec.plain.varTypes Tryd.pinned.checked.prog).any (Tryd.pinned.checked.prog.loopsFrom ·))) = true := by kernel_rfl
theorem torusNullity_k17 : ((Rows.fnExactTorusNullityRow.wideKeys == (Tryd.f10.params.toList ++ Rows.fnExactTorusNullitySpec.plain.varTypes Tryd.pinned.checked.prog ++ Tryd.f10.resultTypes.toList).any (Tryd.pinned.checked.prog.wideKeysFrom ·))) = true := by kernel_rfl
theorem torusNullity_k18 : (Rows.fnExactTorusNullitySpec.vars.all (Tryd.pinned.checked.prog.varReadable ·)) = true := by kernel_rfl
theorem torusNullity_k19 : (Tryd.f10.resultTypes.all (fun t => Tryd.pinned.checked.prog.readableRec t && decide (t < Tryd.pinned.checked.prog.types.size))) = true := by kernel_rfl
theorem torusNullity_k20 : ((Rows.fnExactTorusNullityRow.ifacesOut == Tryd.f10.resultTypes.toList.any (Tryd.pinned.checked.prog.ifacesRec ·))) = true := by kernel_rfl
theorem torusNullity_k21 : ((Rows.fnExactTorusNullityRow.loopsOut == Tryd.f10.resultTypes.toList.any (Tryd.pinned.checked.prog.loopsFrom ·))) = true := by kernel_rfl
theorem torusNullity_k22 : ((Rows.fnExactTorusNullityRow.plainKeys == Tryd.pinned.checked.prog.plainKeys)) = true := by kernel_rfl
theorem torusNullity_k23 : (Rows.fnExactTorusNullityRow.shortTexts.isNone) = true := by kernel_rfl
theorem torusNullity_k24 : (Tryd.pinned.checked.prog.stopsHeard) = true := by kernel_rfl
theorem torusNullity_k25 : (Tryd.pinned.checked.prog.mayEnter) = true := x_enter
theorem torusNullity_k26 : ((Rows.fnExactTorusNullityRow.lifted == Tryd.pinned.checked.prog.liftsFinal)) = true := by rw [x_lifts]; rfl
theorem torusNullity_k27 : ((Tryd.pinned.checked.prog.make == some Rows.fnExactTorusNullityRow.make)) = true := by rw [x_make]; rfl
theorem torusNullity_k28 : ((Rows.fnExactTorusNullityRow.kinds == (if Rows.fnExactTorusNullityRow.domain.isEmpty then [] else Tryd.f10.params.toList.map fun t => match Tryd.pinned.checked.prog.underlying t with | some (.int k) => some k | _ => none))) = true := by kernel_rfl
theorem torusNullity_k29 : ((Rows.fnExactTorusNullityRow.pinned == Rows.fnExactTorusNullityRow.pinnedBy)) = true := by kernel_rfl
theorem torusNullity_k30 : ((Rows.fnExactTorusNullityRow.veiled == (Tryd.f10.params.toList ++ Rows.fnExactTorusNullitySpec.plain.varTypes Tryd.pinned.checked.prog ++ Tryd.f10.resultTypes.toList).any (Tryd.pinned.checked.prog.veiledRec ·))) = true := by kernel_rfl
theorem torusNullity_k31 : (Rows.fnExactTorusNullityRow.veiledFits Tryd.pinned.checked.prog Tryd.f10.params.toList (Tryd.f10.params.toList ++ Rows.fnExactTorusNullitySpec.plain.varTypes Tryd.pinned.checked.prog ++ Tryd.f10.resultTypes.toList)) = true := by kernel_rfl
theorem torusNullity_pkg : decide (Check.packageOf Tryd.f10.name = "main") = false := by kernel_rfl
theorem torusNullity_inst : Func.isInstance Tryd.pinned.checked.prog Tryd.f10 Rows.fnExactTorusNullityRow.origin Rows.fnExactTorusNullityRow.targs := of_decide_eq_true (by kernel_rfl)
theorem torusNullity_wrap : Func.isWrapper Tryd.pinned.checked.prog Tryd.f10 Rows.fnExactTorusNullityRow.wrapper Rows.fnExactTorusNullityRow.mainSum := by
  unfold Func.isWrapper; rw [if_neg (of_decide_eq_false torusNullity_pkg)]; exact ⟨rfl, rfl⟩
set_option maxRecDepth 100000 in
theorem torusNullity_closed : joinedFacts Tryd.pinned.checked.prog 10 Tryd.f10 Rows.fnExactTorusNullitySpec Rows.fnExactTorusNullityRow = true :=
  (and_of (and_of (and_of (and_of (and_of (and_of (and_of (and_of (and_of (and_of (and_of (and_of (and_of (and_of (and_of (and_of (and_of (and_of (and_of (and_of (and_of (and_of (and_of (and_of (and_of (and_of (and_of (and_of (and_of (and_of (and_of torusNullity_k0 torusNullity_k1) torusNullity_k2) torusNullity_k3) torusNullity_k4) torusNullity_k5) torusNullity_k6) torusNullity_k7) torusNullity_k8) torusNullity_k9) torusNullity_k10) torusNullity_k11) torusNullity_k12) torusNullity_k13) torusNullity_k14) torusNullity_k15) torusNullity_k16) torusNullity_k17) torusNullity_k18) torusNullity_k19) torusNullity_k20) torusNullity_k21) torusNullity_k22) torusNullity_k23) torusNullity_k24) torusNullity_k25) torusNullity_k26) torusNullity_k27) torusNullity_k28) torusNullity_k29) torusNullity_k30) torusNullity_k31)
theorem torusNullity_holds : Rows.FnExactTorusNullitySaid :=
  OpenClaim.holds_of_wide 10 Tryd.f10 rfl rfl rfl rfl rfl rfl rfl ⟨rfl, rfl, rfl, rfl, rfl⟩ rfl rfl rfl rfl rfl (by kernel_rfl) Tryd.func10 torusNullity_closed
    torusNullity_inst torusNullity_wrap (fun os started H enc _ => torusNullity_lifted os started H enc)
theorem torusNullity_w3 : Tryd.prog.wantsStandIn 3 = false := by kernel_rfl
theorem torusNullity_w4 : Tryd.prog.wantsStandIn 4 = false := by kernel_rfl
theorem torusNullity_name : Tryd.prog.funcNamed "loop.example/g01146/laws.FnExactTorusNullity" = some 10 := by kernel_rfl
theorem torusNullity_card : Rows.FnExactTorusNullityCardSaid :=
  Claim7.holds_tied_plain_at .later [] [.data, .data] true (true, "5536c0046486681e01e5fab92ac8ee6f74011625c2a97f4c05a73b11d6c6542c") false
    torusNullity_holds (fun _ h => by cases h) (by kernel_rfl) (fun _ h => by cases h) fnExactTorusNullity_row_tie rfl ⟨rfl, rfl⟩ (by kernel_rfl) rfl
    (fun f fn hf hfn => by
      obtain rfl : f = 10 := Option.some.inj (torusNullity_name.symm.trans hf) |>.symm
      obtain rfl : fn = Tryd.f10 := (Option.some.inj (Tryd.func10.symm.trans hfn)).symm
      exact ⟨by kernel_rfl, fun j t ht => by
        rw [Tryd.params10] at ht
        have hmem : t ∈ ([3, 3, 4] : List TypeId) := by
          have := Array.mem_of_getElem? ht
          simpa using this
        simp only [List.mem_cons, List.not_mem_nil, or_false] at hmem
        rcases hmem with rfl | rfl | rfl
        · exact torusNullity_w3
        · exact torusNullity_w3
        · exact torusNullity_w4⟩)
    (by kernel_rfl)
end Go.Proofs.YtdpoceijnbbmgaaDoor
