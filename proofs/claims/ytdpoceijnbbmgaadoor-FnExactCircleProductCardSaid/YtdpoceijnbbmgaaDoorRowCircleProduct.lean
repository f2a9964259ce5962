/-
CircleProduct answers as its model at every graph and number, and the graph is as it was. The table of math/bits is tied to the program's text.
-/
import Derived.Test.YtdpoceijnbbmgaaDoorOR
import Derived.Test.YtdpoceijnbbmgaaDoorP
import Derived.Test.YtdpoceijnbbmgaaDoorZc
import Derived.Test.YtdpoceijnbbmgaaDoorQ2
import Derived.Test.YtdpoceijnbbmgaaDoorTie
import Derived.Test.YtdpoceijnbbmgaaDoorCards
import Derived.SevenTiedAt
namespace Go.Proofs.YtdpoceijnbbmgaaDoor
open Go.ChangeShapes Go.WideShapes Go.ChangeAt Go.WideElems Go.RowKit
set_option maxRecDepth 100000 in
theorem circleProduct_lifted (os : Os) (started : os.Started) (H : Type) (enc : TypeId × Value → H) :
    ReturnsInHanded {} Tryd.checked os 9 .any (fun w args => (Rows.fnExactCircleProductSpec.pre enc Tryd.prog Tryd.f9 [] false w args ∧ laidMetH Tryd.prog laidL w) ∧ sizedMet enc Tryd.prog Tryd.f9 (OpenSpec.ofChange Rows.fnExactCircleProductSpec) false w args)
      (Rows.fnExactCircleProductSpec.post enc Tryd.prog Tryd.f9 false true false false) := by
  refine returnsInHanded_of_change_and (C := Tryd.checked) (X := fun w _ => laidMetH Tryd.prog laidL w) (fun _ _ _ hh h => h.of_heap hh) Tryd.own started (by kernel_rfl) Tryd.func9
    (ChangeSpec.witness_shaped (enc := enc) (C := Tryd.checked) (os := os) (X := fun w _ => laidMetH Tryd.prog laidL w) false (World.doorLaid Tryd.prog 400 os) #[.agg #[.slice none 0 0, .bool false], .int .i64 0] 8 rfl (World.shaped_of_RefB (by kernel_rfl) (by kernel_rfl)) (by kernel_rfl) (by kernel_rfl) (by kernel_rfl) (door_met os _)) ?_
  intro W base args ds gs before hval0 hW _ _ hL _
  have hval : ∀ (j : Nat) t v, Tryd.f9.params[j]? = some t → args[j]? = some v → Value.okWide Tryd.prog W .any base t v := hval0
  have hW' := hW
  obtain ⟨p, q, hA0, hV, rfl, hfz, hnd⟩ := hW
  have hA : DataW.TrodAll enc Tryd.prog W 0 (fun _ => true) true Tryd.f9.params.toList args.toList ds p := hA0
  rw [Tryd.params9] at hA hval
  obtain ⟨v0, v1, d0, d1, p0, p1, rfl, rfl, rfl, h0, h1⟩ := trodAll_two hA
  obtain ⟨rfl, rfl⟩ := trodVars_none hV
  obtain ⟨A0, n0, c0, f0, own0, rfl, hn0, hs0, hw0⟩ := open_graph (hval 0 24 v0 rfl rfl) h0
  obtain ⟨a1, rfl, rfl, rfl, wa1⟩ := open_int Tryd.underlying3 (hval 1 3 v1 rfl rfl) h1
  have hT := tab_of_laid hL
  clear hA0 hval0
  simp only [List.append_nil] at hW'
  have hlt0 : ∀ x ∈ p0, x.block < W.heap.size := fun x hx => hW'.lt x (by simp [hx])
  refine (lawCircleProduct A0 n0 c0 f0 own0 a1 W hn0 hs0 hT).mono fun e W' ⟨he, hb⟩ => ?_
  subst he
  exact ⟨_, rfl, post_of_below (pa := p0 ++ ([])) (pv := []) hW' (fun _ _ _ => trodAll_mk1 (shut_bool Tryd.underlying4 true))
    (fun sp hsp => trodAll_mk2 (stays Tryd.laidOut (by kernel_rfl) (of_decide_eq_true (by kernel_rfl)) h0 hb hlt0 (fun x hx => hsp x (by simp [hx]))) (shut_int Tryd.underlying3 wa1)) (fun _ _ => rfl) (by simp) hb
    (ok_one (by kernel_rfl) rfl (okWide_bool_mk Tryd.underlying4 true))⟩
theorem circleProduct_k0 : (Rows.fnExactCircleProductRow.wf (OpenSpec.ofChange Rows.fnExactCircleProductSpec)) = true := by kernel_rfl
theorem circleProduct_k1 : (laidOutB Tryd.pinned.checked.prog) = true := by kernel_rfl
theorem circleProduct_k2 : (mapsRowed Tryd.pinned.checked.prog) = true := by kernel_rfl
theorem circleProduct_k3 : (Tryd.f9.params.all (Tryd.pinned.checked.prog.readableRec ·)) = true := by kernel_rfl
theorem circleProduct_k4 : (namedTie Tryd.pinned.checked.prog Rows.fnExactCircleProductRow.named Rows.fnExactCircleProductSpec.vars) = true := by kernel_rfl
theorem circleProduct_k5 : ((Rows.fnExactCircleProductRow.stops == [])) = true := by kernel_rfl
theorem circleProduct_k6 : ((Tryd.pinned.checked.prog.stops == [])) = true := by kernel_rfl
theorem circleProduct_k7 : ((Rows.fnExactCircleProductRow.knobs == [])) = true := by kernel_rfl
theorem circleProduct_k8 : ((Tryd.pinned.checked.prog.stopKnobs == [])) = true := by kernel_rfl
theorem circleProduct_k9 : ((Rows.fnExactCircleProductRow.inPlace == Tryd.pinned.checked.prog.inPlace 9)) = true := by kernel_rfl
theorem circleProduct_k10 : ((Rows.fnExactCircleProductRow.unfollowed == Tryd.pinned.checked.prog.unfollowed 9)) = true := by kernel_rfl
theorem circleProduct_k11 : ((Rows.fnExactCircleProductRow.recurses == Tryd.pinned.checked.prog.recurses 9)) = true := by kernel_rfl
theorem circleProduct_k12 : ((Rows.fnExactCircleProductRow.named == Tryd.pinned.checked.prog.varsNamed 9)) = true := by kernel_rfl
theorem circleProduct_k13 : ((Rows.fnExactCircleProductRow.maps == (Tryd.f9.params.toList ++ Rows.fnExactCircleProductSpec.plain.varTypes Tryd.pinned.checked.prog).any (Tryd.pinned.checked.prog.mapsRec ·))) = true := by kernel_rfl
theorem circleProduct_k14 : ((Rows.fnExactCircleProductRow.ifaces == (Tryd.f9.params.toList ++ Rows.fnExactCircleProductSpec.plain.varTypes Tryd.pinned.checked.prog).any (Tryd.pinned.checked.prog.ifacesRec ·))) = true := by kernel_rfl
theorem circleProduct_k15 : ((Rows.fnExactCircleProductRow.mapsOut == Tryd.pinned.checked.prog.mapsAmong Tryd.f9.resultTypes.toList)) = true := by kernel_rfl
theorem circleProduct_k16 : ((Rows.fnExactCircleProductRow.loops == (Tryd.f9.params.toList ++ Rows.fnExactCircleProductSpec.plain.varTypes Tryd.pinned.checked.prog).any (Tryd.pinned.checked.prog.loopsFrom ·))) = true := by kernel_rfl
theorem circleProduct_k17 : ((Rows.fnExactCircleProductRow.wideKeys == (Tryd.f9.params.toList ++ Rows.fnExactCircleProductSpec.plain.varTypes Tryd.pinned.checked.prog ++ Tryd.f9.resultTypes.toList).any (Tryd.pinned.checked.prog.wideKeysFrom ·))) = true := by kernel_rfl
theorem circleProduct_k18 : (Rows.fnExactCircleProductSpec.vars.all (Tryd.pinned.checked.prog.varReadable ·)) = true := by kernel_rfl
theorem circleProduct_k19 : (Tryd.f9.resultTypes.all (fun t => Tryd.pinned.checked.prog.readableRec t && decide (t < Tryd.pinned.checked.prog.types.size))) = true := by kernel_rfl
theorem circleProduct_k20 : ((Rows.fnExactCircleProductRow.ifacesOut == Tryd.f9.resultTypes.toList.any (Tryd.pinned.checked.prog.ifacesRec ·))) = true := by kernel_rfl
theorem circleProduct_k21 : ((Rows.fnExactCircleProductRow.loopsOut == Tryd.f9.resultTypes.toList.any (Tryd.pinned.checked.prog.loopsFrom ·))) = true := by kernel_rfl
theorem circleProduct_k22 : ((Rows.fnExactCircleProductRow.plainKeys == Tryd.pinned.checked.prog.plainKeys)) = true := by kernel_rfl
theorem circleProduct_k23 : (Rows.fnExactCircleProductRow.shortTexts.isNone) = true := by kernel_rfl
theorem circleProduct_k24 : (Tryd.pinned.checked.prog.stopsHeard) = true := by kernel_rfl
theorem circleProduct_k25 : (Tryd.pinned.checked.prog.mayEnter) = true := x_enter
theorem circleProduct_k26 : ((Rows.fnExactCircleProductRow.lifted == Tryd.pinned.checked.prog.liftsFinal)) = true := by rw [x_lifts]; rfl
theorem circleProduct_k27 : ((Tryd.pinned.checked.prog.make == some Rows.fnExactCircleProductRow.make)) = true := by rw [x_make]; rfl
theorem circleProduct_k28 : ((Rows.fnExactCircleProductRow.kinds == (if Rows.fnExactCircleProductRow.domain.isEmpty then [] else Tryd.f9.params.toList.map fun t => match Tryd.pinned.checked.prog.underlying t with | some (.int k) => some k | _ => none))) = true := by kernel_rfl
theorem circleProduct_k29 : ((Rows.fnExactCircleProductRow.pinned == Rows.fnExactCircleProductRow.pinnedBy)) = true := by kernel_rfl
theorem circleProduct_k30 : ((Rows.fnExactCircleProductRow.veiled == (Tryd.f9.params.toList ++ Rows.fnExactCircleProductSpec.plain.varTypes Tryd.pinned.checked.prog ++ Tryd.f9.resultTypes.toList).any (Tryd.pinned.checked.prog.veiledRec ·))) = true := by kernel_rfl
theorem circleProduct_k31 : (Rows.fnExactCircleProductRow.veiledFits Tryd.pinned.checked.prog Tryd.f9.params.toList (Tryd.f9.params.toList ++ Rows.fnExactCircleProductSpec.plain.varTypes Tryd.pinned.checked.prog ++ Tryd.f9.resultTypes.toList)) = true := by kernel_rfl
theorem circleProduct_pkg : decide (Check.packageOf Tryd.f9.name = "main") = false := by kernel_rfl
theorem circleProduct_inst : Func.isInstance Tryd.pinned.checked.prog Tryd.f9 Rows.fnExactCircleProductRow.origin Rows.fnExactCircleProductRow.targs := of_decide_eq_true (by kernel_rfl)
theorem circleProduct_wrap : Func.isWrapper Tryd.pinned.checked.prog Tryd.f9 Rows.fnExactCircleProductRow.wrapper Rows.fnExactCircleProductRow.mainSum := by
  unfold Func.isWrapper; rw [if_neg (of_decide_eq_false circleProduct_pkg)]; exact ⟨rfl, rfl⟩
set_option maxRecDepth 100000 in
theorem circleProduct_closed : joinedFacts Tryd.pinned.checked.prog 9 Tryd.f9 Rows.fnExactCircleProductSpec Rows.fnExactCircleProductRow = true :=
  (and_of (and_of (and_of (and_of (and_of (and_of (and_of (and_of (and_of (and_of (and_of (and_of (and_of (and_of (and_of (and_of (and_of (and_of (and_of (and_of (and_of (and_of (and_of (and_of (and_of (and_of (and_of (and_of (and_of (and_of (and_of circleProduct_k0 circleProduct_k1) circleProduct_k2) circleProduct_k3) circleProduct_k4) circleProduct_k5) circleProduct_k6) circleProduct_k7) circleProduct_k8) circleProduct_k9) circleProduct_k10) circleProduct_k11) circleProduct_k12) circleProduct_k13) circleProduct_k14) circleProduct_k15) circleProduct_k16) circleProduct_k17) circleProduct_k18) circleProduct_k19) circleProduct_k20) circleProduct_k21) circleProduct_k22) circleProduct_k23) circleProduct_k24) circleProduct_k25) circleProduct_k26) circleProduct_k27) circleProduct_k28) circleProduct_k29) circleProduct_k30) circleProduct_k31)
theorem circleProduct_holds : Rows.FnExactCircleProductSaid :=
  OpenClaim.holds_of_wide 9 Tryd.f9 rfl rfl rfl rfl rfl rfl rfl ⟨rfl, rfl, rfl, rfl, rfl⟩ rfl rfl rfl rfl rfl (by kernel_rfl) Tryd.func9 circleProduct_closed
    circleProduct_inst circleProduct_wrap (fun os started H enc _ => circleProduct_lifted os started H enc)
theorem circleProduct_w3 : Tryd.prog.wantsStandIn 3 = false := by kernel_rfl
theorem circleProduct_w24 : Tryd.prog.wantsStandIn 24 = false := by kernel_rfl
theorem circleProduct_name : Tryd.prog.funcNamed "loop.example/g01146/laws.FnExactCircleProduct" = some 9 := by kernel_rfl
theorem circleProduct_card : Rows.FnExactCircleProductCardSaid :=
  Claim7.holds_tied_plain_at .later [] [.data, .data] true (true, "5536c0046486681e01e5fab92ac8ee6f74011625c2a97f4c05a73b11d6c6542c") false
    circleProduct_holds (fun _ h => by cases h) (by kernel_rfl) (fun _ h => by cases h) fnExactCircleProduct_row_tie rfl ⟨rfl, rfl⟩ (by kernel_rfl) rfl
    (fun f fn hf hfn => by
      obtain rfl : f = 9 := Option.some.inj (circleProduct_name.symm.trans hf) |>.symm
      obtain rfl : fn = Tryd.f9 := (Option.some.inj (Tryd.func9.symm.trans hfn)).symm
      exact ⟨by kernel_rfl, fun j t ht => by
        rw [Tryd.params9] at ht
        have hmem : t ∈ ([24, 3] : List TypeId) := by
          have := Array.mem_of_getElem? ht
          simpa using this
        simp only [List.mem_cons, List.not_mem_nil, or_false] at hmem
        rcases hmem with rfl | rfl
        · exact circleProduct_w24
        · exact circleProduct_w3⟩)
    (by kernel_rfl)
end Go.Proofs.YtdpoceijnbbmgaaDoor
