/-
ProductGraph answers as its model at every two graphs, its answers share no memory, and both graphs are as they were. The table of math/bits is tied to the program's text.
-/
import Derived.Test.YtdpoceijnbbmgaaDoorPZ
import Derived.Test.YtdpoceijnbbmgaaDoorP
import Derived.Test.YtdpoceijnbbmgaaDoorQ1
import Derived.Test.YtdpoceijnbbmgaaDoorQ2
import Derived.Test.YtdpoceijnbbmgaaDoorTie
import Derived.Test.YtdpoceijnbbmgaaDoorCards
import Derived.SevenTiedAt
namespace Go.Proofs.YtdpoceijnbbmgaaDoor
open Go.ChangeShapes Go.WideShapes Go.ChangeAt Go.WideElems Go.RowKit
set_option maxRecDepth 100000 in
theorem productGraph_lifted (os : Os) (started : os.Started) (H : Type) (enc : TypeId × Value → H) :
    ReturnsInHanded {} Tryd.checked os 3 .any (fun w args => (Rows.fnExactProductGraphSpec.pre enc Tryd.prog Tryd.f3 [] false w args ∧ laidMetH Tryd.prog laidL w) ∧ sizedMet enc Tryd.prog Tryd.f3 (OpenSpec.ofChange Rows.fnExactProductGraphSpec) false w args)
      (Rows.fnExactProductGraphSpec.post enc Tryd.prog Tryd.f3 false true false false) := by
  refine returnsInHanded_of_change_and (C := Tryd.checked) (X := fun w _ => laidMetH Tryd.prog laidL w) (fun _ _ _ hh h => h.of_heap hh) Tryd.own started (by kernel_rfl) Tryd.func3
    (ChangeSpec.witness_shaped (enc := enc) (C := Tryd.checked) (os := os) (X := fun w _ => laidMetH Tryd.prog laidL w) false (World.doorLaid Tryd.prog 400 os) #[.agg #[.slice none 0 0, .bool false], .agg #[.slice none 0 0, .bool false]] 8 rfl (World.shaped_of_RefB (by kernel_rfl) (by kernel_rfl)) (by kernel_rfl) (by kernel_rfl) (by kernel_rfl) (door_met os _)) ?_
  intro W base args ds gs before hval0 hW _ _ hL _
  have hval : ∀ (j : Nat) t v, Tryd.f3.params[j]? = some t → args[j]? = some v → Value.okWide Tryd.prog W .any base t v := hval0
  have hW' := hW
  obtain ⟨p, q, hA0, hV, rfl, hfz, hnd⟩ := hW
  have hA : DataW.TrodAll enc Tryd.prog W 0 (fun _ => true) true Tryd.f3.params.toList args.toList ds p := hA0
  rw [Tryd.params3] at hA hval
  obtain ⟨v0, v1, d0, d1, p0, p1, rfl, rfl, rfl, h0, h1⟩ := trodAll_two hA
  obtain ⟨rfl, rfl⟩ := trodVars_none hV
  obtain ⟨A0, n0, c0, f0, own0, rfl, hn0, hs0, hw0⟩ := open_graph (hval 0 24 v0 rfl rfl) h0
  obtain ⟨A1, n1, c1, f1, own1, rfl, hn1, hs1, hw1⟩ := open_graph (hval 1 24 v1 rfl rfl) h1
  have hT := tab_of_laid hL
  clear hA0 hval0
  simp only [List.append_nil] at hW'
  have hlt0 : ∀ x ∈ p0, x.block < W.heap.size := fun x hx => hW'.lt x (by simp [hx])
  have hlt1 : ∀ x ∈ p1, x.block < W.heap.size := fun x hx => hW'.lt x (by simp [hx])
  refine (lawProd A0 n0 c0 f0 own0 A1 n1 c1 f1 own1 W hn0 hn1 hs0 hs1 hT).mono fun e W' ⟨he, hb⟩ => ?_
  subst he
  exact ⟨_, rfl, post_of_below (pa := p0 ++ (p1)) (pv := []) hW' (fun _ _ _ => trodAll_mk1 (shut_bool Tryd.underlying4 true))
    (fun sp hsp => trodAll_mk2 (stays Tryd.laidOut (by kernel_rfl) (of_decide_eq_true (by kernel_rfl)) h0 hb hlt0 (fun x hx => hsp x (by simp [hx]))) (stays Tryd.laidOut (by kernel_rfl) (of_decide_eq_true (by kernel_rfl)) h1 hb hlt1 (fun x hx => hsp x (by simp [hx])))) (fun _ _ => rfl) (by simp) hb
    (ok_one (by kernel_rfl) rfl (okWide_bool_mk Tryd.underlying4 true))⟩
theorem productGraph_k0 : (Rows.fnExactProductGraphRow.wf (OpenSpec.ofChange Rows.fnExactProductGraphSpec)) = true := by kernel_rfl
theorem productGraph_k1 : (laidOutB Tryd.pinned.checked.prog) = true := by kernel_rfl
theorem productGraph_k2 : (mapsRowed Tryd.pinned.checked.prog) = true := by kernel_rfl
theorem productGraph_k3 : (Tryd.f3.params.all (Tryd.pinned.checked.prog.readableRec ·)) = true := by kernel_rfl
theorem productGraph_k4 : (namedTie Tryd.pinned.checked.prog Rows.fnExactProductGraphRow.named Rows.fnExactProductGraphSpec.vars) = true := by kernel_rfl
theorem productGraph_k5 : ((Rows.fnExactProductGraphRow.stops == [])) = true := by kernel_rfl
theorem productGraph_k6 : ((Tryd.pinned.checked.prog.stops == [])) = true := by kernel_rfl
theorem productGraph_k7 : ((Rows.fnExactProductGraphRow.knobs == [])) = true := by kernel_rfl
theorem productGraph_k8 : ((Tryd.pinned.checked.prog.stopKnobs == [])) = true := by kernel_rfl
theorem productGraph_k9 : ((Rows.fnExactProductGraphRow.inPlace == Tryd.pinned.checked.prog.inPlace 3)) = true := by kernel_rfl
theorem productGraph_k10 : ((Rows.fnExactProductGraphRow.unfollowed == Tryd.pinned.checked.prog.unfollowed 3)) = true := by kernel_rfl
theorem productGraph_k11 : ((Rows.fnExactProductGraphRow.recurses == Tryd.pinned.checked.prog.recurses 3)) = true := by kernel_rfl
theorem productGraph_k12 : ((Rows.fnExactProductGraphRow.named == Tryd.pinned.checked.prog.varsNamed 3)) = true := by kernel_rfl
theorem productGraph_k13 : ((Rows.fnExactProductGraphRow.maps == (Tryd.f3.params.toList ++ Rows.fnExactProductGraphSpec.plain.varTypes Tryd.pinned.checked.prog).any (Tryd.pinned.checked.prog.mapsRec ·))) = true := by kernel_rfl
theorem productGraph_k14 : ((Rows.fnExactProductGraphRow.ifaces == (Tryd.f3.params.toList ++ Rows.fnExactProductGraphSpec.plain.varTypes Tryd.pinned.checked.prog).any (Tryd.pinned.checked.prog.ifacesRec ·))) = true := by kernel_rfl
theorem productGraph_k15 : ((Rows.fnExactProductGraphRow.mapsOut == Tryd.pinned.checked.prog.mapsAmong Tryd.f3.resultTypes.toList)) = true := by kernel_rfl
theorem productGraph_k16 : ((Rows.fnExactProductGraphRow.loops == (Tryd.f3.params.toList ++ Rows.fnExactProductGraphSpec.plain.varTypes Tryd.pinned.checked.prog).any (Tryd.pinned.checked.prog.loopsFrom ·))) = true := by kernel_rfl
theorem productGraph_k17 : ((Rows.fnExactProductGraphRow.wideKeys == (Tryd.f3.params.toList ++ Rows.fnExactProductGraphSpec.plain.varTypes Tryd.pinned.checked.prog ++ Tryd.f3.resultTypes.toList).any (Tryd.pinned.checked.prog.wideKeysFrom ·))) = true := by kernel_rfl
theorem productGraph_k18 : (Rows.fnExactProductGraphSpec.vars.all (Tryd.pinned.checked.prog.varReadable ·)) = true := by kernel_rfl
theorem productGraph_k19 : (Tryd.f3.resultTypes.all (fun t => Tryd.pinned.checked.prog.readableRec t && decide (t < Tryd.pinned.checked.prog.types.size))) = true := by kernel_rfl
theorem productGraph_k20 : ((Rows.fnExactProductGraphRow.ifacesOut == Tryd.f3.resultTypes.toList.any (Tryd.pinned.checked.prog.ifacesRec ·))) = true := by kernel_rfl
theorem productGraph_k21 : ((Rows.fnExactProductGraphRow.loopsOut == Tryd.f3.resultTypes.toList.any (Tryd.pinned.checked.prog.loopsFrom ·))) = true := by kernel_rfl
theorem productGraph_k22 : ((Rows.fnExactProductGraphRow.plainKeys == Tryd.pinned.checked.prog.plainKeys)) = true := by kernel_rfl
theorem productGraph_k23 : (Rows.fnExactProductGraphRow.shortTexts.isNone) = true := by kernel_rfl
theorem productGraph_k24 : (Tryd.pinned.checked.prog.stopsHeard) = true := by kernel_rfl
theorem productGraph_k25 : (Tryd.pinned.checked.prog.mayEnter) = true := x_enter
theorem productGraph_k26 : ((Rows.fnExactProductGraphRow.lifted == Tryd.pinned.checked.prog.liftsFinal)) = true := by rw [x_lifts]; rfl
theorem productGraph_k27 : ((Tryd.pinned.checked.prog.make == some Rows.fnExactProductGraphRow.make)) = true := by rw [x_make]; rfl
theorem productGraph_k28 : ((Rows.fnExactProductGraphRow.kinds == (if Rows.fnExactProductGraphRow.domain.isEmpty then [] else Tryd.f3.params.toList.map fun t => match Tryd.pinned.checked.prog.underlying t with | some (.int k) => some k | _ => none))) = true := by kernel_rfl
theorem productGraph_k29 : ((Rows.fnExactProductGraphRow.pinned == Rows.fnExactProductGraphRow.pinnedBy)) = true := by kernel_rfl
theorem productGraph_k30 : ((Rows.fnExactProductGraphRow.veiled == (Tryd.f3.params.toList ++ Rows.fnExactProductGraphSpec.plain.varTypes Tryd.pinned.checked.prog ++ Tryd.f3.resultTypes.toList).any (Tryd.pinned.checked.prog.veiledRec ·))) = true := by kernel_rfl
theorem productGraph_k31 : (Rows.fnExactProductGraphRow.veiledFits Tryd.pinned.checked.prog Tryd.f3.params.toList (Tryd.f3.params.toList ++ Rows.fnExactProductGraphSpec.plain.varTypes Tryd.pinned.checked.prog ++ Tryd.f3.resultTypes.toList)) = true := by kernel_rfl
theorem productGraph_pkg : decide (Check.packageOf Tryd.f3.name = "main") = false := by kernel_rfl
theorem productGraph_inst : Func.isInstance Tryd.pinned.checked.prog Tryd.f3 Rows.fnExactProductGraphRow.origin Rows.fnExactProductGraphRow.targs := of_decide_eq_true (by kernel_rfl)
theorem productGraph_wrap : Func.isWrapper Tryd.pinned.checked.prog Tryd.f3 Rows.fnExactProductGraphRow.wrapper Rows.fnExactProductGraphRow.mainSum := by
  unfold Func.isWrapper; rw [if_neg (of_decide_eq_false productGraph_pkg)]; exact ⟨rfl, rfl⟩
set_option maxRecDepth 100000 in
theorem productGraph_closed : joinedFacts Tryd.pinned.checked.prog 3 Tryd.f3 Rows.fnExactProductGraphSpec Rows.fnExactProductGraphRow = true :=
  (and_of (and_of (and_of (and_of (and_of (and_of (and_of (and_of (and_of (and_of (and_of (and_of (and_of (and_of (and_of (and_of (and_of (and_of (and_of (and_of (and_of (and_of (and_of (and_of (and_of (and_of (and_of (and_of (and_of (and_of (and_of productGraph_k0 productGraph_k1) productGraph_k2) productGraph_k3) productGraph_k4) productGraph_k5) productGraph_k6) productGraph_k7) productGraph_k8) productGraph_k9) productGraph_k10) productGraph_k11) productGraph_k12) productGraph_k13) productGraph_k14) productGraph_k15) productGraph_k16) productGraph_k17) productGraph_k18) productGraph_k19) productGraph_k20) productGraph_k21) productGraph_k22) productGraph_k23) productGraph_k24) productGraph_k25) productGraph_k26) productGraph_k27) productGraph_k28) productGraph_k29) productGraph_k30) productGraph_k31)
theorem productGraph_holds : Rows.FnExactProductGraphSaid :=
  OpenClaim.holds_of_wide 3 Tryd.f3 rfl rfl rfl rfl rfl rfl rfl ⟨rfl, rfl, rfl, rfl, rfl⟩ rfl rfl rfl rfl rfl (by kernel_rfl) Tryd.func3 productGraph_closed
    productGraph_inst productGraph_wrap (fun os started H enc _ => productGraph_lifted os started H enc)
theorem productGraph_w24 : Tryd.prog.wantsStandIn 24 = false := by kernel_rfl
theorem productGraph_name : Tryd.prog.funcNamed "loop.example/g01146/laws.FnExactProductGraph" = some 3 := by kernel_rfl
theorem productGraph_card : Rows.FnExactProductGraphCardSaid :=
  Claim7.holds_tied_plain_at .later [] [.data, .data] true (true, "5536c0046486681e01e5fab92ac8ee6f74011625c2a97f4c05a73b11d6c6542c") false
    productGraph_holds (fun _ h => by cases h) (by kernel_rfl) (fun _ h => by cases h) fnExactProductGraph_row_tie rfl ⟨rfl, rfl⟩ (by kernel_rfl) rfl
    (fun f fn hf hfn => by
      obtain rfl : f = 3 := Option.some.inj (productGraph_name.symm.trans hf) |>.symm
      obtain rfl : fn = Tryd.f3 := (Option.some.inj (Tryd.func3.symm.trans hfn)).symm
      exact ⟨by kernel_rfl, fun j t ht => by
        rw [Tryd.params3] at ht
        have hmem : t ∈ ([24, 24] : List TypeId) := by
          have := Array.mem_of_getElem? ht
          simpa using this
        simp only [List.mem_cons, List.not_mem_nil, or_false] at hmem
        rcases hmem with rfl | rfl
        · exact productGraph_w24
        · exact productGraph_w24⟩)
    (by kernel_rfl)
end Go.Proofs.YtdpoceijnbbmgaaDoor
