/-
PathProduct answers as its model at every graph and number, and the graph is as it was. The table of math/bits is tied to the program's text.
-/
import Derived.Test.YtdpoceijnbbmgaaDoorOQ
import Derived.Test.YtdpoceijnbbmgaaDoorP
import Derived.Test.YtdpoceijnbbmgaaDoorZc
import Derived.Test.YtdpoceijnbbmgaaDoorQ2
import Derived.Test.YtdpoceijnbbmgaaDoorTie
import Derived.Test.YtdpoceijnbbmgaaDoorCards
import Derived.SevenTiedAt
namespace Go.Proofs.YtdpoceijnbbmgaaDoor
open Go.ChangeShapes Go.WideShapes Go.ChangeAt Go.WideElems Go.RowKit
set_option maxRecDepth 100000 in
theorem pathProduct_lifted (os : Os) (started : os.Started) (H : Type) (enc : TypeId × Value → H) :
    ReturnsInHanded {} Tryd.checked os 8 .any (fun w args => (Rows.fnExactPathProductSpec.pre enc Tryd.prog Tryd.f8 [] false w args ∧ laidMetH Tryd.prog laidL w) ∧ sizedMet enc Tryd.prog Tryd.f8 (OpenSpec.ofChange Rows.fnExactPathProductSpec) false w args)
      (Rows.fnExactPathProductSpec.post enc Tryd.prog Tryd.f8 false true false false) := by
  refine returnsInHanded_of_change_and (C := Tryd.checked) (X := fun w _ => laidMetH Tryd.prog laidL w) (fun _ _ _ hh h => h.of_heap hh) Tryd.own started (by kernel_rfl) Tryd.func8
    (ChangeSpec.witness_shaped (enc := enc) (C := Tryd.checked) (os := os) (X := fun w _ => laidMetH Tryd.prog laidL w) false (World.doorLaid Tryd.prog 400 os) #[.agg #[.slice none 0 0, .bool false], .int .i64 0] 8 rfl (World.shaped_of_RefB (by kernel_rfl) (by kernel_rfl)) (by kernel_rfl) (by kernel_rfl) (by kernel_rfl) (door_met os _)) ?_
  intro W base args ds gs before hval0 hW _ _ hL _
  have hval : ∀ (j : Nat) t v, Tryd.f8.params[j]? = some t → args[j]? = some v → Value.okWide Tryd.prog W .any base t v := hval0
  have hW' := hW
  obtain ⟨p, q, hA0, hV, rfl, hfz, hnd⟩ := hW
  have hA : DataW.TrodAll enc Tryd.prog W 0 (fun _ => true) true Tryd.f8.params.toList args.toList ds p := hA0
  rw [Tryd.params8] at hA hval
  obtain ⟨v0, v1, d0, d1, p0, p1, rfl, rfl, rfl, h0, h1⟩ := trodAll_two hA
  obtain ⟨rfl, rfl⟩ := trodVars_none hV
  obtain ⟨A0, n0, c0, f0, own0, rfl, hn0, hs0, hw0⟩ := open_graph (hval 0 24 v0 rfl rfl) h0
  obtain ⟨a1, rfl, rfl, rfl, wa1⟩ := open_int Tryd.underlying3 (hval 1 3 v1 rfl rfl) h1
  have hT := tab_of_laid hL
  clear hA0 hval0
  simp only [List.append_nil] at hW'
  have hlt0 : ∀ x ∈ p0, x.block < W.heap.size := fun x hx => hW'.lt x (by simp [hx])
  refine (lawPathProduct A0 n0 c0 f0 own0 a1 W hn0 hs0 hT).mono fun e W' ⟨he, hb⟩ => ?_
  subst he
  exact ⟨_, rfl, post_of_below (pa := p0 ++ ([])) (pv := []) hW' (fun _ _ _ => trodAll_mk1 (shut_bool Tryd.underlying4 true))
    (fun sp hsp => trodAll_mk2 (stays Tryd.laidOut (by kernel_rfl) (of_decide_eq_true (by kernel_rfl)) h0 hb hlt0 (fun x hx => hsp x (by simp [hx]))) (shut_int Tryd.underlying3 wa1)) (fun _ _ => rfl) (by simp) hb
    (ok_one (by kernel_rfl) rfl (okWide_bool_mk Tryd.underlying4 true))⟩
theorem pathProduct_k0 : (Rows.fnExactPathProductRow.wf (OpenSpec.ofChange Rows.fnExactPathProductSpec)) = true := by kernel_rfl
theorem pathProduct_k1 : (laidOutB Tryd.pinned.checked.prog) = true := by kernel_rfl
theorem pathProduct_k2 : (mapsRowed Tryd.pinned.checked.prog) = true := by kernel_rfl
theorem pathProduct_k3 : (Tryd.f8.params.all (Tryd.pinned.checked.prog.readableRec ·)) = true := by kernel_rfl
theorem pathProduct_k4 : (namedTie Tryd.pinned.checked.prog Rows.fnExactPathProductRow.named Rows.fnExactPathProductSpec.vars) = true := by kernel_rfl
theorem pathProduct_k5 : ((Rows.fnExactPathProductRow.stops == [])) = true := by kernel_rfl
theorem pathProduct_k6 : ((Tryd.pinned.checked.prog.stops == [])) = true := by kernel_rfl
theorem pathProduct_k7 : ((Rows.fnExactPathProductRow.knobs == [])) = true := by kernel_rfl
theorem pathProduct_k8 : ((Tryd.pinned.checked.prog.stopKnobs == [])) = true := by kernel_rfl
theorem pathProduct_k9 : ((Rows.fnExactPathProductRow.inPlace == Tryd.pinned.checked.prog.inPlace 8)) = true := by kernel_rfl
theorem pathProduct_k10 : ((Rows.fnExactPathProductRow.unfollowed == Tryd.pinned.checked.prog.unfollowed 8)) = true := by kernel_rfl
theorem pathProduct_k11 : ((Rows.fnExactPathProductRow.recurses == Tryd.pinned.checked.prog.recurses 8)) = true := by kernel_rfl
theorem pathProduct_k12 : ((Rows.fnExactPathProductRow.named == Tryd.pinned.checked.prog.varsNamed 8)) = true := by kernel_rfl
theorem pathProduct_k13 : ((Rows.fnExactPathProductRow.maps == (Tryd.f8.params.toList ++ Rows.fnExactPathProductSpec.plain.varTypes Tryd.pinned.checked.prog).any (Tryd.pinned.checked.prog.mapsRec ·))) = true := by kernel_rfl
theorem pathProduct_k14 : ((Rows.fnExactPathProductRow.ifaces == (Tryd.f8.params.toList ++ Rows.fnExactPathProductSpec.plain.varTypes Tryd.pinned.checked.prog).any (Tryd.pinned.checked.prog.ifacesRec ·))) = true := by kernel_rfl
theorem pathProduct_k15 : ((Rows.fnExactPathProductRow.mapsOut == Tryd.pinned.checked.prog.mapsAmong Tryd.f8.resultTypes.toList)) = true := by kernel_rfl
theorem pathProduct_k16 : ((Rows.fnExactPathProductRow.loops == (Tryd.f8.params.toList ++ Rows.fnExactPathProductSpec.plain.varTypes Tryd.pinned.checked.prog).any (Tryd.pinned.checked.prog.loopsFrom ·))) = true := by kernel_rfl
theorem pathProduct_k17 : ((Rows.fnExactPathProductRow.wideKeys == (Tryd.f8.params.toList ++ Rows.fnExactPathProductSpec.plain.varTypes Tryd.pinned.checked.prog ++ Tryd.f8.resultTypes.toList).any (Tryd.pinned.checked.prog.wideKeysFrom ·))) = true := by kernel_rfl
theorem pathProduct_k18 : (Rows.fnExactPathProductSpec.vars.all (Tryd.pinned.checked.prog.varReadable ·)) = true := by kernel_rfl
theorem pathProduct_k19 : (Tryd.f8.resultTypes.all (fun t => Tryd.pinned.checked.prog.readableRec t && decide (t < Tryd.pinned.checked.prog.types.size))) = true := by kernel_rfl
theorem pathProduct_k20 : ((Rows.fnExactPathProductRow.ifacesOut == Tryd.f8.resultTypes.toList.any (Tryd.pinned.checked.prog.ifacesRec ·))) = true := by kernel_rfl
theorem pathProduct_k21 : ((Rows.fnExactPathProductRow.loopsOut == Tryd.f8.resultTypes.toList.any (Tryd.pinned.checked.prog.loopsFrom ·))) = true := by kernel_rfl
theorem pathProduct_k22 : ((Rows.fnExactPathProductRow.plainKeys == Tryd.pinned.checked.prog.plainKeys)) = true := by kernel_rfl
theorem pathProduct_k23 : (Rows.fnExactPathProductRow.shortTexts.isNone) = true := by kernel_rfl
theorem pathProduct_k24 : (Tryd.pinned.checked.prog.stopsHeard) = true := by kernel_rfl
theorem pathProduct_k25 : (Tryd.pinned.checked.prog.mayEnter) = true := x_enter
theorem pathProduct_k26 : ((Rows.fnExactPathProductRow.lifted == Tryd.pinned.checked.prog.liftsFinal)) = true := by rw [x_lifts]; rfl
theorem pathProduct_k27 : ((Tryd.pinned.checked.prog.make == some Rows.fnExactPathProductRow.make)) = true := by rw [x_make]; rfl
theorem pathProduct_k28 : ((Rows.fnExactPathProductRow.kinds == (if Rows.fnExactPathProductRow.domain.isEmpty then [] else Tryd.f8.params.toList.map fun t => match Tryd.pinned.checked.prog.underlying t with | some (.int k) => some k | _ => none))) = true := by kernel_rfl
theorem pathProduct_k29 : ((Rows.fnExactPathProductRow.pinned == Rows.fnExactPathProductRow.pinnedBy)) = true := by kernel_rfl
theorem pathProduct_k30 : ((Rows.fnExactPathProductRow.veiled == (Tryd.f8.params.toList ++ Rows.fnExactPathProductSpec.plain.varTypes Tryd.pinned.checked.prog ++ Tryd.f8.resultTypes.toList).any (Tryd.pinned.checked.prog.veiledRec ·))) = true := by kernel_rfl
theorem pathProduct_k31 : (Rows.fnExactPathProductRow.veiledFits Tryd.pinned.checked.prog Tryd.f8.params.toList (Tryd.f8.params.toList ++ Rows.fnExactPathProductSpec.plain.varTypes Tryd.pinned.checked.prog ++ Tryd.f8.resultTypes.toList)) = true := by kernel_rfl
theorem pathProduct_pkg : decide (Check.packageOf Tryd.f8.name = "main") = false := by kernel_rfl
theorem pathProduct_inst : Func.isInstance Tryd.pinned.checked.prog Tryd.f8 Rows.fnExactPathProductRow.origin Rows.fnExactPathProductRow.targs := of_decide_eq_true (by kernel_rfl)
theorem pathProduct_wrap : Func.isWrapper Tryd.pinned.checked.prog Tryd.f8 Rows.fnExactPathProductRow.wrapper Rows.fnExactPathProductRow.mainSum := by
  unfold Func.isWrapper; rw [if_neg (of_decide_eq_false pathProduct_pkg)]; exact ⟨rfl, rfl⟩
set_option maxRecDepth 100000 in
theorem pathProduct_closed : joinedFacts Tryd.pinned.checked.prog 8 Tryd.f8 Rows.fnExactPathProductSpec Rows.fnExactPathProductRow = true :=
  (and_of (and_of (and_of (and_of (and_of (and_of (and_of (and_of (and_of (and_of (and_of (and_of (and_of (and_of (and_of (and_of (and_of (and_of (and_of (and_of (and_of (and_of (and_of (and_of (and_of (and_of (and_of (and_of (and_of (and_of (and_of pathProduct_k0 pathProduct_k1) pathProduct_k2) pathProduct_k3) pathProduct_k4) pathProduct_k5) pathProduct_k6) pathProduct_k7) pathProduct_k8) pathProduct_k9) pathProduct_k10) pathProduct_k11) pathProduct_k12) pathProduct_k13) pathProduct_k14) pathProduct_k15) pathProduct_k16) pathProduct_k17) pathProduct_k18) pathProduct_k19) pathProduct_k20) pathProduct_k21) pathProduct_k22) pathProduct_k23) pathProduct_k24) pathProduct_k25) pathProduct_k26) pathProduct_k27) pathProduct_k28) pathProduct_k29) pathProduct_k30) pathProduct_k31)
theorem pathProduct_holds : Rows.FnExactPathProductSaid :=
  OpenClaim.holds_of_wide 8 Tryd.f8 rfl rfl rfl rfl rfl rfl rfl ⟨rfl, rfl, rfl, rfl, rfl⟩ rfl rfl rfl rfl rfl (by kernel_rfl) Tryd.func8 pathProduct_closed
    pathProduct_inst pathProduct_wrap (fun os started H enc _ => pathProduct_lifted os started H enc)
theorem pathProduct_w3 : Tryd.prog.wantsStandIn 3 = false := by kernel_rfl
theorem pathProduct_w24 : Tryd.prog.wantsStandIn 24 = false := by kernel_rfl
theorem pathProduct_name : Tryd.prog.funcNamed "loop.example/g01146/laws.FnExactPathProduct" = some 8 := by kernel_rfl
theorem pathProduct_card : Rows.FnExactPathProductCardSaid :=
  Claim7.holds_tied_plain_at .later [] [.data, .data] true (true, "5536c0046486681e01e5fab92ac8ee6f74011625c2a97f4c05a73b11d6c6542c") false
    pathProduct_holds (fun _ h => by cases h) (by kernel_rfl) (fun _ h => by cases h) fnExactPathProduct_row_tie rfl ⟨rfl, rfl⟩ (by kernel_rfl) rfl
    (fun f fn hf hfn => by
      obtain rfl : f = 8 := Option.some.inj (pathProduct_name.symm.trans hf) |>.symm
      obtain rfl : fn = Tryd.f8 := (Option.some.inj (Tryd.func8.symm.trans hfn)).symm
      exact ⟨by kernel_rfl, fun j t ht => by
        rw [Tryd.params8] at ht
        have hmem : t ∈ ([24, 3] : List TypeId) := by
          have := Array.mem_of_getElem? ht
          simpa using this
        simp only [List.mem_cons, List.not_mem_nil, or_false] at hmem
        rcases hmem with rfl | rfl
        · exact pathProduct_w24
        · exact pathProduct_w3⟩)
    (by kernel_rfl)
end Go.Proofs.YtdpoceijnbbmgaaDoor
