/-
MapOfPoly answers as its model at every list and number, its answers share no memory, and the list is as it was. The table of math/bits is tied to the program's text.
-/
import Derived.Test.YtdpoceijnbbmgaaDoorOP
import Derived.Test.YtdpoceijnbbmgaaDoorP
import Derived.Test.YtdpoceijnbbmgaaDoorQ1
import Derived.Test.YtdpoceijnbbmgaaDoorQ2
import Derived.Test.YtdpoceijnbbmgaaDoorTie
import Derived.Test.YtdpoceijnbbmgaaDoorCards
import Derived.SevenTiedAt
namespace Go.Proofs.YtdpoceijnbbmgaaDoor
open Go.ChangeShapes Go.WideShapes Go.ChangeAt Go.WideElems Go.RowKit
set_option maxRecDepth 100000 in
theorem mapOfPoly_lifted (os : Os) (started : os.Started) (H : Type) (enc : TypeId × Value → H) :
    ReturnsInHanded {} Tryd.checked os 6 .any (fun w args => (Rows.fnExactMapOfPolySpec.pre enc Tryd.prog Tryd.f6 [] false w args ∧ laidMetH Tryd.prog laidL w) ∧ sizedMet enc Tryd.prog Tryd.f6 (OpenSpec.ofChange Rows.fnExactMapOfPolySpec) false w args)
      (Rows.fnExactMapOfPolySpec.post enc Tryd.prog Tryd.f6 false true false false) := by
  refine returnsInHanded_of_change_and (C := Tryd.checked) (X := fun w _ => laidMetH Tryd.prog laidL w) (fun _ _ _ hh h => h.of_heap hh) Tryd.own started (by kernel_rfl) Tryd.func6
    (ChangeSpec.witness_shaped (enc := enc) (C := Tryd.checked) (os := os) (X := fun w _ => laidMetH Tryd.prog laidL w) false (World.doorLaid Tryd.prog 400 os) #[.slice none 0 0, .int .i64 0] 8 rfl (World.shaped_of_RefB (by kernel_rfl) (by kernel_rfl)) (by kernel_rfl) (by kernel_rfl) (by kernel_rfl) (door_met os _)) ?_
  intro W base args ds gs before hval0 hW _ _ hL _
  have hval : ∀ (j : Nat) t v, Tryd.f6.params[j]? = some t → args[j]? = some v → Value.okWide Tryd.prog W .any base t v := hval0
  have hW' := hW
  obtain ⟨p, q, hA0, hV, rfl, hfz, hnd⟩ := hW
  have hA : DataW.TrodAll enc Tryd.prog W 0 (fun _ => true) true Tryd.f6.params.toList args.toList ds p := hA0
  rw [Tryd.params6] at hA hval
  obtain ⟨v0, v1, d0, d1, p0, p1, rfl, rfl, rfl, h0, h1⟩ := trodAll_two hA
  obtain ⟨rfl, rfl⟩ := trodVars_none hV
  obtain ⟨A0, n0, c0, f0, rfl, hn0, hs0, hw0⟩ := open_ints_arg (hval 0 22 v0 rfl rfl) h0
  obtain ⟨a1, rfl, rfl, rfl, wa1⟩ := open_int Tryd.underlying3 (hval 1 3 v1 rfl rfl) h1
  have hT := tab_of_laid hL
  clear hA0 hval0
  simp only [List.append_nil] at hW'
  have hlt0 : ∀ x ∈ p0, x.block < W.heap.size := fun x hx => hW'.lt x (by simp [hx])
  refine (lawMapOfPoly A0 n0 c0 f0 a1 W hn0 hs0 hT).mono fun e W' ⟨he, hb⟩ => ?_
  subst he
  exact ⟨_, rfl, post_of_below (pa := p0 ++ ([])) (pv := []) hW' (fun _ _ _ => trodAll_mk1 (shut_bool Tryd.underlying4 true))
    (fun sp hsp => trodAll_mk2 (stays Tryd.laidOut (by kernel_rfl) (of_decide_eq_true (by kernel_rfl)) h0 hb hlt0 (fun x hx => hsp x (by simp [hx]))) (shut_int Tryd.underlying3 wa1)) (fun _ _ => rfl) (by simp) hb
    (ok_one (by kernel_rfl) rfl (okWide_bool_mk Tryd.underlying4 true))⟩
theorem mapOfPoly_k0 : (Rows.fnExactMapOfPolyRow.wf (OpenSpec.ofChange Rows.fnExactMapOfPolySpec)) = true := by kernel_rfl
theorem mapOfPoly_k1 : (laidOutB Tryd.pinned.checked.prog) = true := by kernel_rfl
theorem mapOfPoly_k2 : (mapsRowed Tryd.pinned.checked.prog) = true := by kernel_rfl
theorem mapOfPoly_k3 : (Tryd.f6.params.all (Tryd.pinned.checked.prog.readableRec ·)) = true := by kernel_rfl
theorem mapOfPoly_k4 : (namedTie Tryd.pinned.checked.prog Rows.fnExactMapOfPolyRow.named Rows.fnExactMapOfPolySpec.vars) = true := by kernel_rfl
theorem mapOfPoly_k5 : ((Rows.fnExactMapOfPolyRow.stops == [])) = true := by kernel_rfl
theorem mapOfPoly_k6 : ((Tryd.pinned.checked.prog.stops == [])) = true := by kernel_rfl
theorem mapOfPoly_k7 : ((Rows.fnExactMapOfPolyRow.knobs == [])) = true := by kernel_rfl
theorem mapOfPoly_k8 : ((Tryd.pinned.checked.prog.stopKnobs == [])) = true := by kernel_rfl
theorem mapOfPoly_k9 : ((Rows.fnExactMapOfPolyRow.inPlace == Tryd.pinned.checked.prog.inPlace 6)) = true := by kernel_rfl
theorem mapOfPoly_k10 : ((Rows.fnExactMapOfPolyRow.unfollowed == Tryd.pinned.checked.prog.unfollowed 6)) = true := by kernel_rfl
theorem mapOfPoly_k11 : ((Rows.fnExactMapOfPolyRow.recurses == Tryd.pinned.checked.prog.recurses 6)) = true := by kernel_rfl
theorem mapOfPoly_k12 : ((Rows.fnExactMapOfPolyRow.named == Tryd.pinned.checked.prog.varsNamed 6)) = true := by kernel_rfl
theorem mapOfPoly_k13 : ((Rows.fnExactMapOfPolyRow.maps == (Tryd.f6.params.toList ++ Rows.fnExactMapOfPolySpec.plain.varTypes Tryd.pinned.checked.prog).any (Tryd.pinned.checked.prog.mapsRec ·))) = true := by kernel_rfl
theorem mapOfPoly_k14 : ((Rows.fnExactMapOfPolyRow.ifaces == (Tryd.f6.params.toList ++ Rows.fnExactMapOfPolySpec.plain.varTypes Tryd.pinned.checked.prog).any (Tryd.pinned.checked.prog.ifacesRec ·))) = true := by kernel_rfl
theorem mapOfPoly_k15 : ((Rows.fnExactMapOfPolyRow.mapsOut == Tryd.pinned.checked.prog.mapsAmong Tryd.f6.resultTypes.toList)) = true := by kernel_rfl
theorem mapOfPoly_k16 : ((Rows.fnExactMapOfPolyRow.loops == (Tryd.f6.params.toList ++ Rows.fnExactMapOfPolySpec.plain.varTypes Tryd.pinned.checked.prog).any (Tryd.pinned.checked.prog.loopsFrom ·))) = true := by kernel_rfl
theorem mapOfPoly_k17 : ((Rows.fnExactMapOfPolyRow.wideKeys == (Tryd.f6.params.toList ++ Rows.fnExactMapOfPolySpec.plain.varTypes Tryd.pinned.checked.prog ++ Tryd.f6.resultTypes.toList).any (Tryd.pinned.checked.prog.wideKeysFrom ·))) = true := by kernel_rfl
theorem mapOfPoly_k18 : (Rows.fnExactMapOfPolySpec.vars.all (Tryd.pinned.checked.prog.varReadable ·)) = true := by kernel_rfl
theorem mapOfPoly_k19 : (Tryd.f6.resultTypes.all (fun t => Tryd.pinned.checked.prog.readableRec t && decide (t < Tryd.pinned.checked.prog.types.size))) = true := by kernel_rfl
theorem mapOfPoly_k20 : ((Rows.fnExactMapOfPolyRow.ifacesOut == Tryd.f6.resultTypes.toList.any (Tryd.pinned.checked.prog.ifacesRec ·))) = true := by kernel_rfl
theorem mapOfPoly_k21 : ((Rows.fnExactMapOfPolyRow.loopsOut == Tryd.f6.resultTypes.toList.any (Tryd.pinned.checked.prog.loopsFrom ·))) = true := by kernel_rfl
theorem mapOfPoly_k22 : ((Rows.fnExactMapOfPolyRow.plainKeys == Tryd.pinned.checked.prog.plainKeys)) = true := by kernel_rfl
theorem mapOfPoly_k23 : (Rows.fnExactMapOfPolyRow.shortTexts.isNone) = true := by kernel_rfl
theorem mapOfPoly_k24 : (Tryd.pinned.checked.prog.stopsHeard) = true := by kernel_rfl
theorem mapOfPoly_k25 : (Tryd.pinned.checked.prog.mayEnter) = true := x_enter
theorem mapOfPoly_k26 : ((Rows.fnExactMapOfPolyRow.lifted == Tryd.pinned.checked.prog.liftsFinal)) = true := by rw [x_lifts]; rfl
theorem mapOfPoly_k27 : ((Tryd.pinned.checked.prog.make == some Rows.fnExactMapOfPolyRow.make)) = true := by rw [x_make]; rfl
theorem mapOfPoly_k28 : ((Rows.fnExactMapOfPolyRow.kinds == (if Rows.fnExactMapOfPolyRow.domain.isEmpty then [] else Tryd.f6.params.toList.map fun t => match Tryd.pinned.checked.prog.underlying t with | some (.int k) => some k | _ => none))) = true := by kernel_rfl
theorem mapOfPoly_k29 : ((Rows.fnExactMapOfPolyRow.pinned == Rows.fnExactMapOfPolyRow.pinnedBy)) = true := by kernel_rfl
theorem mapOfPoly_k30 : ((Rows.fnExactMapOfPolyRow.veiled == (Tryd.f6.params.toList ++ Rows.fnExactMapOfPolySpec.plain.varTypes Tryd.pinned.checked.prog ++ Tryd.f6.resultTypes.toList).any (Tryd.pinned.checked.prog.veiledRec ·))) = true := by kernel_rfl
theorem mapOfPoly_k31 : (Rows.fnExactMapOfPolyRow.veiledFits Tryd.pinned.checked.prog Tryd.f6.params.toList (Tryd.f6.params.toList ++ Rows.fnExactMapOfPolySpec.plain.varTypes Tryd.pinned.checked.prog ++ Tryd.f6.resultTypes.toList)) = true := by kernel_rfl
theorem mapOfPoly_pkg : decide (Check.packageOf Tryd.f6.name = "main") = false := by kernel_rfl
theorem mapOfPoly_inst : Func.isInstance Tryd.pinned.checked.prog Tryd.f6 Rows.fnExactMapOfPolyRow.origin Rows.fnExactMapOfPolyRow.targs := of_decide_eq_true (by kernel_rfl)
theorem mapOfPoly_wrap : Func.isWrapper Tryd.pinned.checked.prog Tryd.f6 Rows.fnExactMapOfPolyRow.wrapper Rows.fnExactMapOfPolyRow.mainSum := by
  unfold Func.isWrapper; rw [if_neg (of_decide_eq_false mapOfPoly_pkg)]; exact ⟨rfl, rfl⟩
set_option maxRecDepth 100000 in
theorem mapOfPoly_closed : joinedFacts Tryd.pinned.checked.prog 6 Tryd.f6 Rows.fnExactMapOfPolySpec Rows.fnExactMapOfPolyRow = true :=
  (and_of (and_of (and_of (and_of (and_of (and_of (and_of (and_of (and_of (and_of (and_of (and_of (and_of (and_of (and_of (and_of (and_of (and_of (and_of (and_of (and_of (and_of (and_of (and_of (and_of (and_of (and_of (and_of (and_of (and_of (and_of mapOfPoly_k0 mapOfPoly_k1) mapOfPoly_k2) mapOfPoly_k3) mapOfPoly_k4) mapOfPoly_k5) mapOfPoly_k6) mapOfPoly_k7) mapOfPoly_k8) mapOfPoly_k9) mapOfPoly_k10) mapOfPoly_k11) mapOfPoly_k12) mapOfPoly_k13) mapOfPoly_k14) mapOfPoly_k15) mapOfPoly_k16) mapOfPoly_k17) mapOfPoly_k18) mapOfPoly_k19) mapOfPoly_k20) mapOfPoly_k21) mapOfPoly_k22) mapOfPoly_k23) mapOfPoly_k24) mapOfPoly_k25) mapOfPoly_k26) mapOfPoly_k27) mapOfPoly_k28) mapOfPoly_k29) mapOfPoly_k30) mapOfPoly_k31)
theorem mapOfPoly_holds : Rows.FnExactMapOfPolySaid :=
  OpenClaim.holds_of_wide 6 Tryd.f6 rfl rfl rfl rfl rfl rfl rfl ⟨rfl, rfl, rfl, rfl, rfl⟩ rfl rfl rfl rfl rfl (by kernel_rfl) Tryd.func6 mapOfPoly_closed
    mapOfPoly_inst mapOfPoly_wrap (fun os started H enc _ => mapOfPoly_lifted os started H enc)
theorem mapOfPoly_w3 : Tryd.prog.wantsStandIn 3 = false := by kernel_rfl
theorem mapOfPoly_w22 : Tryd.prog.wantsStandIn 22 = false := by kernel_rfl
theorem mapOfPoly_name : Tryd.prog.funcNamed "loop.example/g01146/laws.FnExactMapOfPoly" = some 6 := by kernel_rfl
theorem mapOfPoly_card : Rows.FnExactMapOfPolyCardSaid :=
  Claim7.holds_tied_plain_at .later [] [.data, .data] true (true, "5536c0046486681e01e5fab92ac8ee6f74011625c2a97f4c05a73b11d6c6542c") false
    mapOfPoly_holds (fun _ h => by cases h) (by kernel_rfl) (fun _ h => by cases h) fnExactMapOfPoly_row_tie rfl ⟨rfl, rfl⟩ (by kernel_rfl) rfl
    (fun f fn hf hfn => by
      obtain rfl : f = 6 := Option.some.inj (mapOfPoly_name.symm.trans hf) |>.symm
      obtain rfl : fn = Tryd.f6 := (Option.some.inj (Tryd.func6.symm.trans hfn)).symm
      exact ⟨by kernel_rfl, fun j t ht => by
        rw [Tryd.params6] at ht
        have hmem : t ∈ ([22, 3] : List TypeId) := by
          have := Array.mem_of_getElem? ht
          simpa using this
        simp only [List.mem_cons, List.not_mem_nil, or_false] at hmem
        rcases hmem with rfl | rfl
        · exact mapOfPoly_w22
        · exact mapOfPoly_w3⟩)
    (by kernel_rfl)
end Go.Proofs.YtdpoceijnbbmgaaDoor
