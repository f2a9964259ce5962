/-
IsOddSet answers as its model at every graph and set, and the graph is as it was. The table of math/bits is tied to the program's text.
-/
import Derived.Test.YtcpbbpgiicakcaaDoorXL
import Derived.Test.YtcpbbpgiicakcaaDoorP
import Derived.Test.YtcpbbpgiicakcaaDoorQ1
import Derived.Test.YtcpbbpgiicakcaaDoorQ2
import Derived.Test.YtcpbbpgiicakcaaDoorTie
import Derived.Test.YtcpbbpgiicakcaaDoorCards
import Derived.SevenTiedAt
namespace Go.Proofs.YtcpbbpgiicakcaaDoor
open Go.ChangeShapes Go.WideShapes Go.ChangeAt Go.WideElems Go.RowKit
set_option maxRecDepth 100000 in
theorem isOddSet_lifted (os : Os) (started : os.Started) (H : Type) (enc : TypeId × Value → H) :
    ReturnsInHanded {} Tryd.checked os 4 .any (fun w args => (Rows.fnExactIsOddSetSpec.pre enc Tryd.prog Tryd.f4 [] false w args ∧ laidMetH Tryd.prog laidL w) ∧ sizedMet enc Tryd.prog Tryd.f4 (OpenSpec.ofChange Rows.fnExactIsOddSetSpec) false w args)
      (Rows.fnExactIsOddSetSpec.post enc Tryd.prog Tryd.f4 false true false false) := by
  refine returnsInHanded_of_change_and (C := Tryd.checked) (X := fun w _ => laidMetH Tryd.prog laidL w) (fun _ _ _ hh h => h.of_heap hh) Tryd.own started (by kernel_rfl) Tryd.func4
    (ChangeSpec.witness_shaped (enc := enc) (C := Tryd.checked) (os := os) (X := fun w _ => laidMetH Tryd.prog laidL w) false (World.doorLaid Tryd.prog 400 os) #[.agg #[.slice none 0 0, .bool false], .int .i64 0] 8 rfl (World.shaped_of_RefB (by kernel_rfl) (by kernel_rfl)) (by kernel_rfl) (by kernel_rfl) (by kernel_rfl) (door_met os _)) ?_
  intro W base args ds gs before hval0 hW _ _ hL _
  have hval : ∀ (j : Nat) t v, Tryd.f4.params[j]? = some t → args[j]? = some v → Value.okWide Tryd.prog W .any base t v := hval0
  have hW' := hW
  obtain ⟨p, q, hA0, hV, rfl, hfz, hnd⟩ := hW
  have hA : DataW.TrodAll enc Tryd.prog W 0 (fun _ => true) true Tryd.f4.params.toList args.toList ds p := hA0
  rw [Tryd.params4] at hA hval
  obtain ⟨v0, v1, d0, d1, p0, p1, rfl, rfl, rfl, h0, h1⟩ := trodAll_two hA
  obtain ⟨rfl, rfl⟩ := trodVars_none hV
  obtain ⟨A0, n0, c0, f0, own0, rfl, hn0, hs0, hw0⟩ := open_graph (hval 0 24 v0 rfl rfl) h0
  obtain ⟨a1, rfl, rfl, rfl, wa1⟩ := open_int Tryd.underlying3 (hval 1 3 v1 rfl rfl) h1
  have hT := tab_of_laid hL
  clear hA0 hval0
  simp only [List.append_nil] at hW'
  have hlt0 : ∀ x ∈ p0, x.block < W.heap.size := fun x hx => hW'.lt x (by simp [hx])
  refine (lawOddSet A0 n0 c0 f0 own0 a1 W hn0 hs0 hT).mono fun e W' ⟨he, hb⟩ => ?_
  subst he
  exact ⟨_, rfl, post_of_below (pa := p0 ++ ([])) (pv := []) hW' (fun _ _ _ => trodAll_mk1 (shut_bool Tryd.underlying4 true))
    (fun sp hsp => trodAll_mk2 (stays Tryd.laidOut (by kernel_rfl) (of_decide_eq_true (by kernel_rfl)) h0 hb hlt0 (fun x hx => hsp x (by simp [hx]))) (shut_int Tryd.underlying3 wa1)) (fun _ _ => rfl) (by simp) hb
    (ok_one (by kernel_rfl) rfl (okWide_bool_mk Tryd.underlying4 true))⟩
theorem isOddSet_k0 : (Rows.fnExactIsOddSetRow.wf (OpenSpec.ofChange Rows.fnExactIsOddSetSpec)) = true := by kernel_rfl
theorem isOddSet_k1 : (laidOutB Tryd.pinned.checked.prog) = true := by kernel_rfl
theorem isOddSet_k2 : (mapsRowed Tryd.pinned.checked.prog) = true := by kernel_rfl
theorem isOddSet_k3 : (Tryd.f4.params.all (Tryd.pinned.checked.prog.readableRec ·)) = true := by kernel_rfl
theorem isOddSet_k4 : (namedTie Tryd.pinned.checked.prog Rows.fnExactIsOddSetRow.named Rows.fnExactIsOddSetSpec.vars) = true := by kernel_rfl
theorem isOddSet_k5 : ((Rows.fnExactIsOddSetRow.stops == [])) = true := by kernel_rfl
theorem isOddSet_k6 : ((Tryd.pinned.checked.prog.stops == [])) = true := by kernel_rfl
theorem isOddSet_k7 : ((Rows.fnExactIsOddSetRow.knobs == [])) = true := by kernel_rfl
theorem isOddSet_k8 : ((Tryd.pinned.checked.prog.stopKnobs == [])) = true := by kernel_rfl
theorem isOddSet_k9 : ((Rows.fnExactIsOddSetRow.inPlace == Tryd.pinned.checked.prog.inPlace 4)) = true := by kernel_rfl
theorem isOddSet_k10 : ((Rows.fnExactIsOddSetRow.unfollowed == Tryd.pinned.checked.prog.unfollowed 4)) = true := by kernel_rfl
theorem isOddSet_k11 : ((Rows.fnExactIsOddSetRow.recurses == Tryd.pinned.checked.prog.recurses 4)) = true := by kernel_rfl
theorem isOddSet_k12 : ((Rows.fnExactIsOddSetRow.named == Tryd.pinned.checked.prog.varsNamed 4)) = true := by kernel_rfl
theorem isOddSet_k13 : ((Rows.fnExactIsOddSetRow.maps == (Tryd.f4.params.toList ++ Rows.fnExactIsOddSetSpec.plain.varTypes Tryd.pinned.checked.prog).any (Tryd.pinned.checked.prog.mapsRec ·))) = true := by kernel_rfl
theorem isOddSet_k14 : ((Rows.fnExactIsOddSetRow.ifaces == (Tryd.f4.params.toList ++ Rows.fnExactIsOddSetSpec.plain.varTypes Tryd.pinned.checked.prog).any (Tryd.pinned.checked.prog.ifacesRec ·))) = true := by kernel_rfl
theorem isOddSet_k15 : ((Rows.fnExactIsOddSetRow.mapsOut == Tryd.pinned.checked.prog.mapsAmong Tryd.f4.resultTypes.toList)) = true := by kernel_rfl
theorem isOddSet_k16 : ((Rows.fnExactIsOddSetRow.loops == (Tryd.f4.params.toList ++ Rows.fnExactIsOddSetSpec.plain.varTypes Tryd.pinned.checked.prog).any (Tryd.pinned.checked.prog.loopsFrom ·))) = true := by kernel_rfl
theorem isOddSet_k17 : ((Rows.fnExactIsOddSetRow.wideKeys == (Tryd.f4.params.toList ++ Rows.fnExactIsOddSetSpec.plain.varTypes Tryd.pinned.checked.prog ++ Tryd.f4.resultTypes.toList).any (Tryd.pinned.checked.prog.wideKeysFrom ·))) = true := by kernel_rfl
theorem isOddSet_k18 : (Rows.fnExactIsOddSetSpec.vars.all (Tryd.pinned.checked.prog.varReadable ·)) = true := by kernel_rfl
theorem isOddSet_k19 : (Tryd.f4.resultTypes.all (fun t => Tryd.pinned.checked.prog.readableRec t && decide (t < Tryd.pinned.checked.prog.types.size))) = true := by kernel_rfl
theorem isOddSet_k20 : ((Rows.fnExactIsOddSetRow.ifacesOut == Tryd.f4.resultTypes.toList.any (Tryd.pinned.checked.prog.ifacesRec ·))) = true := by kernel_rfl
theorem isOddSet_k21 : ((Rows.fnExactIsOddSetRow.loopsOut == Tryd.f4.resultTypes.toList.any (Tryd.pinned.checked.prog.loopsFrom ·))) = true := by kernel_rfl
theorem isOddSet_k22 : ((Rows.fnExactIsOddSetRow.plainKeys == Tryd.pinned.checked.prog.plainKeys)) = true := by kernel_rfl
theorem isOddSet_k23 : (Rows.fnExactIsOddSetRow.shortTexts.isNone) = true := by kernel_rfl
theorem isOddSet_k24 : (Tryd.pinned.checked.prog.stopsHeard) = true := by kernel_rfl
theorem isOddSet_k25 : (Tryd.pinned.checked.prog.mayEnter) = true := x_enter
theorem isOddSet_k26 : ((Rows.fnExactIsOddSetRow.lifted == Tryd.pinned.checked.prog.liftsFinal)) = true := by rw [x_lifts]; rfl
theorem isOddSet_k27 : ((Tryd.pinned.checked.prog.make == some Rows.fnExactIsOddSetRow.make)) = true := by rw [x_make]; rfl
theorem isOddSet_k28 : ((Rows.fnExactIsOddSetRow.kinds == (if Rows.fnExactIsOddSetRow.domain.isEmpty then [] else Tryd.f4.params.toList.map fun t => match Tryd.pinned.checked.prog.underlying t with | some (.int k) => some k | _ => none))) = true := by kernel_rfl
theorem isOddSet_k29 : ((Rows.fnExactIsOddSetRow.pinned == Rows.fnExactIsOddSetRow.pinnedBy)) = true := by kernel_rfl
theorem isOddSet_k30 : ((Rows.fnExactIsOddSetRow.veiled == (Tryd.f4.params.toList ++ Rows.fnExactIsOddSetSpec.plain.varTypes Tryd.pinned.checked.prog ++ Tryd.f4.resultTypes.toList).any (Tryd.pinned.checked.prog.veiledRec ·))) = true := by kernel_rfl
theorem isOddSet_k31 : (Rows.fnExactIsOddSetRow.veiledFits Tryd.pinned.checked.prog Tryd.f4.params.toList (Tryd.f4.params.toList ++ Rows.fnExactIsOddSetSpec.plain.varTypes Tryd.pinned.checked.prog ++ Tryd.f4.resultTypes.toList)) = true := by kernel_rfl
theorem isOddSet_pkg : decide (Check.packageOf Tryd.f4.name = "main") = false := by kernel_rfl
theorem isOddSet_inst : Func.isInstance Tryd.pinned.checked.prog Tryd.f4 Rows.fnExactIsOddSetRow.origin Rows.fnExactIsOddSetRow.targs := of_decide_eq_true (by kernel_rfl)
theorem isOddSet_wrap : Func.isWrapper Tryd.pinned.checked.prog Tryd.f4 Rows.fnExactIsOddSetRow.wrapper Rows.fnExactIsOddSetRow.mainSum := by
  unfold Func.isWrapper; rw [if_neg (of_decide_eq_false isOddSet_pkg)]; exact ⟨rfl, rfl⟩
set_option maxRecDepth 100000 in
theorem isOddSet_closed : joinedFacts Tryd.pinned.checked.prog 4 Tryd.f4 Rows.fnExactIsOddSetSpec Rows.fnExactIsOddSetRow = true :=
  (and_of (and_of (and_of (and_of (and_of (and_of (and_of (and_of (and_of (and_of (and_of (and_of (and_of (and_of (and_of (and_of (and_of (and_of (and_of (and_of (and_of (and_of (and_of (and_of (and_of (and_of (and_of (and_of (and_of (and_of (and_of isOddSet_k0 isOddSet_k1) isOddSet_k2) isOddSet_k3) isOddSet_k4) isOddSet_k5) isOddSet_k6) isOddSet_k7) isOddSet_k8) isOddSet_k9) isOddSet_k10) isOddSet_k11) isOddSet_k12) isOddSet_k13) isOddSet_k14) isOddSet_k15) isOddSet_k16) isOddSet_k17) isOddSet_k18) isOddSet_k19) isOddSet_k20) isOddSet_k21) isOddSet_k22) isOddSet_k23) isOddSet_k24) isOddSet_k25) isOddSet_k26) isOddSet_k27) isOddSet_k28) isOddSet_k29) isOddSet_k30) isOddSet_k31)
theorem isOddSet_holds : Rows.FnExactIsOddSetSaid :=
  OpenClaim.holds_of_wide 4 Tryd.f4 rfl rfl rfl rfl rfl rfl rfl ⟨rfl, rfl, rfl, rfl, rfl⟩ rfl rfl rfl rfl rfl (by kernel_rfl) Tryd.func4 isOddSet_closed
    isOddSet_inst isOddSet_wrap (fun os started H enc _ => isOddSet_lifted os started H enc)
theorem isOddSet_w3 : Tryd.prog.wantsStandIn 3 = false := by kernel_rfl
theorem isOddSet_w24 : Tryd.prog.wantsStandIn 24 = false := by kernel_rfl
theorem isOddSet_name : Tryd.prog.funcNamed "loop.example/g01146/laws.FnExactIsOddSet" = some 4 := by kernel_rfl
theorem isOddSet_card : Rows.FnExactIsOddSetCardSaid :=
  Claim7.holds_tied_plain_at .later [] [.data, .data] true (true, "2bf769ff8554f504ce872839c904d000c62d9f06a6746626841eabfbc026d0bc") false
    isOddSet_holds (fun _ h => by cases h) (by kernel_rfl) (fun _ h => by cases h) fnExactIsOddSet_row_tie rfl ⟨rfl, rfl⟩ (by kernel_rfl) rfl
    (fun f fn hf hfn => by
      obtain rfl : f = 4 := Option.some.inj (isOddSet_name.symm.trans hf) |>.symm
      obtain rfl : fn = Tryd.f4 := (Option.some.inj (Tryd.func4.symm.trans hfn)).symm
      exact ⟨by kernel_rfl, fun j t ht => by
        rw [Tryd.params4] at ht
        have hmem : t ∈ ([24, 3] : List TypeId) := by
          have := Array.mem_of_getElem? ht
          simpa using this
        simp only [List.mem_cons, List.not_mem_nil, or_false] at hmem
        rcases hmem with rfl | rfl
        · exact isOddSet_w24
        · exact isOddSet_w3⟩)
    (by kernel_rfl)
end Go.Proofs.YtcpbbpgiicakcaaDoor
