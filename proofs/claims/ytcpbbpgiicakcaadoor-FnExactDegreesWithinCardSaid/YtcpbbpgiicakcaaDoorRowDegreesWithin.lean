/-
DegreesWithin answers as its model at every graph and set, its answers share no memory, and the graph is as it was. The table of math/bits is tied to the program's text.
-/
import Derived.Test.YtcpbbpgiicakcaaDoorXM
import Derived.Test.YtcpbbpgiicakcaaDoorP
import Derived.Test.YtcpbbpgiicakcaaDoorQ1
import Derived.Test.YtcpbbpgiicakcaaDoorQ2
import Derived.Test.YtcpbbpgiicakcaaDoorTie
import Derived.Test.YtcpbbpgiicakcaaDoorCards
import Derived.SevenTiedAt
namespace Go.Proofs.YtcpbbpgiicakcaaDoor
open Go.ChangeShapes Go.WideShapes Go.ChangeAt Go.WideElems Go.RowKit
set_option maxRecDepth 100000 in
theorem degreesWithin_lifted (os : Os) (started : os.Started) (H : Type) (enc : TypeId × Value → H) :
    ReturnsInHanded {} Tryd.checked os 5 .any (fun w args => (Rows.fnExactDegreesWithinSpec.pre enc Tryd.prog Tryd.f5 [] false w args ∧ laidMetH Tryd.prog laidL w) ∧ sizedMet enc Tryd.prog Tryd.f5 (OpenSpec.ofChange Rows.fnExactDegreesWithinSpec) false w args)
      (Rows.fnExactDegreesWithinSpec.post enc Tryd.prog Tryd.f5 false true false false) := by
  refine returnsInHanded_of_change_and (C := Tryd.checked) (X := fun w _ => laidMetH Tryd.prog laidL w) (fun _ _ _ hh h => h.of_heap hh) Tryd.own started (by kernel_rfl) Tryd.func5
    (ChangeSpec.witness_shaped (enc := enc) (C := Tryd.checked) (os := os) (X := fun w _ => laidMetH Tryd.prog laidL w) false (World.doorLaid Tryd.prog 400 os) #[.agg #[.slice none 0 0, .bool false], .int .i64 0] 8 rfl (World.shaped_of_RefB (by kernel_rfl) (by kernel_rfl)) (by kernel_rfl) (by kernel_rfl) (by kernel_rfl) (door_met os _)) ?_
  intro W base args ds gs before hval0 hW _ _ hL _
  have hval : ∀ (j : Nat) t v, Tryd.f5.params[j]? = some t → args[j]? = some v → Value.okWide Tryd.prog W .any base t v := hval0
  have hW' := hW
  obtain ⟨p, q, hA0, hV, rfl, hfz, hnd⟩ := hW
  have hA : DataW.TrodAll enc Tryd.prog W 0 (fun _ => true) true Tryd.f5.params.toList args.toList ds p := hA0
  rw [Tryd.params5] at hA hval
  obtain ⟨v0, v1, d0, d1, p0, p1, rfl, rfl, rfl, h0, h1⟩ := trodAll_two hA
  obtain ⟨rfl, rfl⟩ := trodVars_none hV
  obtain ⟨A0, n0, c0, f0, own0, rfl, hn0, hs0, hw0⟩ := open_graph (hval 0 24 v0 rfl rfl) h0
  obtain ⟨a1, rfl, rfl, rfl, wa1⟩ := open_int Tryd.underlying3 (hval 1 3 v1 rfl rfl) h1
  have hT := tab_of_laid hL
  clear hA0 hval0
  simp only [List.append_nil] at hW'
  have hlt0 : ∀ x ∈ p0, x.block < W.heap.size := fun x hx => hW'.lt x (by simp [hx])
  refine (lawDegrees A0 n0 c0 f0 own0 a1 W hn0 hs0 hT).mono fun e W' ⟨he, hb⟩ => ?_
  subst he
  exact ⟨_, rfl, post_of_below (pa := p0 ++ ([])) (pv := []) hW' (fun _ _ _ => trodAll_mk1 (shut_bool Tryd.underlying4 true))
    (fun sp hsp => trodAll_mk2 (stays Tryd.laidOut (by kernel_rfl) (of_decide_eq_true (by kernel_rfl)) h0 hb hlt0 (fun x hx => hsp x (by simp [hx]))) (shut_int Tryd.underlying3 wa1)) (fun _ _ => rfl) (by simp) hb
    (ok_one (by kernel_rfl) rfl (okWide_bool_mk Tryd.underlying4 true))⟩
theorem degreesWithin_k0 : (Rows.fnExactDegreesWithinRow.wf (OpenSpec.ofChange Rows.fnExactDegreesWithinSpec)) = true := by kernel_rfl
theorem degreesWithin_k1 : (laidOutB Tryd.pinned.checked.prog) = true := by kernel_rfl
theorem degreesWithin_k2 : (mapsRowed Tryd.pinned.checked.prog) = true := by kernel_rfl
theorem degreesWithin_k3 : (Tryd.f5.params.all (Tryd.pinned.checked.prog.readableRec ·)) = true := by kernel_rfl
theorem degreesWithin_k4 : (namedTie Tryd.pinned.checked.prog Rows.fnExactDegreesWithinRow.named Rows.fnExactDegreesWithinSpec.vars) = true := by kernel_rfl
theorem degreesWithin_k5 : ((Rows.fnExactDegreesWithinRow.stops == [])) = true := by kernel_rfl
theorem degreesWithin_k6 : ((Tryd.pinned.checked.prog.stops == [])) = true := by kernel_rfl
theorem degreesWithin_k7 : ((Rows.fnExactDegreesWithinRow.knobs == [])) = true := by kernel_rfl
theorem degreesWithin_k8 : ((Tryd.pinned.checked.prog.stopKnobs == [])) = true := by kernel_rfl
theorem degreesWithin_k9 : ((Rows.fnExactDegreesWithinRow.inPlace == Tryd.pinned.checked.prog.inPlace 5)) = true := by kernel_rfl
theorem degreesWithin_k10 : ((Rows.fnExactDegreesWithinRow.unfollowed == Tryd.pinned.checked.prog.unfollowed 5)) = true := by kernel_rfl
theorem degreesWithin_k11 : ((Rows.fnExactDegreesWithinRow.recurses == Tryd.pinned.checked.prog.recurses 5)) = true := by kernel_rfl
theorem degreesWithin_k12 : ((Rows.fnExactDegreesWithinRow.named == Tryd.pinned.checked.prog.varsNamed 5)) = true := by kernel_rfl
theorem degreesWithin_k13 : ((Rows.fnExactDegreesWithinRow.maps == (Tryd.f5.params.toList ++ Rows.fnExactDegreesWithinSpec.plain.varTypes Tryd.pinned.checked.prog).any (Tryd.pinned.checked.prog.mapsRec ·))) = true := by kernel_rfl
theorem degreesWithin_k14 : ((Rows.fnExactDegreesWithinRow.ifaces == (Tryd.f5.params.toList ++ Rows.fnExactDegreesWithinSpec.plain.varTypes Tryd.pinned.checked.prog).any (Tryd.pinned.checked.prog.ifacesRec ·))) = true := by kernel_rfl
theorem degreesWithin_k15 : ((Rows.fnExactDegreesWithinRow.mapsOut == Tryd.pinned.checked.prog.mapsAmong Tryd.f5.resultTypes.toList)) = true := by kernel_rfl
theorem degreesWithin_k16 : ((Rows.fnExactDegreesWithinRow.loops == (Tryd.f5.params.toList ++ Rows.fnExactDegreesWithinSpec.plain.varTypes Tryd.pinned.checked.prog).any (Tryd.pinned.checked.prog.loopsFrom ·))) = true := by kernel_rfl
theorem degreesWithin_k17 : ((Rows.fnExactDegreesWithinRow.wideKeys == (Tryd.f5.params.toList ++ Rows.fnExactDegreesWithinSpec.plain.varTypes Tryd.pinned.checked.prog ++ Tryd.f5.resultTypes.toList).any (Tryd.pinned.checked.prog.wideKeysFrom ·))) = true := by kernel_rfl
theorem degreesWithin_k18 : (Rows.fnExactDegreesWithinSpec.vars.all (Tryd.pinned.checked.prog.varReadable ·)) = true := by kernel_rfl
theorem degreesWithin_k19 : (Tryd.f5.resultTypes.all (fun t => Tryd.pinned.checked.prog.readableRec t && decide (t < Tryd.pinned.checked.prog.types.size))) = true := by kernel_rfl
theorem degreesWithin_k20 : ((Rows.fnExactDegreesWithinRow.ifacesOut == Tryd.f5.resultTypes.toList.any (Tryd.pinned.checked.prog.ifacesRec ·))) = true := by kernel_rfl
theorem degreesWithin_k21 : ((Rows.fnExactDegreesWithinRow.loopsOut == Tryd.f5.resultTypes.toList.any (Tryd.pinned.checked.prog.loopsFrom ·))) = true := by kernel_rfl
theorem degreesWithin_k22 : ((Rows.fnExactDegreesWithinRow.plainKeys == Tryd.pinned.checked.prog.plainKeys)) = true := by kernel_rfl
theorem degreesWithin_k23 : (Rows.fnExactDegreesWithinRow.shortTexts.isNone) = true := by kernel_rfl
theorem degreesWithin_k24 : (Tryd.pinned.checked.prog.stopsHeard) = true := by kernel_rfl
theorem degreesWithin_k25 : (Tryd.pinned.checked.prog.mayEnter) = true := x_enter
theorem degreesWithin_k26 : ((Rows.fnExactDegreesWithinRow.lifted == Tryd.pinned.checked.prog.liftsFinal)) = true := by rw [x_lifts]; rfl
theorem degreesWithin_k27 : ((Tryd.pinned.checked.prog.make == some Rows.fnExactDegreesWithinRow.make)) = true := by rw [x_make]; rfl
theorem degreesWithin_k28 : ((Rows.fnExactDegreesWithinRow.kinds == (if Rows.fnExactDegreesWithinRow.domain.isEmpty then [] else Tryd.f5.params.toList.map fun t => match Tryd.pinned.checked.prog.underlying t with | some (.int k) => some k | _ => none))) = true := by kernel_rfl
theorem degreesWithin_k29 : ((Rows.fnExactDegreesWithinRow.pinned == Rows.fnExactDegreesWithinRow.pinnedBy)) = true := by kernel_rfl
theorem degreesWithin_k30 : ((Rows.fnExactDegreesWithinRow.veiled == (Tryd.f5.params.toList ++ Rows.fnExactDegreesWithinSpec.plain.varTypes Tryd.pinned.checked.prog ++ Tryd.f5.resultTypes.toList).any (Tryd.pinned.checked.prog.veiledRec ·))) = true := by kernel_rfl
theorem degreesWithin_k31 : (Rows.fnExactDegreesWithinRow.veiledFits Tryd.pinned.checked.prog Tryd.f5.params.toList (Tryd.f5.params.toList ++ Rows.fnExactDegreesWithinSpec.plain.varTypes Tryd.pinned.checked.prog ++ Tryd.f5.resultTypes.toList)) = true := by kernel_rfl
theorem degreesWithin_pkg : decide (Check.packageOf Tryd.f5.name = "main") = false := by kernel_rfl
theorem degreesWithin_inst : Func.isInstance Tryd.pinned.checked.prog Tryd.f5 Rows.fnExactDegreesWithinRow.origin Rows.fnExactDegreesWithinRow.targs := of_decide_eq_true (by kernel_rfl)
theorem degreesWithin_wrap : Func.isWrapper Tryd.pinned.checked.prog Tryd.f5 Rows.fnExactDegreesWithinRow.wrapper Rows.fnExactDegreesWithinRow.mainSum := by
  unfold Func.isWrapper; rw [if_neg (of_decide_eq_false degreesWithin_pkg)]; exact ⟨rfl, rfl⟩
set_option maxRecDepth 100000 in
theorem degreesWithin_closed : joinedFacts Tryd.pinned.checked.prog 5 Tryd.f5 Rows.fnExactDegreesWithinSpec Rows.fnExactDegreesWithinRow = true :=
  (and_of (and_of (and_of (and_of (and_of (and_of (and_of (and_of (and_of (and_of (and_of (and_of (and_of (and_of (and_of (and_of (and_of (and_of (and_of (and_of (and_of (and_of (and_of (and_of (and_of (and_of (and_of (and_of (and_of (and_of (and_of degreesWithin_k0 degreesWithin_k1) degreesWithin_k2) degreesWithin_k3) degreesWithin_k4) degreesWithin_k5) degreesWithin_k6) degreesWithin_k7) degreesWithin_k8) degreesWithin_k9) degreesWithin_k10) degreesWithin_k11) degreesWithin_k12) degreesWithin_k13) degreesWithin_k14) degreesWithin_k15) degreesWithin_k16) degreesWithin_k17) degreesWithin_k18) degreesWithin_k19) degreesWithin_k20) degreesWithin_k21) degreesWithin_k22) degreesWithin_k23) degreesWithin_k24) degreesWithin_k25) degreesWithin_k26) degreesWithin_k27) degreesWithin_k28) degreesWithin_k29) degreesWithin_k30) degreesWithin_k31)
theorem degreesWithin_holds : Rows.FnExactDegreesWithinSaid :=
  OpenClaim.holds_of_wide 5 Tryd.f5 rfl rfl rfl rfl rfl rfl rfl ⟨rfl, rfl, rfl, rfl, rfl⟩ rfl rfl rfl rfl rfl (by kernel_rfl) Tryd.func5 degreesWithin_closed
    degreesWithin_inst degreesWithin_wrap (fun os started H enc _ => degreesWithin_lifted os started H enc)
theorem degreesWithin_w3 : Tryd.prog.wantsStandIn 3 = false := by kernel_rfl
theorem degreesWithin_w24 : Tryd.prog.wantsStandIn 24 = false := by kernel_rfl
theorem degreesWithin_name : Tryd.prog.funcNamed "loop.example/g01146/laws.FnExactDegreesWithin" = some 5 := by kernel_rfl
theorem degreesWithin_card : Rows.FnExactDegreesWithinCardSaid :=
  Claim7.holds_tied_plain_at .later [] [.data, .data] true (true, "2bf769ff8554f504ce872839c904d000c62d9f06a6746626841eabfbc026d0bc") false
    degreesWithin_holds (fun _ h => by cases h) (by kernel_rfl) (fun _ h => by cases h) fnExactDegreesWithin_row_tie rfl ⟨rfl, rfl⟩ (by kernel_rfl) rfl
    (fun f fn hf hfn => by
      obtain rfl : f = 5 := Option.some.inj (degreesWithin_name.symm.trans hf) |>.symm
      obtain rfl : fn = Tryd.f5 := (Option.some.inj (Tryd.func5.symm.trans hfn)).symm
      exact ⟨by kernel_rfl, fun j t ht => by
        rw [Tryd.params5] at ht
        have hmem : t ∈ ([24, 3] : List TypeId) := by
          have := Array.mem_of_getElem? ht
          simpa using this
        simp only [List.mem_cons, List.not_mem_nil, or_false] at hmem
        rcases hmem with rfl | rfl
        · exact degreesWithin_w24
        · exact degreesWithin_w3⟩)
    (by kernel_rfl)
end Go.Proofs.YtcpbbpgiicakcaaDoor
