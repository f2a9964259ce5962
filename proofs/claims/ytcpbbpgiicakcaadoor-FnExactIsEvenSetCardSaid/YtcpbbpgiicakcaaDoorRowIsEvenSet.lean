/-
IsEvenSet answers as its model at every graph and set, and the graph is as it was. The table of math/bits is tied to the program's text.
-/
import Derived.Test.YtcpbbpgiicakcaaDoorXL
import Derived.Test.YtcpbbpgiicakcaaDoorP
import Derived.Test.YtcpbbpgiicakcaaDoorQ1
import Derived.Test.YtcpbbpgiicakcaaDoorQ2
import Derived.Test.YtcpbbpgiicakcaaDoorTie
import Derived.Test.YtcpbbpgiicakcaaDoorCards
import Derived.SevenTiedAt
namespace Go.Proofs.YtcpbbpgiicakcaaDoor
open Go.ChangeShapes Go.WideShapes Go.ChangeAt Go.WideElems Go.RowKit
set_option maxRecDepth 100000 in
theorem isEvenSet_lifted (os : Os) (started : os.Started) (H : Type) (enc : TypeId × Value → H) :
    ReturnsInHanded {} Tryd.checked os 3 .any (fun w args => (Rows.fnExactIsEvenSetSpec.pre enc Tryd.prog Tryd.f3 [] false w args ∧ laidMetH Tryd.prog laidL w) ∧ sizedMet enc Tryd.prog Tryd.f3 (OpenSpec.ofChange Rows.fnExactIsEvenSetSpec) false w args)
      (Rows.fnExactIsEvenSetSpec.post enc Tryd.prog Tryd.f3 false true false false) := by
  refine returnsInHanded_of_change_and (C := Tryd.checked) (X := fun w _ => laidMetH Tryd.prog laidL w) (fun _ _ _ hh h => h.of_heap hh) Tryd.own started (by kernel_rfl) Tryd.func3
    (ChangeSpec.witness_shaped (enc := enc) (C := Tryd.checked) (os := os) (X := fun w _ => laidMetH Tryd.prog laidL w) false (World.doorLaid Tryd.prog 400 os) #[.agg #[.slice none 0 0, .bool false], .int .i64 0] 8 rfl (World.shaped_of_RefB (by kernel_rfl) (by kernel_rfl)) (by kernel_rfl) (by kernel_rfl) (by kernel_rfl) (door_met os _)) ?_
  intro W base args ds gs before hval0 hW _ _ hL _
  have hval : ∀ (j : Nat) t v, Tryd.f3.params[j]? = some t → args[j]? = some v → Value.okWide Tryd.prog W .any base t v := hval0
  have hW' := hW
  obtain ⟨p, q, hA0, hV, rfl, hfz, hnd⟩ := hW
  have hA : DataW.TrodAll enc Tryd.prog W 0 (fun _ => true) true Tryd.f3.params.toList args.toList ds p := hA0
  rw [Tryd.params3] at hA hval
  obtain ⟨v0, v1, d0, d1, p0, p1, rfl, rfl, rfl, h0, h1⟩ := trodAll_two hA
  obtain ⟨rfl, rfl⟩ := trodVars_none hV
  obtain ⟨A0, n0, c0, f0, own0, rfl, hn0, hs0, hw0⟩ := open_graph (hval 0 24 v0 rfl rfl) h0
  obtain ⟨a1, rfl, rfl, rfl, wa1⟩ := open_int Tryd.underlying3 (hval 1 3 v1 rfl rfl) h1
  have hT := tab_of_laid hL
  clear hA0 hval0
  simp only [List.append_nil] at hW'
  have hlt0 : ∀ x ∈ p0, x.block < W.heap.size := fun x hx => hW'.lt x (by simp [hx])
  refine (lawEvenSet A0 n0 c0 f0 own0 a1 W hn0 hs0 hT).mono fun e W' ⟨he, hb⟩ => ?_
  subst he
  exact ⟨_, rfl, post_of_below (pa := p0 ++ ([])) (pv := []) hW' (fun _ _ _ => trodAll_mk1 (shut_bool Tryd.underlying4 true))
    (fun sp hsp => trodAll_mk2 (stays Tryd.laidOut (by kernel_rfl) (of_decide_eq_true (by kernel_rfl)) h0 hb hlt0 (fun x hx => hsp x (by simp [hx]))) (shut_int Tryd.underlying3 wa1)) (fun _ _ => rfl) (by simp) hb
    (ok_one (by kernel_rfl) rfl (okWide_bool_mk Tryd.underlying4 true))⟩
theorem isEvenSet_k0 : (Rows.fnExactIsEvenSetRow.wf (OpenSpec.ofChange Rows.fnExactIsEvenSetSpec)) = true := by kernel_rfl
theorem isEvenSet_k1 : (laidOutB Tryd.pinned.checked.prog) = true := by kernel_rfl
theorem isEvenSet_k2 : (mapsRowed Tryd.pinned.checked.prog) = true := by kernel_rfl
theorem isEvenSet_k3 : (Tryd.f3.params.all (Tryd.pinned.checked.prog.readableRec ·)) = true := by kernel_rfl
theorem isEvenSet_k4 : (namedTie Tryd.pinned.checked.prog Rows.fnExactIsEvenSetRow.named Rows.fnExactIsEvenSetSpec.vars) = true := by kernel_rfl
theorem isEvenSet_k5 : ((Rows.fnExactIsEvenSetRow.stops == [])) = true := by kernel_rfl
theorem isEvenSet_k6 : ((Tryd.pinned.checked.prog.stops == [])) = true := by kernel_rfl
theorem isEvenSet_k7 : ((Rows.fnExactIsEvenSetRow.knobs == [])) = true := by kernel_rfl
theorem isEvenSet_k8 : ((Tryd.pinned.checked.prog.stopKnobs == [])) = true := by kernel_rfl
theorem isEvenSet_k9 : ((Rows.fnExactIsEvenSetRow.inPlace == Tryd.pinned.checked.prog.inPlace 3)) = true := by kernel_rfl
theorem isEvenSet_k10 : ((Rows.fnExactIsEvenSetRow.unfollowed == Tryd.pinned.checked.prog.unfollowed 3)) = true := by kernel_rfl
theorem isEvenSet_k11 : ((Rows.fnExactIsEvenSetRow.recurses == Tryd.pinned.checked.prog.recurses 3)) = true := by kernel_rfl
theorem isEvenSet_k12 : ((Rows.fnExactIsEvenSetRow.named == Tryd.pinned.checked.prog.varsNamed 3)) = true := by kernel_rfl
theorem isEvenSet_k13 : ((Rows.fnExactIsEvenSetRow.maps == (Tryd.f3.params.toList ++ Rows.fnExactIsEvenSetSpec.plain.varTypes Tryd.pinned.checked.prog).any (Tryd.pinned.checked.prog.mapsRec ·))) = true := by kernel_rfl
theorem isEvenSet_k14 : ((Rows.fnExactIsEvenSetRow.ifaces == (Tryd.f3.params.toList ++ Rows.fnExactIsEvenSetSpec.plain.varTypes Tryd.pinned.checked.prog).any (Tryd.pinned.checked.prog.ifacesRec ·))) = true := by kernel_rfl
theorem isEvenSet_k15 : ((Rows.fnExactIsEvenSetRow.mapsOut == Tryd.pinned.checked.prog.mapsAmong Tryd.f3.resultTypes.toList)) = true := by kernel_rfl
theorem isEvenSet_k16 : ((Rows.fnExactIsEvenSetRow.loops == (Tryd.f3.params.toList ++ Rows.fnExactIsEvenSetSpec.plain.varTypes Tryd.pinned.checked.prog).any (Tryd.pinned.checked.prog.loopsFrom ·))) = true := by kernel_rfl
theorem isEvenSet_k17 : ((Rows.fnExactIsEvenSetRow.wideKeys == (Tryd.f3.params.toList ++ Rows.fnExactIsEvenSetSpec.plain.varTypes Tryd.pinned.checked.prog ++ Tryd.f3.resultTypes.toList).any (Tryd.pinned.checked.prog.wideKeysFrom ·))) = true := by kernel_rfl
theorem isEvenSet_k18 : (Rows.fnExactIsEvenSetSpec.vars.all (Tryd.pinned.checked.prog.varReadable ·)) = true := by kernel_rfl
theorem isEvenSet_k19 : (Tryd.f3.resultTypes.all (fun t => Tryd.pinned.checked.prog.readableRec t && decide (t < Tryd.pinned.checked.prog.types.size))) = true := by kernel_rfl
theorem isEvenSet_k20 : ((Rows.fnExactIsEvenSetRow.ifacesOut == Tryd.f3.resultTypes.toList.any (Tryd.pinned.checked.prog.ifacesRec ·))) = true := by kernel_rfl
theorem isEvenSet_k21 : ((Rows.fnExactIsEvenSetRow.loopsOut == Tryd.f3.resultTypes.toList.any (Tryd.pinned.checked.prog.loopsFrom ·))) = true := by kernel_rfl
theorem isEvenSet_k22 : ((Rows.fnExactIsEvenSetRow.plainKeys == Tryd.pinned.checked.prog.plainKeys)) = true := by kernel_rfl
theorem isEvenSet_k23 : (Rows.fnExactIsEvenSetRow.shortTexts.isNone) = true := by kernel_rfl
theorem isEvenSet_k24 : (Tryd.pinned.checked.prog.stopsHeard) = true := by kernel_rfl
theorem isEvenSet_k25 : (Tryd.pinned.checked.prog.mayEnter) = true := x_enter
theorem isEvenSet_k26 : ((Rows.fnExactIsEvenSetRow.lifted == Tryd.pinned.checked.prog.liftsFinal)) = true := by rw [x_lifts]; rfl
theorem isEvenSet_k27 : ((Tryd.pinned.checked.prog.make == some Rows.fnExactIsEvenSetRow.make)) = true := by rw [x_make]; rfl
theorem isEvenSet_k28 : ((Rows.fnExactIsEvenSetRow.kinds == (if Rows.fnExactIsEvenSetRow.domain.isEmpty then [] else Tryd.f3.params.toList.map fun t => match Tryd.pinned.checked.prog.underlying t with | some (.int k) => some k | _ => none))) = true := by kernel_rfl
theorem isEvenSet_k29 : ((Rows.fnExactIsEvenSetRow.pinned == Rows.fnExactIsEvenSetRow.pinnedBy)) = true := by kernel_rfl
theorem isEvenSet_k30 : ((Rows.fnExactIsEvenSetRow.veiled == (Tryd.f3.params.toList ++ Rows.fnExactIsEvenSetSpec.plain.varTypes Tryd.pinned.checked.prog ++ Tryd.f3.resultTypes.toList).any (Tryd.pinned.checked.prog.veiledRec ·))) = true := by kernel_rfl
theorem isEvenSet_k31 : (Rows.fnExactIsEvenSetRow.veiledFits Tryd.pinned.checked.prog Tryd.f3.params.toList (Tryd.f3.params.toList ++ Rows.fnExactIsEvenSetSpec.plain.varTypes Tryd.pinned.checked.prog ++ Tryd.f3.resultTypes.toList)) = true := by kernel_rfl
theorem isEvenSet_pkg : decide (Check.packageOf Tryd.f3.name = "main") = false := by kernel_rfl
theorem isEvenSet_inst : Func.isInstance Tryd.pinned.checked.prog Tryd.f3 Rows.fnExactIsEvenSetRow.origin Rows.fnExactIsEvenSetRow.targs := of_decide_eq_true (by kernel_rfl)
theorem isEvenSet_wrap : Func.isWrapper Tryd.pinned.checked.prog Tryd.f3 Rows.fnExactIsEvenSetRow.wrapper Rows.fnExactIsEvenSetRow.mainSum := by
  unfold Func.isWrapper; rw [if_neg (of_decide_eq_false isEvenSet_pkg)]; exact ⟨rfl, rfl⟩
set_option maxRecDepth 100000 in
theorem isEvenSet_closed : joinedFacts Tryd.pinned.checked.prog 3 Tryd.f3 Rows.fnExactIsEvenSetSpec Rows.fnExactIsEvenSetRow = true :=
  (and_of (and_of (and_of (and_of (and_of (and_of (and_of (and_of (and_of (and_of (and_of (and_of (and_of (and_of (and_of (and_of (and_of (and_of (and_of (and_of (and_of (and_of (and_of (and_of (and_of (and_of (and_of (and_of (and_of (and_of (and_of isEvenSet_k0 isEvenSet_k1) isEvenSet_k2) isEvenSet_k3) isEvenSet_k4) isEvenSet_k5) isEvenSet_k6) isEvenSet_k7) isEvenSet_k8) isEvenSet_k9) isEvenSet_k10) isEvenSet_k11) isEvenSet_k12) isEvenSet_k13) isEvenSet_k14) isEvenSet_k15) isEvenSet_k16) isEvenSet_k17) isEvenSet_k18) isEvenSet_k19) isEvenSet_k20) isEvenSet_k21) isEvenSet_k22) isEvenSet_k23) isEvenSet_k24) isEvenSet_k25) isEvenSet_k26) isEvenSet_k27) isEvenSet_k28) isEvenSet_k29) isEvenSet_k30) isEvenSet_k31)
theorem isEvenSet_holds : Rows.FnExactIsEvenSetSaid :=
  OpenClaim.holds_of_wide 3 Tryd.f3 rfl rfl rfl rfl rfl rfl rfl ⟨rfl, rfl, rfl, rfl, rfl⟩ rfl rfl rfl rfl rfl (by kernel_rfl) Tryd.func3 isEvenSet_closed
    isEvenSet_inst isEvenSet_wrap (fun os started H enc _ => isEvenSet_lifted os started H enc)
theorem isEvenSet_w3 : Tryd.prog.wantsStandIn 3 = false := by kernel_rfl
theorem isEvenSet_w24 : Tryd.prog.wantsStandIn 24 = false := by kernel_rfl
theorem isEvenSet_name : Tryd.prog.funcNamed "loop.example/g01146/laws.FnExactIsEvenSet" = some 3 := by kernel_rfl
theorem isEvenSet_card : Rows.FnExactIsEvenSetCardSaid :=
  Claim7.holds_tied_plain_at .later [] [.data, .data] true (true, "2bf769ff8554f504ce872839c904d000c62d9f06a6746626841eabfbc026d0bc") false
    isEvenSet_holds (fun _ h => by cases h) (by kernel_rfl) (fun _ h => by cases h) fnExactIsEvenSet_row_tie rfl ⟨rfl, rfl⟩ (by kernel_rfl) rfl
    (fun f fn hf hfn => by
      obtain rfl : f = 3 := Option.some.inj (isEvenSet_name.symm.trans hf) |>.symm
      obtain rfl : fn = Tryd.f3 := (Option.some.inj (Tryd.func3.symm.trans hfn)).symm
      exact ⟨by kernel_rfl, fun j t ht => by
        rw [Tryd.params3] at ht
        have hmem : t ∈ ([24, 3] : List TypeId) := by
          have := Array.mem_of_getElem? ht
          simpa using this
        simp only [List.mem_cons, List.not_mem_nil, or_false] at hmem
        rcases hmem with rfl | rfl
        · exact isEvenSet_w24
        · exact isEvenSet_w3⟩)
    (by kernel_rfl)
end Go.Proofs.YtcpbbpgiicakcaaDoor
