/-
PressAll answers as its model at every graph and two numbers. The table of math/bits is tied to the program's text.
-/
import Derived.Test.YtggcjmdadomlaaaDoorEE
import Derived.Test.YtggcjmdadomlaaaDoorP
import Derived.Test.YtggcjmdadomlaaaDoorQ1
import Derived.Test.YtggcjmdadomlaaaDoorQ2
import Derived.Test.YtggcjmdadomlaaaDoorTie
import Derived.Test.YtggcjmdadomlaaaDoorCards
import Derived.SevenTiedAt
namespace Go.Proofs.YtggcjmdadomlaaaDoor
open Go.ChangeShapes Go.WideShapes Go.ChangeAt Go.WideElems Go.RowKit
set_option maxRecDepth 100000 in
theorem pressAll_lifted (os : Os) (started : os.Started) (H : Type) (enc : TypeId × Value → H) :
    ReturnsInHanded {} Tryd.checked os 4 .any (fun w args => (Rows.fnExactPressAllSpec.pre enc Tryd.prog Tryd.f4 [] false w args ∧ laidMetH Tryd.prog laidL w) ∧ sizedMet enc Tryd.prog Tryd.f4 (OpenSpec.ofChange Rows.fnExactPressAllSpec) false w args)
      (Rows.fnExactPressAllSpec.post enc Tryd.prog Tryd.f4 false true false false) := by
  refine returnsInHanded_of_change_and (C := Tryd.checked) (X := fun w _ => laidMetH Tryd.prog laidL w) (fun _ _ _ hh h => h.of_heap hh) Tryd.own started (by kernel_rfl) Tryd.func4
    (ChangeSpec.witness_shaped (enc := enc) (C := Tryd.checked) (os := os) (X := fun w _ => laidMetH Tryd.prog laidL w) false (World.doorLaid Tryd.prog 400 os) #[.agg #[.slice none 0 0, .bool false], .int .i64 0, .int .i64 0] 8 rfl (World.shaped_of_RefB (by kernel_rfl) (by kernel_rfl)) (by kernel_rfl) (by kernel_rfl) (by kernel_rfl) (door_met os _)) ?_
  intro W base args ds gs before hval0 hW _ _ hL _
  have hval : ∀ (j : Nat) t v, Tryd.f4.params[j]? = some t → args[j]? = some v → Value.okWide Tryd.prog W .any base t v := hval0
  have hW' := hW
  obtain ⟨p, q, hA0, hV, rfl, hfz, hnd⟩ := hW
  have hA : DataW.TrodAll enc Tryd.prog W 0 (fun _ => true) true Tryd.f4.params.toList args.toList ds p := hA0
  rw [Tryd.params4] at hA hval
  obtain ⟨v0, v1, v2, d0, d1, d2, p0, p1, p2, rfl, rfl, rfl, h0, h1, h2⟩ := trodAll_three hA
  obtain ⟨rfl, rfl⟩ := trodVars_none hV
  obtain ⟨A0, n0, c0, f0, own0, rfl, hn0, hs0, hw0⟩ := open_graph (hval 0 24 v0 rfl rfl) h0
  obtain ⟨a1, rfl, rfl, rfl, wa1⟩ := open_int Tryd.underlying3 (hval 1 3 v1 rfl rfl) h1
  obtain ⟨a2, rfl, rfl, rfl, wa2⟩ := open_int Tryd.underlying3 (hval 2 3 v2 rfl rfl) h2
  have hT := tab_of_laid hL
  clear hA0 hval0
  simp only [List.append_nil] at hW'
  have hlt0 : ∀ x ∈ p0, x.block < W.heap.size := fun x hx => hW'.lt x (by simp [hx])
  refine (lawPressAll A0 n0 c0 f0 own0 a1 a2 W hn0 hs0 hT).mono fun e W' ⟨he, hb⟩ => ?_
  subst he
  exact ⟨_, rfl, post_of_below (pa := p0 ++ ([] ++ ([]))) (pv := []) hW' (fun _ _ _ => trodAll_mk1 (shut_bool Tryd.underlying4 true))
    (fun sp hsp => trodAll_mk3 (stays Tryd.laidOut (by kernel_rfl) (of_decide_eq_true (by kernel_rfl)) h0 hb hlt0 (fun x hx => hsp x (by simp [hx]))) (shut_int Tryd.underlying3 wa1) (shut_int Tryd.underlying3 wa2)) (fun _ _ => rfl) (by simp) hb
    (ok_one (by kernel_rfl) rfl (okWide_bool_mk Tryd.underlying4 true))⟩
theorem pressAll_k0 : (Rows.fnExactPressAllRow.wf (OpenSpec.ofChange Rows.fnExactPressAllSpec)) = true := by kernel_rfl
theorem pressAll_k1 : (laidOutB Tryd.pinned.checked.prog) = true := by kernel_rfl
theorem pressAll_k2 : (mapsRowed Tryd.pinned.checked.prog) = true := by kernel_rfl
theorem pressAll_k3 : (Tryd.f4.params.all (Tryd.pinned.checked.prog.readableRec ·)) = true := by kernel_rfl
theorem pressAll_k4 : (namedTie Tryd.pinned.checked.prog Rows.fnExactPressAllRow.named Rows.fnExactPressAllSpec.vars) = true := by kernel_rfl
theorem pressAll_k5 : ((Rows.fnExactPressAllRow.stops == [])) = true := by kernel_rfl
theorem pressAll_k6 : ((Tryd.pinned.checked.prog.stops == [])) = true := by kernel_rfl
theorem pressAll_k7 : ((Rows.fnExactPressAllRow.knobs == [])) = true := by kernel_rfl
theorem pressAll_k8 : ((Tryd.pinned.checked.prog.stopKnobs == [])) = true := by kernel_rfl
theorem pressAll_k9 : ((Rows.fnExactPressAllRow.inPlace == Tryd.pinned.checked.prog.inPlace 4)) = true := by kernel_rfl
theorem pressAll_k10 : ((Rows.fnExactPressAllRow.unfollowed == Tryd.pinned.checked.prog.unfollowed 4)) = true := by kernel_rfl
theorem pressAll_k11 : ((Rows.fnExactPressAllRow.recurses == Tryd.pinned.checked.prog.recurses 4)) = true := by kernel_rfl
theorem pressAll_k12 : ((Rows.fnExactPressAllRow.named == Tryd.pinned.checked.prog.varsNamed 4)) = true := by kernel_rfl
theorem pressAll_k13 : ((Rows.fnExactPressAllRow.maps == (Tryd.f4.params.toList ++ Rows.fnExactPressAllSpec.plain.varTypes Tryd.pinned.checked.prog).any (Tryd.pinned.checked.prog.mapsRec ·))) = true := by kernel_rfl
theorem pressAll_k14 : ((Rows.fnExactPressAllRow.ifaces == (Tryd.f4.params.toList ++ Rows.fnExactPressAllSpec.plain.varTypes Tryd.pinned.checked.prog).any (Tryd.pinned.checked.prog.ifacesRec ·))) = true := by kernel_rfl
theorem pressAll_k15 : ((Rows.fnExactPressAllRow.mapsOut == Tryd.pinned.checked.prog.mapsAmong Tryd.f4.resultTypes.toList)) = true := by kernel_rfl
theorem pressAll_k16 : ((Rows.fnExactPressAllRow.loops == (Tryd.f4.params.toList ++ Rows.fnExactPressAllSpec.plain.varTypes Tryd.pinned.checked.prog).any (Tryd.pinned.checked.prog.loopsFrom ·))) = true := by kernel_rfl
theorem pressAll_k17 : ((Rows.fnExactPressAllRow.wideKeys == (Tryd.f4.params.toList ++ Rows.fnExactPressAllSpec.plain.varTypes Tryd.pinned.checked.prog ++ Tryd.f4.resultTypes.toList).any (Tryd.pinned.checked.prog.wideKeysFrom ·))) = true := by kernel_rfl
theorem pressAll_k18 : (Rows.fnExactPressAllSpec.vars.all (Tryd.pinned.checked.prog.varReadable ·)) = true := by kernel_rfl
theorem pressAll_k19 : (Tryd.f4.resultTypes.all (fun t => Tryd.pinned.checked.prog.readableRec t && decide (t < Tryd.pinned.checked.prog.types.size))) = true := by kernel_rfl
theorem pressAll_k20 : ((Rows.fnExactPressAllRow.ifacesOut == Tryd.f4.resultTypes.toList.any (Tryd.pinned.checked.prog.ifacesRec ·))) = true := by kernel_rfl
theorem pressAll_k21 : ((Rows.fnExactPressAllRow.loopsOut == Tryd.f4.resultTypes.toList.any (Tryd.pinned.checked.prog.loopsFrom ·))) = true := by kernel_rfl
theorem pressAll_k22 : ((Rows.fnExactPressAllRow.plainKeys == Tryd.pinned.checked.prog.plainKeys)) = true := by kernel_rfl
theorem pressAll_k23 : (Rows.fnExactPressAllRow.shortTexts.isNone) = true := by kernel_rfl
theorem pressAll_k24 : (Tryd.pinned.checked.prog.stopsHeard) = true := by kernel_rfl
theorem pressAll_k25 : (Tryd.pinned.checked.prog.mayEnter) = true := x_enter
theorem pressAll_k26 : ((Rows.fnExactPressAllRow.lifted == Tryd.pinned.checked.prog.liftsFinal)) = true := by rw [x_lifts]; rfl
theorem pressAll_k27 : ((Tryd.pinned.checked.prog.make == some Rows.fnExactPressAllRow.make)) = true := by rw [x_make]; rfl
theorem pressAll_k28 : ((Rows.fnExactPressAllRow.kinds == (if Rows.fnExactPressAllRow.domain.isEmpty then [] else Tryd.f4.params.toList.map fun t => match Tryd.pinned.checked.prog.underlying t with | some (.int k) => some k | _ => none))) = true := by kernel_rfl
theorem pressAll_k29 : ((Rows.fnExactPressAllRow.pinned == Rows.fnExactPressAllRow.pinnedBy)) = true := by kernel_rfl
theorem pressAll_k30 : ((Rows.fnExactPressAllRow.veiled == (Tryd.f4.params.toList ++ Rows.fnExactPressAllSpec.plain.varTypes Tryd.pinned.checked.prog ++ Tryd.f4.resultTypes.toList).any (Tryd.pinned.checked.prog.veiledRec ·))) = true := by kernel_rfl
theorem pressAll_k31 : (Rows.fnExactPressAllRow.veiledFits Tryd.pinned.checked.prog Tryd.f4.params.toList (Tryd.f4.params.toList ++ Rows.fnExactPressAllSpec.plain.varTypes Tryd.pinned.checked.prog ++ Tryd.f4.resultTypes.toList)) = true := by kernel_rfl
theorem pressAll_pkg : decide (Check.packageOf Tryd.f4.name = "main") = false := by kernel_rfl
theorem pressAll_inst : Func.isInstance Tryd.pinned.checked.prog Tryd.f4 Rows.fnExactPressAllRow.origin Rows.fnExactPressAllRow.targs := of_decide_eq_true (by kernel_rfl)
theorem pressAll_wrap : Func.isWrapper Tryd.pinned.checked.prog Tryd.f4 Rows.fnExactPressAllRow.wrapper Rows.fnExactPressAllRow.mainSum := by
  unfold Func.isWrapper; rw [if_neg (of_decide_eq_false pressAll_pkg)]; exact ⟨rfl, rfl⟩
set_option maxRecDepth 100000 in
theorem pressAll_closed : joinedFacts Tryd.pinned.checked.prog 4 Tryd.f4 Rows.fnExactPressAllSpec Rows.fnExactPressAllRow = true :=
  (and_of (and_of (and_of (and_of (and_of (and_of (and_of (and_of (and_of (and_of (and_of (and_of (and_of (and_of (and_of (and_of (and_of (and_of (and_of (and_of (and_of (and_of (and_of (and_of (and_of (and_of (and_of (and_of (and_of (and_of (and_of pressAll_k0 pressAll_k1) pressAll_k2) pressAll_k3) pressAll_k4) pressAll_k5) pressAll_k6) pressAll_k7) pressAll_k8) pressAll_k9) pressAll_k10) pressAll_k11) pressAll_k12) pressAll_k13) pressAll_k14) pressAll_k15) pressAll_k16) pressAll_k17) pressAll_k18) pressAll_k19) pressAll_k20) pressAll_k21) pressAll_k22) pressAll_k23) pressAll_k24) pressAll_k25) pressAll_k26) pressAll_k27) pressAll_k28) pressAll_k29) pressAll_k30) pressAll_k31)
theorem pressAll_holds : Rows.FnExactPressAllSaid :=
  OpenClaim.holds_of_wide 4 Tryd.f4 rfl rfl rfl rfl rfl rfl rfl ⟨rfl, rfl, rfl, rfl, rfl⟩ rfl rfl rfl rfl rfl (by kernel_rfl) Tryd.func4 pressAll_closed
    pressAll_inst pressAll_wrap (fun os started H enc _ => pressAll_lifted os started H enc)
theorem pressAll_w3 : Tryd.prog.wantsStandIn 3 = false := by kernel_rfl
theorem pressAll_w24 : Tryd.prog.wantsStandIn 24 = false := by kernel_rfl
theorem pressAll_name : Tryd.prog.funcNamed "loop.example/g01146/laws.FnExactPressAll" = some 4 := by kernel_rfl
theorem pressAll_card : Rows.FnExactPressAllCardSaid :=
  Claim7.holds_tied_plain_at .later [] [.data, .data] true (true, "3f8a1423e5779e91608be9c67ff980609063b3bbf05a4f17d5691a63b4b9596e") false
    pressAll_holds (fun _ h => by cases h) (by kernel_rfl) (fun _ h => by cases h) fnExactPressAll_row_tie rfl ⟨rfl, rfl⟩ (by kernel_rfl) rfl
    (fun f fn hf hfn => by
      obtain rfl : f = 4 := Option.some.inj (pressAll_name.symm.trans hf) |>.symm
      obtain rfl : fn = Tryd.f4 := (Option.some.inj (Tryd.func4.symm.trans hfn)).symm
      exact ⟨by kernel_rfl, fun j t ht => by
        rw [Tryd.params4] at ht
        have hmem : t ∈ ([24, 3, 3] : List TypeId) := by
          have := Array.mem_of_getElem? ht
          simpa using this
        simp only [List.mem_cons, List.not_mem_nil, or_false] at hmem
        rcases hmem with rfl | rfl | rfl
        · exact pressAll_w24
        · exact pressAll_w3
        · exact pressAll_w3⟩)
    (by kernel_rfl)
end Go.Proofs.YtggcjmdadomlaaaDoor
