/-
EffectOf answers as its model at every graph and number. The table of math/bits is tied to the program's text.
-/
import Derived.Test.YtggcjmdadomlaaaDoorEE
import Derived.Test.YtggcjmdadomlaaaDoorP
import Derived.Test.YtggcjmdadomlaaaDoorQ1
import Derived.Test.YtggcjmdadomlaaaDoorQ2
import Derived.Test.YtggcjmdadomlaaaDoorTie
import Derived.Test.YtggcjmdadomlaaaDoorCards
import Derived.SevenTiedAt
namespace Go.Proofs.YtggcjmdadomlaaaDoor
open Go.ChangeShapes Go.WideShapes Go.ChangeAt Go.WideElems Go.RowKit
set_option maxRecDepth 100000 in
theorem effectOf_lifted (os : Os) (started : os.Started) (H : Type) (enc : TypeId × Value → H) :
    ReturnsInHanded {} Tryd.checked os 5 .any (fun w args => (Rows.fnExactEffectOfSpec.pre enc Tryd.prog Tryd.f5 [] false w args ∧ laidMetH Tryd.prog laidL w) ∧ sizedMet enc Tryd.prog Tryd.f5 (OpenSpec.ofChange Rows.fnExactEffectOfSpec) false w args)
      (Rows.fnExactEffectOfSpec.post enc Tryd.prog Tryd.f5 false true false false) := by
  refine returnsInHanded_of_change_and (C := Tryd.checked) (X := fun w _ => laidMetH Tryd.prog laidL w) (fun _ _ _ hh h => h.of_heap hh) Tryd.own started (by kernel_rfl) Tryd.func5
    (ChangeSpec.witness_shaped (enc := enc) (C := Tryd.checked) (os := os) (X := fun w _ => laidMetH Tryd.prog laidL w) false (World.doorLaid Tryd.prog 400 os) #[.agg #[.slice none 0 0, .bool false], .int .i64 0] 8 rfl (World.shaped_of_RefB (by kernel_rfl) (by kernel_rfl)) (by kernel_rfl) (by kernel_rfl) (by kernel_rfl) (door_met os _)) ?_
  intro W base args ds gs before hval0 hW _ _ hL _
  have hval : ∀ (j : Nat) t v, Tryd.f5.params[j]? = some t → args[j]? = some v → Value.okWide Tryd.prog W .any base t v := hval0
  have hW' := hW
  obtain ⟨p, q, hA0, hV, rfl, hfz, hnd⟩ := hW
  have hA : DataW.TrodAll enc Tryd.prog W 0 (fun _ => true) true Tryd.f5.params.toList args.toList ds p := hA0
  rw [Tryd.params5] at hA hval
  obtain ⟨v0, v1, d0, d1, p0, p1, rfl, rfl, rfl, h0, h1⟩ := trodAll_two hA
  obtain ⟨rfl, rfl⟩ := trodVars_none hV
  obtain ⟨A0, n0, c0, f0, own0, rfl, hn0, hs0, hw0⟩ := open_graph (hval 0 24 v0 rfl rfl) h0
  obtain ⟨a1, rfl, rfl, rfl, wa1⟩ := open_int Tryd.underlying3 (hval 1 3 v1 rfl rfl) h1
  have hT := tab_of_laid hL
  clear hA0 hval0
  simp only [List.append_nil] at hW'
  have hlt0 : ∀ x ∈ p0, x.block < W.heap.size := fun x hx => hW'.lt x (by simp [hx])
  refine (lawEffect A0 n0 c0 f0 own0 a1 W hn0 hs0 hT).mono fun e W' ⟨he, hb⟩ => ?_
  subst he
  exact ⟨_, rfl, post_of_below (pa := p0 ++ ([])) (pv := []) hW' (fun _ _ _ => trodAll_mk1 (shut_bool Tryd.underlying4 true))
    (fun sp hsp => trodAll_mk2 (stays Tryd.laidOut (by kernel_rfl) (of_decide_eq_true (by kernel_rfl)) h0 hb hlt0 (fun x hx => hsp x (by simp [hx]))) (shut_int Tryd.underlying3 wa1)) (fun _ _ => rfl) (by simp) hb
    (ok_one (by kernel_rfl) rfl (okWide_bool_mk Tryd.underlying4 true))⟩
theorem effectOf_k0 : (Rows.fnExactEffectOfRow.wf (OpenSpec.ofChange Rows.fnExactEffectOfSpec)) = true := by kernel_rfl
theorem effectOf_k1 : (laidOutB Tryd.pinned.checked.prog) = true := by kernel_rfl
theorem effectOf_k2 : (mapsRowed Tryd.pinned.checked.prog) = true := by kernel_rfl
theorem effectOf_k3 : (Tryd.f5.params.all (Tryd.pinned.checked.prog.readableRec ·)) = true := by kernel_rfl
theorem effectOf_k4 : (namedTie Tryd.pinned.checked.prog Rows.fnExactEffectOfRow.named Rows.fnExactEffectOfSpec.vars) = true := by kernel_rfl
theorem effectOf_k5 : ((Rows.fnExactEffectOfRow.stops == [])) = true := by kernel_rfl
theorem effectOf_k6 : ((Tryd.pinned.checked.prog.stops == [])) = true := by kernel_rfl
theorem effectOf_k7 : ((Rows.fnExactEffectOfRow.knobs == [])) = true := by kernel_rfl
theorem effectOf_k8 : ((Tryd.pinned.checked.prog.stopKnobs == [])) = true := by kernel_rfl
theorem effectOf_k9 : ((Rows.fnExactEffectOfRow.inPlace == Tryd.pinned.checked.prog.inPlace 5)) = true := by kernel_rfl
theorem effectOf_k10 : ((Rows.fnExactEffectOfRow.unfollowed == Tryd.pinned.checked.prog.unfollowed 5)) = true := by kernel_rfl
theorem effectOf_k11 : ((Rows.fnExactEffectOfRow.recurses == Tryd.pinned.checked.prog.recurses 5)) = true := by kernel_rfl
theorem effectOf_k12 : ((Rows.fnExactEffectOfRow.named == Tryd.pinned.checked.prog.varsNamed 5)) = true := by kernel_rfl
theorem effectOf_k13 : ((Rows.fnExactEffectOfRow.maps == (Tryd.f5.params.toList ++ Rows.fnExactEffectOfSpec.plain.varTypes Tryd.pinned.checked.prog).any (Tryd.pinned.checked.prog.mapsRec ·))) = true := by kernel_rfl
theorem effectOf_k14 : ((Rows.fnExactEffectOfRow.ifaces == (Tryd.f5.params.toList ++ Rows.fnExactEffectOfSpec.plain.varTypes Tryd.pinned.checked.prog).any (Tryd.pinned.checked.prog.ifacesRec ·))) = true := by kernel_rfl
theorem effectOf_k15 : ((Rows.fnExactEffectOfRow.mapsOut == Tryd.pinned.checked.prog.mapsAmong Tryd.f5.resultTypes.toList)) = true := by kernel_rfl
theorem effectOf_k16 : ((Rows.fnExactEffectOfRow.loops == (Tryd.f5.params.toList ++ Rows.fnExactEffectOfSpec.plain.varTypes Tryd.pinned.checked.prog).any (Tryd.pinned.checked.prog.loopsFrom ·))) = true := by kernel_rfl
theorem effectOf_k17 : ((Rows.fnExactEffectOfRow.wideKeys == (Tryd.f5.params.toList ++ Rows.fnExactEffectOfSpec.plain.varTypes Tryd.pinned.checked.prog ++ Tryd.f5.resultTypes.toList).any (Tryd.pinned.checked.prog.wideKeysFrom ·))) = true := by kernel_rfl
theorem effectOf_k18 : (Rows.fnExactEffectOfSpec.vars.all (Tryd.pinned.checked.prog.varReadable ·)) = true := by kernel_rfl
theorem effectOf_k19 : (Tryd.f5.resultTypes.all (fun t => Tryd.pinned.checked.prog.readableRec t && decide (t < Tryd.pinned.checked.prog.types.size))) = true := by kernel_rfl
theorem effectOf_k20 : ((Rows.fnExactEffectOfRow.ifacesOut == Tryd.f5.resultTypes.toList.any (Tryd.pinned.checked.prog.ifacesRec ·))) = true := by kernel_rfl
theorem effectOf_k21 : ((Rows.fnExactEffectOfRow.loopsOut == Tryd.f5.resultTypes.toList.any (Tryd.pinned.checked.prog.loopsFrom ·))) = true := by kernel_rfl
theorem effectOf_k22 : ((Rows.fnExactEffectOfRow.plainKeys == Tryd.pinned.checked.prog.plainKeys)) = true := by kernel_rfl
theorem effectOf_k23 : (Rows.fnExactEffectOfRow.shortTexts.isNone) = true := by kernel_rfl
theorem effectOf_k24 : (Tryd.pinned.checked.prog.stopsHeard) = true := by kernel_rfl
theorem effectOf_k25 : (Tryd.pinned.checked.prog.mayEnter) = true := x_enter
theorem effectOf_k26 : ((Rows.fnExactEffectOfRow.lifted == Tryd.pinned.checked.prog.liftsFinal)) = true := by rw [x_lifts]; rfl
theorem effectOf_k27 : ((Tryd.pinned.checked.prog.make == some Rows.fnExactEffectOfRow.make)) = true := by rw [x_make]; rfl
theorem effectOf_k28 : ((Rows.fnExactEffectOfRow.kinds == (if Rows.fnExactEffectOfRow.domain.isEmpty then [] else Tryd.f5.params.toList.map fun t => match Tryd.pinned.checked.prog.underlying t with | some (.int k) => some k | _ => none))) = true := by kernel_rfl
theorem effectOf_k29 : ((Rows.fnExactEffectOfRow.pinned == Rows.fnExactEffectOfRow.pinnedBy)) = true := by kernel_rfl
theorem effectOf_k30 : ((Rows.fnExactEffectOfRow.veiled == (Tryd.f5.params.toList ++ Rows.fnExactEffectOfSpec.plain.varTypes Tryd.pinned.checked.prog ++ Tryd.f5.resultTypes.toList).any (Tryd.pinned.checked.prog.veiledRec ·))) = true := by kernel_rfl
theorem effectOf_k31 : (Rows.fnExactEffectOfRow.veiledFits Tryd.pinned.checked.prog Tryd.f5.params.toList (Tryd.f5.params.toList ++ Rows.fnExactEffectOfSpec.plain.varTypes Tryd.pinned.checked.prog ++ Tryd.f5.resultTypes.toList)) = true := by kernel_rfl
theorem effectOf_pkg : decide (Check.packageOf Tryd.f5.name = "main") = false := by kernel_rfl
theorem effectOf_inst : Func.isInstance Tryd.pinned.checked.prog Tryd.f5 Rows.fnExactEffectOfRow.origin Rows.fnExactEffectOfRow.targs := of_decide_eq_true (by kernel_rfl)
theorem effectOf_wrap : Func.isWrapper Tryd.pinned.checked.prog Tryd.f5 Rows.fnExactEffectOfRow.wrapper Rows.fnExactEffectOfRow.mainSum := by
  unfold Func.isWrapper; rw [if_neg (of_decide_eq_false effectOf_pkg)]; exact ⟨rfl, rfl⟩
set_option maxRecDepth 100000 in
theorem effectOf_closed : joinedFacts Tryd.pinned.checked.prog 5 Tryd.f5 Rows.fnExactEffectOfSpec Rows.fnExactEffectOfRow = true :=
  (and_of (and_of (and_of (and_of (and_of (and_of (and_of (and_of (and_of (and_of (and_of (and_of (and_of (and_of (and_of (and_of (and_of (and_of (and_of (and_of (and_of (and_of (and_of (and_of (and_of (and_of (and_of (and_of (and_of (and_of (and_of effectOf_k0 effectOf_k1) effectOf_k2) effectOf_k3) effectOf_k4) effectOf_k5) effectOf_k6) effectOf_k7) effectOf_k8) effectOf_k9) effectOf_k10) effectOf_k11) effectOf_k12) effectOf_k13) effectOf_k14) effectOf_k15) effectOf_k16) effectOf_k17) effectOf_k18) effectOf_k19) effectOf_k20) effectOf_k21) effectOf_k22) effectOf_k23) effectOf_k24) effectOf_k25) effectOf_k26) effectOf_k27) effectOf_k28) effectOf_k29) effectOf_k30) effectOf_k31)
theorem effectOf_holds : Rows.FnExactEffectOfSaid :=
  OpenClaim.holds_of_wide 5 Tryd.f5 rfl rfl rfl rfl rfl rfl rfl ⟨rfl, rfl, rfl, rfl, rfl⟩ rfl rfl rfl rfl rfl (by kernel_rfl) Tryd.func5 effectOf_closed
    effectOf_inst effectOf_wrap (fun os started H enc _ => effectOf_lifted os started H enc)
theorem effectOf_w3 : Tryd.prog.wantsStandIn 3 = false := by kernel_rfl
theorem effectOf_w24 : Tryd.prog.wantsStandIn 24 = false := by kernel_rfl
theorem effectOf_name : Tryd.prog.funcNamed "loop.example/g01146/laws.FnExactEffectOf" = some 5 := by kernel_rfl
theorem effectOf_card : Rows.FnExactEffectOfCardSaid :=
  Claim7.holds_tied_plain_at .later [] [.data, .data] true (true, "3f8a1423e5779e91608be9c67ff980609063b3bbf05a4f17d5691a63b4b9596e") false
    effectOf_holds (fun _ h => by cases h) (by kernel_rfl) (fun _ h => by cases h) fnExactEffectOf_row_tie rfl ⟨rfl, rfl⟩ (by kernel_rfl) rfl
    (fun f fn hf hfn => by
      obtain rfl : f = 5 := Option.some.inj (effectOf_name.symm.trans hf) |>.symm
      obtain rfl : fn = Tryd.f5 := (Option.some.inj (Tryd.func5.symm.trans hfn)).symm
      exact ⟨by kernel_rfl, fun j t ht => by
        rw [Tryd.params5] at ht
        have hmem : t ∈ ([24, 3] : List TypeId) := by
          have := Array.mem_of_getElem? ht
          simpa using this
        simp only [List.mem_cons, List.not_mem_nil, or_false] at hmem
        rcases hmem with rfl | rfl
        · exact effectOf_w24
        · exact effectOf_w3⟩)
    (by kernel_rfl)
end Go.Proofs.YtggcjmdadomlaaaDoor
