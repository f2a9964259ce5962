/-
IsQuiet answers as its model at every graph and number. The table of math/bits is tied to the program's text.
-/
import Derived.Test.YtggcjmdadomlaaaDoorEE
import Derived.Test.YtggcjmdadomlaaaDoorP
import Derived.Test.YtggcjmdadomlaaaDoorQ1
import Derived.Test.YtggcjmdadomlaaaDoorQ2
import Derived.Test.YtggcjmdadomlaaaDoorTie
import Derived.Test.YtggcjmdadomlaaaDoorCards
import Derived.SevenTiedAt
namespace Go.Proofs.YtggcjmdadomlaaaDoor
open Go.ChangeShapes Go.WideShapes Go.ChangeAt Go.WideElems Go.RowKit
set_option maxRecDepth 100000 in
theorem isQuiet_lifted (os : Os) (started : os.Started) (H : Type) (enc : TypeId × Value → H) :
    ReturnsInHanded {} Tryd.checked os 3 .any (fun w args => (Rows.fnExactIsQuietSpec.pre enc Tryd.prog Tryd.f3 [] false w args ∧ laidMetH Tryd.prog laidL w) ∧ sizedMet enc Tryd.prog Tryd.f3 (OpenSpec.ofChange Rows.fnExactIsQuietSpec) false w args)
      (Rows.fnExactIsQuietSpec.post enc Tryd.prog Tryd.f3 false true false false) := by
  refine returnsInHanded_of_change_and (C := Tryd.checked) (X := fun w _ => laidMetH Tryd.prog laidL w) (fun _ _ _ hh h => h.of_heap hh) Tryd.own started (by kernel_rfl) Tryd.func3
    (ChangeSpec.witness_shaped (enc := enc) (C := Tryd.checked) (os := os) (X := fun w _ => laidMetH Tryd.prog laidL w) false (World.doorLaid Tryd.prog 400 os) #[.agg #[.slice none 0 0, .bool false], .int .i64 0] 8 rfl (World.shaped_of_RefB (by kernel_rfl) (by kernel_rfl)) (by kernel_rfl) (by kernel_rfl) (by kernel_rfl) (door_met os _)) ?_
  intro W base args ds gs before hval0 hW _ _ hL _
  have hval : ∀ (j : Nat) t v, Tryd.f3.params[j]? = some t → args[j]? = some v → Value.okWide Tryd.prog W .any base t v := hval0
  have hW' := hW
  obtain ⟨p, q, hA0, hV, rfl, hfz, hnd⟩ := hW
  have hA : DataW.TrodAll enc Tryd.prog W 0 (fun _ => true) true Tryd.f3.params.toList args.toList ds p := hA0
  rw [Tryd.params3] at hA hval
  obtain ⟨v0, v1, d0, d1, p0, p1, rfl, rfl, rfl, h0, h1⟩ := trodAll_two hA
  obtain ⟨rfl, rfl⟩ := trodVars_none hV
  obtain ⟨A0, n0, c0, f0, own0, rfl, hn0, hs0, hw0⟩ := open_graph (hval 0 24 v0 rfl rfl) h0
  obtain ⟨a1, rfl, rfl, rfl, wa1⟩ := open_int Tryd.underlying3 (hval 1 3 v1 rfl rfl) h1
  have hT := tab_of_laid hL
  clear hA0 hval0
  simp only [List.append_nil] at hW'
  have hlt0 : ∀ x ∈ p0, x.block < W.heap.size := fun x hx => hW'.lt x (by simp [hx])
  refine (lawQuiet A0 n0 c0 f0 own0 a1 W hn0 hs0 hT).mono fun e W' ⟨he, hb⟩ => ?_
  subst he
  exact ⟨_, rfl, post_of_below (pa := p0 ++ ([])) (pv := []) hW' (fun _ _ _ => trodAll_mk1 (shut_bool Tryd.underlying4 true))
    (fun sp hsp => trodAll_mk2 (stays Tryd.laidOut (by kernel_rfl) (of_decide_eq_true (by kernel_rfl)) h0 hb hlt0 (fun x hx => hsp x (by simp [hx]))) (shut_int Tryd.underlying3 wa1)) (fun _ _ => rfl) (by simp) hb
    (ok_one (by kernel_rfl) rfl (okWide_bool_mk Tryd.underlying4 true))⟩
theorem isQuiet_k0 : (Rows.fnExactIsQuietRow.wf (OpenSpec.ofChange Rows.fnExactIsQuietSpec)) = true := by kernel_rfl
theorem isQuiet_k1 : (laidOutB Tryd.pinned.checked.prog) = true := by kernel_rfl
theorem isQuiet_k2 : (mapsRowed Tryd.pinned.checked.prog) = true := by kernel_rfl
theorem isQuiet_k3 : (Tryd.f3.params.all (Tryd.pinned.checked.prog.readableRec ·)) = true := by kernel_rfl
theorem isQuiet_k4 : (namedTie Tryd.pinned.checked.prog Rows.fnExactIsQuietRow.named Rows.fnExactIsQuietSpec.vars) = true := by kernel_rfl
theorem isQuiet_k5 : ((Rows.fnExactIsQuietRow.stops == [])) = true := by kernel_rfl
theorem isQuiet_k6 : ((Tryd.pinned.checked.prog.stops == [])) = true := by kernel_rfl
theorem isQuiet_k7 : ((Rows.fnExactIsQuietRow.knobs == [])) = true := by kernel_rfl
theorem isQuiet_k8 : ((Tryd.pinned.checked.prog.stopKnobs == [])) = true := by kernel_rfl
theorem isQuiet_k9 : ((Rows.fnExactIsQuietRow.inPlace == Tryd.pinned.checked.prog.inPlace 3)) = true := by kernel_rfl
theorem isQuiet_k10 : ((Rows.fnExactIsQuietRow.unfollowed == Tryd.pinned.checked.prog.unfollowed 3)) = true := by kernel_rfl
theorem isQuiet_k11 : ((Rows.fnExactIsQuietRow.recurses == Tryd.pinned.checked.prog.recurses 3)) = true := by kernel_rfl
theorem isQuiet_k12 : ((Rows.fnExactIsQuietRow.named == Tryd.pinned.checked.prog.varsNamed 3)) = true := by kernel_rfl
theorem isQuiet_k13 : ((Rows.fnExactIsQuietRow.maps == (Tryd.f3.params.toList ++ Rows.fnExactIsQuietSpec.plain.varTypes Tryd.pinned.checked.prog).any (Tryd.pinned.checked.prog.mapsRec ·))) = true := by kernel_rfl
theorem isQuiet_k14 : ((Rows.fnExactIsQuietRow.ifaces == (Tryd.f3.params.toList ++ Rows.fnExactIsQuietSpec.plain.varTypes Tryd.pinned.checked.prog).any (Tryd.pinned.checked.prog.ifacesRec ·))) = true := by kernel_rfl
theorem isQuiet_k15 : ((Rows.fnExactIsQuietRow.mapsOut == Tryd.pinned.checked.prog.mapsAmong Tryd.f3.resultTypes.toList)) = true := by kernel_rfl
theorem isQuiet_k16 : ((Rows.fnExactIsQuietRow.loops == (Tryd.f3.params.toList ++ Rows.fnExactIsQuietSpec.plain.varTypes Tryd.pinned.checked.prog).any (Tryd.pinned.checked.prog.loopsFrom ·))) = true := by kernel_rfl
theorem isQuiet_k17 : ((Rows.fnExactIsQuietRow.wideKeys == (Tryd.f3.params.toList ++ Rows.fnExactIsQuietSpec.plain.varTypes Tryd.pinned.checked.prog ++ Tryd.f3.resultTypes.toList).any (Tryd.pinned.checked.prog.wideKeysFrom ·))) = true := by kernel_rfl
theorem isQuiet_k18 : (Rows.fnExactIsQuietSpec.vars.all (Tryd.pinned.checked.prog.varReadable ·)) = true := by kernel_rfl
theorem isQuiet_k19 : (Tryd.f3.resultTypes.all (fun t => Tryd.pinned.checked.prog.readableRec t && decide (t < Tryd.pinned.checked.prog.types.size))) = true := by kernel_rfl
theorem isQuiet_k20 : ((Rows.fnExactIsQuietRow.ifacesOut == Tryd.f3.resultTypes.toList.any (Tryd.pinned.checked.prog.ifacesRec ·))) = true := by kernel_rfl
theorem isQuiet_k21 : ((Rows.fnExactIsQuietRow.loopsOut == Tryd.f3.resultTypes.toList.any (Tryd.pinned.checked.prog.loopsFrom ·))) = true := by kernel_rfl
theorem isQuiet_k22 : ((Rows.fnExactIsQuietRow.plainKeys == Tryd.pinned.checked.prog.plainKeys)) = true := by kernel_rfl
theorem isQuiet_k23 : (Rows.fnExactIsQuietRow.shortTexts.isNone) = true := by kernel_rfl
theorem isQuiet_k24 : (Tryd.pinned.checked.prog.stopsHeard) = true := by kernel_rfl
theorem isQuiet_k25 : (Tryd.pinned.checked.prog.mayEnter) = true := x_enter
theorem isQuiet_k26 : ((Rows.fnExactIsQuietRow.lifted == Tryd.pinned.checked.prog.liftsFinal)) = true := by rw [x_lifts]; rfl
theorem isQuiet_k27 : ((Tryd.pinned.checked.prog.make == some Rows.fnExactIsQuietRow.make)) = true := by rw [x_make]; rfl
theorem isQuiet_k28 : ((Rows.fnExactIsQuietRow.kinds == (if Rows.fnExactIsQuietRow.domain.isEmpty then [] else Tryd.f3.params.toList.map fun t => match Tryd.pinned.checked.prog.underlying t with | some (.int k) => some k | _ => none))) = true := by kernel_rfl
theorem isQuiet_k29 : ((Rows.fnExactIsQuietRow.pinned == Rows.fnExactIsQuietRow.pinnedBy)) = true := by kernel_rfl
theorem isQuiet_k30 : ((Rows.fnExactIsQuietRow.veiled == (Tryd.f3.params.toList ++ Rows.fnExactIsQuietSpec.plain.varTypes Tryd.pinned.checked.prog ++ Tryd.f3.resultTypes.toList).any (Tryd.pinned.checked.prog.veiledRec ·))) = true := by kernel_rfl
theorem isQuiet_k31 : (Rows.fnExactIsQuietRow.veiledFits Tryd.pinned.checked.prog Tryd.f3.params.toList (Tryd.f3.params.toList ++ Rows.fnExactIsQuietSpec.plain.varTypes Tryd.pinned.checked.prog ++ Tryd.f3.resultTypes.toList)) = true := by kernel_rfl
theorem isQuiet_pkg : decide (Check.packageOf Tryd.f3.name = "main") = false := by kernel_rfl
theorem isQuiet_inst : Func.isInstance Tryd.pinned.checked.prog Tryd.f3 Rows.fnExactIsQuietRow.origin Rows.fnExactIsQuietRow.targs := of_decide_eq_true (by kernel_rfl)
theorem isQuiet_wrap : Func.isWrapper Tryd.pinned.checked.prog Tryd.f3 Rows.fnExactIsQuietRow.wrapper Rows.fnExactIsQuietRow.mainSum := by
  unfold Func.isWrapper; rw [if_neg (of_decide_eq_false isQuiet_pkg)]; exact ⟨rfl, rfl⟩
set_option maxRecDepth 100000 in
theorem isQuiet_closed : joinedFacts Tryd.pinned.checked.prog 3 Tryd.f3 Rows.fnExactIsQuietSpec Rows.fnExactIsQuietRow = true :=
  (and_of (and_of (and_of (and_of (and_of (and_of (and_of (and_of (and_of (and_of (and_of (and_of (and_of (and_of (and_of (and_of (and_of (and_of (and_of (and_of (and_of (and_of (and_of (and_of (and_of (and_of (and_of (and_of (and_of (and_of (and_of isQuiet_k0 isQuiet_k1) isQuiet_k2) isQuiet_k3) isQuiet_k4) isQuiet_k5) isQuiet_k6) isQuiet_k7) isQuiet_k8) isQuiet_k9) isQuiet_k10) isQuiet_k11) isQuiet_k12) isQuiet_k13) isQuiet_k14) isQuiet_k15) isQuiet_k16) isQuiet_k17) isQuiet_k18) isQuiet_k19) isQuiet_k20) isQuiet_k21) isQuiet_k22) isQuiet_k23) isQuiet_k24) isQuiet_k25) isQuiet_k26) isQuiet_k27) isQuiet_k28) isQuiet_k29) isQuiet_k30) isQuiet_k31)
theorem isQuiet_holds : Rows.FnExactIsQuietSaid :=
  OpenClaim.holds_of_wide 3 Tryd.f3 rfl rfl rfl rfl rfl rfl rfl ⟨rfl, rfl, rfl, rfl, rfl⟩ rfl rfl rfl rfl rfl (by kernel_rfl) Tryd.func3 isQuiet_closed
    isQuiet_inst isQuiet_wrap (fun os started H enc _ => isQuiet_lifted os started H enc)
theorem isQuiet_w3 : Tryd.prog.wantsStandIn 3 = false := by kernel_rfl
theorem isQuiet_w24 : Tryd.prog.wantsStandIn 24 = false := by kernel_rfl
theorem isQuiet_name : Tryd.prog.funcNamed "loop.example/g01146/laws.FnExactIsQuiet" = some 3 := by kernel_rfl
theorem isQuiet_card : Rows.FnExactIsQuietCardSaid :=
  Claim7.holds_tied_plain_at .later [] [.data, .data] true (true, "3f8a1423e5779e91608be9c67ff980609063b3bbf05a4f17d5691a63b4b9596e") false
    isQuiet_holds (fun _ h => by cases h) (by kernel_rfl) (fun _ h => by cases h) fnExactIsQuiet_row_tie rfl ⟨rfl, rfl⟩ (by kernel_rfl) rfl
    (fun f fn hf hfn => by
      obtain rfl : f = 3 := Option.some.inj (isQuiet_name.symm.trans hf) |>.symm
      obtain rfl : fn = Tryd.f3 := (Option.some.inj (Tryd.func3.symm.trans hfn)).symm
      exact ⟨by kernel_rfl, fun j t ht => by
        rw [Tryd.params3] at ht
        have hmem : t ∈ ([24, 3] : List TypeId) := by
          have := Array.mem_of_getElem? ht
          simpa using this
        simp only [List.mem_cons, List.not_mem_nil, or_false] at hmem
        rcases hmem with rfl | rfl
        · exact isQuiet_w24
        · exact isQuiet_w3⟩)
    (by kernel_rfl)
end Go.Proofs.YtggcjmdadomlaaaDoor
