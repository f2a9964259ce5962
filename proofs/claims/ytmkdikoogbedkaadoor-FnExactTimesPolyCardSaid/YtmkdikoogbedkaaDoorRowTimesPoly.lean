/-
TimesPoly answers as its model at every two numbers. The table of math/bits is tied to the program's text.
-/
import Derived.Test.YtmkdikoogbedkaaDoorTV
import Derived.Test.YtmkdikoogbedkaaDoorP
import Derived.Test.YtmkdikoogbedkaaDoorQ1
import Derived.Test.YtmkdikoogbedkaaDoorQ2
import Derived.Test.YtmkdikoogbedkaaDoorTie
import Derived.Test.YtmkdikoogbedkaaDoorCards
import Derived.SevenTiedAt
namespace Go.Proofs.YtmkdikoogbedkaaDoor
open Go.ChangeShapes Go.WideShapes Go.ChangeAt Go.WideElems Go.RowKit
set_option maxRecDepth 100000 in
theorem timesPoly_lifted (os : Os) (started : os.Started) (H : Type) (enc : TypeId × Value → H) :
    ReturnsInHanded {} Tryd.checked os 3 .any (fun w args => (Rows.fnExactTimesPolySpec.pre enc Tryd.prog Tryd.f3 [] false w args ∧ laidMetH Tryd.prog laidL w) ∧ sizedMet enc Tryd.prog Tryd.f3 (OpenSpec.ofChange Rows.fnExactTimesPolySpec) false w args)
      (Rows.fnExactTimesPolySpec.post enc Tryd.prog Tryd.f3 false true false false) := by
  refine returnsInHanded_of_change_and (C := Tryd.checked) (X := fun w _ => laidMetH Tryd.prog laidL w) (fun _ _ _ hh h => h.of_heap hh) Tryd.own started (by kernel_rfl) Tryd.func3
    (ChangeSpec.witness_shaped (enc := enc) (C := Tryd.checked) (os := os) (X := fun w _ => laidMetH Tryd.prog laidL w) false (World.doorLaid Tryd.prog 400 os) #[.int .i64 0, .int .i64 0] 8 rfl (World.shaped_of_RefB (by kernel_rfl) (by kernel_rfl)) (by kernel_rfl) (by kernel_rfl) (by kernel_rfl) (door_met os _)) ?_
  intro W base args ds gs before hval0 hW _ _ hL _
  have hval : ∀ (j : Nat) t v, Tryd.f3.params[j]? = some t → args[j]? = some v → Value.okWide Tryd.prog W .any base t v := hval0
  have hW' := hW
  obtain ⟨p, q, hA0, hV, rfl, hfz, hnd⟩ := hW
  have hA : DataW.TrodAll enc Tryd.prog W 0 (fun _ => true) true Tryd.f3.params.toList args.toList ds p := hA0
  rw [Tryd.params3] at hA hval
  obtain ⟨v0, v1, d0, d1, p0, p1, rfl, rfl, rfl, h0, h1⟩ := trodAll_two hA
  obtain ⟨rfl, rfl⟩ := trodVars_none hV
  obtain ⟨a0, rfl, rfl, rfl, wa0⟩ := open_int Tryd.underlying3 (hval 0 3 v0 rfl rfl) h0
  obtain ⟨a1, rfl, rfl, rfl, wa1⟩ := open_int Tryd.underlying3 (hval 1 3 v1 rfl rfl) h1
  have hT := tab_of_laid hL
  clear hA0 hval0
  simp only [List.append_nil] at hW'
  refine (lawTimes a0 a1 W hT).mono fun e W' ⟨he, hb⟩ => ?_
  subst he
  exact ⟨_, rfl, post_of_below (pa := []) (pv := []) hW' (fun _ _ _ => trodAll_mk1 (shut_bool Tryd.underlying4 true))
    (fun sp hsp => trodAll_mk2 (shut_int Tryd.underlying3 wa0) (shut_int Tryd.underlying3 wa1)) (fun _ _ => rfl) (by simp) hb
    (ok_one (by kernel_rfl) rfl (okWide_bool_mk Tryd.underlying4 true))⟩
theorem timesPoly_k0 : (Rows.fnExactTimesPolyRow.wf (OpenSpec.ofChange Rows.fnExactTimesPolySpec)) = true := by kernel_rfl
theorem timesPoly_k1 : (laidOutB Tryd.pinned.checked.prog) = true := by kernel_rfl
theorem timesPoly_k2 : (mapsRowed Tryd.pinned.checked.prog) = true := by kernel_rfl
theorem timesPoly_k3 : (Tryd.f3.params.all (Tryd.pinned.checked.prog.readableRec ·)) = true := by kernel_rfl
theorem timesPoly_k4 : (namedTie Tryd.pinned.checked.prog Rows.fnExactTimesPolyRow.named Rows.fnExactTimesPolySpec.vars) = true := by kernel_rfl
theorem timesPoly_k5 : ((Rows.fnExactTimesPolyRow.stops == [])) = true := by kernel_rfl
theorem timesPoly_k6 : ((Tryd.pinned.checked.prog.stops == [])) = true := by kernel_rfl
theorem timesPoly_k7 : ((Rows.fnExactTimesPolyRow.knobs == [])) = true := by kernel_rfl
theorem timesPoly_k8 : ((Tryd.pinned.checked.prog.stopKnobs == [])) = true := by kernel_rfl
theorem timesPoly_k9 : ((Rows.fnExactTimesPolyRow.inPlace == Tryd.pinned.checked.prog.inPlace 3)) = true := by kernel_rfl
theorem timesPoly_k10 : ((Rows.fnExactTimesPolyRow.unfollowed == Tryd.pinned.checked.prog.unfollowed 3)) = true := by kernel_rfl
theorem timesPoly_k11 : ((Rows.fnExactTimesPolyRow.recurses == Tryd.pinned.checked.prog.recurses 3)) = true := by kernel_rfl
theorem timesPoly_k12 : ((Rows.fnExactTimesPolyRow.named == Tryd.pinned.checked.prog.varsNamed 3)) = true := by kernel_rfl
theorem timesPoly_k13 : ((Rows.fnExactTimesPolyRow.maps == (Tryd.f3.params.toList ++ Rows.fnExactTimesPolySpec.plain.varTypes Tryd.pinned.checked.prog).any (Tryd.pinned.checked.prog.mapsRec ·))) = true := by kernel_rfl
theorem timesPoly_k14 : ((Rows.fnExactTimesPolyRow.ifaces == (Tryd.f3.params.toList ++ Rows.fnExactTimesPolySpec.plain.varTypes Tryd.pinned.checked.prog).any (Tryd.pinned.checked.prog.ifacesRec ·))) = true := by kernel_rfl
theorem timesPoly_k15 : ((Rows.fnExactTimesPolyRow.mapsOut == Tryd.pinned.checked.prog.mapsAmong Tryd.f3.resultTypes.toList)) = true := by kernel_rfl
theorem timesPoly_k16 : ((Rows.fnExactTimesPolyRow.loops == (Tryd.f3.params.toList ++ Rows.fnExactTimesPolySpec.plain.varTypes Tryd.pinned.checked.prog).any (Tryd.pinned.checked.prog.loopsFrom ·))) = true := by kernel_rfl
theorem timesPoly_k17 : ((Rows.fnExactTimesPolyRow.wideKeys == (Tryd.f3.params.toList ++ Rows.fnExactTimesPolySpec.plain.varTypes Tryd.pinned.checked.prog ++ Tryd.f3.resultTypes.toList).any (Tryd.pinned.checked.prog.wideKeysFrom ·))) = true := by kernel_rfl
theorem timesPoly_k18 : (Rows.fnExactTimesPolySpec.vars.all (Tryd.pinned.checked.prog.varReadable ·)) = true := by kernel_rfl
theorem timesPoly_k19 : (Tryd.f3.resultTypes.all (fun t => Tryd.pinned.checked.prog.readableRec t && decide (t < Tryd.pinned.checked.prog.types.size))) = true := by kernel_rfl
theorem timesPoly_k20 : ((Rows.fnExactTimesPolyRow.ifacesOut == Tryd.f3.resultTypes.toList.any (Tryd.pinned.checked.prog.ifacesRec ·))) = true := by kernel_rfl
theorem timesPoly_k21 : ((Rows.fnExactTimesPolyRow.loopsOut == Tryd.f3.resultTypes.toList.any (Tryd.pinned.checked.prog.loopsFrom ·))) = true := by kernel_rfl
theorem timesPoly_k22 : ((Rows.fnExactTimesPolyRow.plainKeys == Tryd.pinned.checked.prog.plainKeys)) = true := by kernel_rfl
theorem timesPoly_k23 : (Rows.fnExactTimesPolyRow.shortTexts.isNone) = true := by kernel_rfl
theorem timesPoly_k24 : (Tryd.pinned.checked.prog.stopsHeard) = true := by kernel_rfl
theorem timesPoly_k25 : (Tryd.pinned.checked.prog.mayEnter) = true := x_enter
theorem timesPoly_k26 : ((Rows.fnExactTimesPolyRow.lifted == Tryd.pinned.checked.prog.liftsFinal)) = true := by rw [x_lifts]; rfl
theorem timesPoly_k27 : ((Tryd.pinned.checked.prog.make == some Rows.fnExactTimesPolyRow.make)) = true := by rw [x_make]; rfl
theorem timesPoly_k28 : ((Rows.fnExactTimesPolyRow.kinds == (if Rows.fnExactTimesPolyRow.domain.isEmpty then [] else Tryd.f3.params.toList.map fun t => match Tryd.pinned.checked.prog.underlying t with | some (.int k) => some k | _ => none))) = true := by kernel_rfl
theorem timesPoly_k29 : ((Rows.fnExactTimesPolyRow.pinned == Rows.fnExactTimesPolyRow.pinnedBy)) = true := by kernel_rfl
theorem timesPoly_k30 : ((Rows.fnExactTimesPolyRow.veiled == (Tryd.f3.params.toList ++ Rows.fnExactTimesPolySpec.plain.varTypes Tryd.pinned.checked.prog ++ Tryd.f3.resultTypes.toList).any (Tryd.pinned.checked.prog.veiledRec ·))) = true := by kernel_rfl
theorem timesPoly_k31 : (Rows.fnExactTimesPolyRow.veiledFits Tryd.pinned.checked.prog Tryd.f3.params.toList (Tryd.f3.params.toList ++ Rows.fnExactTimesPolySpec.plain.varTypes Tryd.pinned.checked.prog ++ Tryd.f3.resultTypes.toList)) = true := by kernel_rfl
theorem timesPoly_pkg : decide (Check.packageOf Tryd.f3.name = "main") = false := by kernel_rfl
theorem timesPoly_inst : Func.isInstance Tryd.pinned.checked.prog Tryd.f3 Rows.fnExactTimesPolyRow.origin Rows.fnExactTimesPolyRow.targs := of_decide_eq_true (by kernel_rfl)
theorem timesPoly_wrap : Func.isWrapper Tryd.pinned.checked.prog Tryd.f3 Rows.fnExactTimesPolyRow.wrapper Rows.fnExactTimesPolyRow.mainSum := by
  unfold Func.isWrapper; rw [if_neg (of_decide_eq_false timesPoly_pkg)]; exact ⟨rfl, rfl⟩
set_option maxRecDepth 100000 in
theorem timesPoly_closed : joinedFacts Tryd.pinned.checked.prog 3 Tryd.f3 Rows.fnExactTimesPolySpec Rows.fnExactTimesPolyRow = true :=
  (and_of (and_of (and_of (and_of (and_of (and_of (and_of (and_of (and_of (and_of (and_of (and_of (and_of (and_of (and_of (and_of (and_of (and_of (and_of (and_of (and_of (and_of (and_of (and_of (and_of (and_of (and_of (and_of (and_of (and_of (and_of timesPoly_k0 timesPoly_k1) timesPoly_k2) timesPoly_k3) timesPoly_k4) timesPoly_k5) timesPoly_k6) timesPoly_k7) timesPoly_k8) timesPoly_k9) timesPoly_k10) timesPoly_k11) timesPoly_k12) timesPoly_k13) timesPoly_k14) timesPoly_k15) timesPoly_k16) timesPoly_k17) timesPoly_k18) timesPoly_k19) timesPoly_k20) timesPoly_k21) timesPoly_k22) timesPoly_k23) timesPoly_k24) timesPoly_k25) timesPoly_k26) timesPoly_k27) timesPoly_k28) timesPoly_k29) timesPoly_k30) timesPoly_k31)
theorem timesPoly_holds : Rows.FnExactTimesPolySaid :=
  OpenClaim.holds_of_wide 3 Tryd.f3 rfl rfl rfl rfl rfl rfl rfl ⟨rfl, rfl, rfl, rfl, rfl⟩ rfl rfl rfl rfl rfl (by kernel_rfl) Tryd.func3 timesPoly_closed
    timesPoly_inst timesPoly_wrap (fun os started H enc _ => timesPoly_lifted os started H enc)
theorem timesPoly_w3 : Tryd.prog.wantsStandIn 3 = false := by kernel_rfl
theorem timesPoly_name : Tryd.prog.funcNamed "loop.example/g01146/laws.FnExactTimesPoly" = some 3 := by kernel_rfl
theorem timesPoly_card : Rows.FnExactTimesPolyCardSaid :=
  Claim7.holds_tied_plain_at .later [] [.data, .data] true (true, "388ee0ae145d23ac1ab759b6700f2552c05dba57c60f8ab68331fd4cfaa8879b") false
    timesPoly_holds (fun _ h => by cases h) (by kernel_rfl) (fun _ h => by cases h) fnExactTimesPoly_row_tie rfl ⟨rfl, rfl⟩ (by kernel_rfl) rfl
    (fun f fn hf hfn => by
      obtain rfl : f = 3 := Option.some.inj (timesPoly_name.symm.trans hf) |>.symm
      obtain rfl : fn = Tryd.f3 := (Option.some.inj (Tryd.func3.symm.trans hfn)).symm
      exact ⟨by kernel_rfl, fun j t ht => by
        rw [Tryd.params3] at ht
        have hmem : t ∈ ([3, 3] : List TypeId) := by
          have := Array.mem_of_getElem? ht
          simpa using this
        simp only [List.mem_cons, List.not_mem_nil, or_false] at hmem
        rcases hmem with rfl | rfl
        · exact timesPoly_w3
        · exact timesPoly_w3⟩)
    (by kernel_rfl)
end Go.Proofs.YtmkdikoogbedkaaDoor
