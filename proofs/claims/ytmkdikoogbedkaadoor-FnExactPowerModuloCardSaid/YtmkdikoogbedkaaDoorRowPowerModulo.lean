/-
PowerModulo answers as its model at every three numbers. The table of math/bits is tied to the program's text.
-/
import Derived.Test.YtmkdikoogbedkaaDoorTW
import Derived.Test.YtmkdikoogbedkaaDoorP
import Derived.Test.YtmkdikoogbedkaaDoorQ1
import Derived.Test.YtmkdikoogbedkaaDoorQ2
import Derived.Test.YtmkdikoogbedkaaDoorTie
import Derived.Test.YtmkdikoogbedkaaDoorCards
import Derived.SevenTiedAt
namespace Go.Proofs.YtmkdikoogbedkaaDoor
open Go.ChangeShapes Go.WideShapes Go.ChangeAt Go.WideElems Go.RowKit
set_option maxRecDepth 100000 in
theorem powerModulo_lifted (os : Os) (started : os.Started) (H : Type) (enc : TypeId × Value → H) :
    ReturnsInHanded {} Tryd.checked os 4 .any (fun w args => (Rows.fnExactPowerModuloSpec.pre enc Tryd.prog Tryd.f4 [] false w args ∧ laidMetH Tryd.prog laidL w) ∧ sizedMet enc Tryd.prog Tryd.f4 (OpenSpec.ofChange Rows.fnExactPowerModuloSpec) false w args)
      (Rows.fnExactPowerModuloSpec.post enc Tryd.prog Tryd.f4 false true false false) := by
  refine returnsInHanded_of_change_and (C := Tryd.checked) (X := fun w _ => laidMetH Tryd.prog laidL w) (fun _ _ _ hh h => h.of_heap hh) Tryd.own started (by kernel_rfl) Tryd.func4
    (ChangeSpec.witness_shaped (enc := enc) (C := Tryd.checked) (os := os) (X := fun w _ => laidMetH Tryd.prog laidL w) false (World.doorLaid Tryd.prog 400 os) #[.int .i64 0, .int .i64 0, .int .i64 0] 8 rfl (World.shaped_of_RefB (by kernel_rfl) (by kernel_rfl)) (by kernel_rfl) (by kernel_rfl) (by kernel_rfl) (door_met os _)) ?_
  intro W base args ds gs before hval0 hW _ _ hL _
  have hval : ∀ (j : Nat) t v, Tryd.f4.params[j]? = some t → args[j]? = some v → Value.okWide Tryd.prog W .any base t v := hval0
  have hW' := hW
  obtain ⟨p, q, hA0, hV, rfl, hfz, hnd⟩ := hW
  have hA : DataW.TrodAll enc Tryd.prog W 0 (fun _ => true) true Tryd.f4.params.toList args.toList ds p := hA0
  rw [Tryd.params4] at hA hval
  obtain ⟨v0, v1, v2, d0, d1, d2, p0, p1, p2, rfl, rfl, rfl, h0, h1, h2⟩ := trodAll_three hA
  obtain ⟨rfl, rfl⟩ := trodVars_none hV
  obtain ⟨a0, rfl, rfl, rfl, wa0⟩ := open_int Tryd.underlying3 (hval 0 3 v0 rfl rfl) h0
  obtain ⟨a1, rfl, rfl, rfl, wa1⟩ := open_int Tryd.underlying3 (hval 1 3 v1 rfl rfl) h1
  obtain ⟨a2, rfl, rfl, rfl, wa2⟩ := open_int Tryd.underlying3 (hval 2 3 v2 rfl rfl) h2
  have hT := tab_of_laid hL
  clear hA0 hval0
  simp only [List.append_nil] at hW'
  refine (lawPower a0 a1 a2 W hT).mono fun e W' ⟨he, hb⟩ => ?_
  subst he
  exact ⟨_, rfl, post_of_below (pa := []) (pv := []) hW' (fun _ _ _ => trodAll_mk1 (shut_bool Tryd.underlying4 true))
    (fun sp hsp => trodAll_mk3 (shut_int Tryd.underlying3 wa0) (shut_int Tryd.underlying3 wa1) (shut_int Tryd.underlying3 wa2)) (fun _ _ => rfl) (by simp) hb
    (ok_one (by kernel_rfl) rfl (okWide_bool_mk Tryd.underlying4 true))⟩
theorem powerModulo_k0 : (Rows.fnExactPowerModuloRow.wf (OpenSpec.ofChange Rows.fnExactPowerModuloSpec)) = true := by kernel_rfl
theorem powerModulo_k1 : (laidOutB Tryd.pinned.checked.prog) = true := by kernel_rfl
theorem powerModulo_k2 : (mapsRowed Tryd.pinned.checked.prog) = true := by kernel_rfl
theorem powerModulo_k3 : (Tryd.f4.params.all (Tryd.pinned.checked.prog.readableRec ·)) = true := by kernel_rfl
theorem powerModulo_k4 : (namedTie Tryd.pinned.checked.prog Rows.fnExactPowerModuloRow.named Rows.fnExactPowerModuloSpec.vars) = true := by kernel_rfl
theorem powerModulo_k5 : ((Rows.fnExactPowerModuloRow.stops == [])) = true := by kernel_rfl
theorem powerModulo_k6 : ((Tryd.pinned.checked.prog.stops == [])) = true := by kernel_rfl
theorem powerModulo_k7 : ((Rows.fnExactPowerModuloRow.knobs == [])) = true := by kernel_rfl
theorem powerModulo_k8 : ((Tryd.pinned.checked.prog.stopKnobs == [])) = true := by kernel_rfl
theorem powerModulo_k9 : ((Rows.fnExactPowerModuloRow.inPlace == Tryd.pinned.checked.prog.inPlace 4)) = true := by kernel_rfl
theorem powerModulo_k10 : ((Rows.fnExactPowerModuloRow.unfollowed == Tryd.pinned.checked.prog.unfollowed 4)) = true := by kernel_rfl
theorem powerModulo_k11 : ((Rows.fnExactPowerModuloRow.recurses == Tryd.pinned.checked.prog.recurses 4)) = true := by kernel_rfl
theorem powerModulo_k12 : ((Rows.fnExactPowerModuloRow.named == Tryd.pinned.checked.prog.varsNamed 4)) = true := by kernel_rfl
theorem powerModulo_k13 : ((Rows.fnExactPowerModuloRow.maps == (Tryd.f4.params.toList ++ Rows.fnExactPowerModuloSpec.plain.varTypes Tryd.pinned.checked.prog).any (Tryd.pinned.checked.prog.mapsRec ·))) = true := by kernel_rfl
theorem powerModulo_k14 : ((Rows.fnExactPowerModuloRow.ifaces == (Tryd.f4.params.toList ++ Rows.fnExactPowerModuloSpec.plain.varTypes Tryd.pinned.checked.prog).any (Tryd.pinned.checked.prog.ifacesRec ·))) = true := by kernel_rfl
theorem powerModulo_k15 : ((Rows.fnExactPowerModuloRow.mapsOut == Tryd.pinned.checked.prog.mapsAmong Tryd.f4.resultTypes.toList)) = true := by kernel_rfl
theorem powerModulo_k16 : ((Rows.fnExactPowerModuloRow.loops == (Tryd.f4.params.toList ++ Rows.fnExactPowerModuloSpec.plain.varTypes Tryd.pinned.checked.prog).any (Tryd.pinned.checked.prog.loopsFrom ·))) = true := by kernel_rfl
theorem powerModulo_k17 : ((Rows.fnExactPowerModuloRow.wideKeys == (Tryd.f4.params.toList ++ Rows.fnExactPowerModuloSpec.plain.varTypes Tryd.pinned.checked.prog ++ Tryd.f4.resultTypes.toList).any (Tryd.pinned.checked.prog.wideKeysFrom ·))) = true := by kernel_rfl
theorem powerModulo_k18 : (Rows.fnExactPowerModuloSpec.vars.all (Tryd.pinned.checked.prog.varReadable ·)) = true := by kernel_rfl
theorem powerModulo_k19 : (Tryd.f4.resultTypes.all (fun t => Tryd.pinned.checked.prog.readableRec t && decide (t < Tryd.pinned.checked.prog.types.size))) = true := by kernel_rfl
theorem powerModulo_k20 : ((Rows.fnExactPowerModuloRow.ifacesOut == Tryd.f4.resultTypes.toList.any (Tryd.pinned.checked.prog.ifacesRec ·))) = true := by kernel_rfl
theorem powerModulo_k21 : ((Rows.fnExactPowerModuloRow.loopsOut == Tryd.f4.resultTypes.toList.any (Tryd.pinned.checked.prog.loopsFrom ·))) = true := by kernel_rfl
theorem powerModulo_k22 : ((Rows.fnExactPowerModuloRow.plainKeys == Tryd.pinned.checked.prog.plainKeys)) = true := by kernel_rfl
theorem powerModulo_k23 : (Rows.fnExactPowerModuloRow.shortTexts.isNone) = true := by kernel_rfl
theorem powerModulo_k24 : (Tryd.pinned.checked.prog.stopsHeard) = true := by kernel_rfl
theorem powerModulo_k25 : (Tryd.pinned.checked.prog.mayEnter) = true := x_enter
theorem powerModulo_k26 : ((Rows.fnExactPowerModuloRow.lifted == Tryd.pinned.checked.prog.liftsFinal)) = true := by rw [x_lifts]; rfl
theorem powerModulo_k27 : ((Tryd.pinned.checked.prog.make == some Rows.fnExactPowerModuloRow.make)) = true := by rw [x_make]; rfl
theorem powerModulo_k28 : ((Rows.fnExactPowerModuloRow.kinds == (if Rows.fnExactPowerModuloRow.domain.isEmpty then [] else Tryd.f4.params.toList.map fun t => match Tryd.pinned.checked.prog.underlying t with | some (.int k) => some k | _ => none))) = true := by kernel_rfl
theorem powerModulo_k29 : ((Rows.fnExactPowerModuloRow.pinned == Rows.fnExactPowerModuloRow.pinnedBy)) = true := by kernel_rfl
theorem powerModulo_k30 : ((Rows.fnExactPowerModuloRow.veiled == (Tryd.f4.params.toList ++ Rows.fnExactPowerModuloSpec.plain.varTypes Tryd.pinned.checked.prog ++ Tryd.f4.resultTypes.toList).any (Tryd.pinned.checked.prog.veiledRec ·))) = true := by kernel_rfl
theorem powerModulo_k31 : (Rows.fnExactPowerModuloRow.veiledFits Tryd.pinned.checked.prog Tryd.f4.params.toList (Tryd.f4.params.toList ++ Rows.fnExactPowerModuloSpec.plain.varTypes Tryd.pinned.checked.prog ++ Tryd.f4.resultTypes.toList)) = true := by kernel_rfl
theorem powerModulo_pkg : decide (Check.packageOf Tryd.f4.name = "main") = false := by kernel_rfl
theorem powerModulo_inst : Func.isInstance Tryd.pinned.checked.prog Tryd.f4 Rows.fnExactPowerModuloRow.origin Rows.fnExactPowerModuloRow.targs := of_decide_eq_true (by kernel_rfl)
theorem powerModulo_wrap : Func.isWrapper Tryd.pinned.checked.prog Tryd.f4 Rows.fnExactPowerModuloRow.wrapper Rows.fnExactPowerModuloRow.mainSum := by
  unfold Func.isWrapper; rw [if_neg (of_decide_eq_false powerModulo_pkg)]; exact ⟨rfl, rfl⟩
set_option maxRecDepth 100000 in
theorem powerModulo_closed : joinedFacts Tryd.pinned.checked.prog 4 Tryd.f4 Rows.fnExactPowerModuloSpec Rows.fnExactPowerModuloRow = true :=
  (and_of (and_of (and_of (and_of (and_of (and_of (and_of (and_of (and_of (and_of (and_of (and_of (and_of (and_of (and_of (and_of (and_of (and_of (and_of (and_of (and_of (and_of (and_of (and_of (and_of (and_of (and_of (and_of (and_of (and_of (and_of powerModulo_k0 powerModulo_k1) powerModulo_k2) powerModulo_k3) powerModulo_k4) powerModulo_k5) powerModulo_k6) powerModulo_k7) powerModulo_k8) powerModulo_k9) powerModulo_k10) powerModulo_k11) powerModulo_k12) powerModulo_k13) powerModulo_k14) powerModulo_k15) powerModulo_k16) powerModulo_k17) powerModulo_k18) powerModulo_k19) powerModulo_k20) powerModulo_k21) powerModulo_k22) powerModulo_k23) powerModulo_k24) powerModulo_k25) powerModulo_k26) powerModulo_k27) powerModulo_k28) powerModulo_k29) powerModulo_k30) powerModulo_k31)
theorem powerModulo_holds : Rows.FnExactPowerModuloSaid :=
  OpenClaim.holds_of_wide 4 Tryd.f4 rfl rfl rfl rfl rfl rfl rfl ⟨rfl, rfl, rfl, rfl, rfl⟩ rfl rfl rfl rfl rfl (by kernel_rfl) Tryd.func4 powerModulo_closed
    powerModulo_inst powerModulo_wrap (fun os started H enc _ => powerModulo_lifted os started H enc)
theorem powerModulo_w3 : Tryd.prog.wantsStandIn 3 = false := by kernel_rfl
theorem powerModulo_name : Tryd.prog.funcNamed "loop.example/g01146/laws.FnExactPowerModulo" = some 4 := by kernel_rfl
theorem powerModulo_card : Rows.FnExactPowerModuloCardSaid :=
  Claim7.holds_tied_plain_at .later [] [.data, .data] true (true, "388ee0ae145d23ac1ab759b6700f2552c05dba57c60f8ab68331fd4cfaa8879b") false
    powerModulo_holds (fun _ h => by cases h) (by kernel_rfl) (fun _ h => by cases h) fnExactPowerModulo_row_tie rfl ⟨rfl, rfl⟩ (by kernel_rfl) rfl
    (fun f fn hf hfn => by
      obtain rfl : f = 4 := Option.some.inj (powerModulo_name.symm.trans hf) |>.symm
      obtain rfl : fn = Tryd.f4 := (Option.some.inj (Tryd.func4.symm.trans hfn)).symm
      exact ⟨by kernel_rfl, fun j t ht => by
        rw [Tryd.params4] at ht
        have hmem : t ∈ ([3, 3, 3] : List TypeId) := by
          have := Array.mem_of_getElem? ht
          simpa using this
        simp only [List.mem_cons, List.not_mem_nil, or_false] at hmem
        rcases hmem with rfl | rfl | rfl
        · exact powerModulo_w3
        · exact powerModulo_w3
        · exact powerModulo_w3⟩)
    (by kernel_rfl)
end Go.Proofs.YtmkdikoogbedkaaDoor
