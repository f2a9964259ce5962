/-
Fibonacci's polynomials have as common divisors those of the divisors of their numbers, and come back for each polynomial: at every two lists of bytes the law returns true. The table of math/bits is tied to the program's text.
-/
import Derived.Test.YtibikoajejfdeaaDoorLF
import Derived.Test.YtibikoajejfdeaaDoorP
import Derived.Test.YtibikoajejfdeaaDoorQ1
import Derived.Test.YtibikoajejfdeaaDoorQ2
import Derived.Test.YtibikoajejfdeaaDoorTie
import Derived.Test.YtibikoajejfdeaaDoorCards
import Derived.SevenTiedAt
namespace Go.Proofs.YtibikoajejfdeaaDoor
open Go.ChangeShapes Go.WideShapes Go.ChangeAt Go.WideElems Go.RowKit
set_option maxRecDepth 100000 in
theorem fibonaccis_lifted (os : Os) (started : os.Started) (H : Type) (enc : TypeId × Value → H) :
    ReturnsInHanded {} Tryd.checked os 3 .any (fun w args => (Rows.fnFibonaccisPolynomialsSpec.pre enc Tryd.prog Tryd.f3 [] false w args ∧ laidMetH Tryd.prog laidL w) ∧ sizedMet enc Tryd.prog Tryd.f3 (OpenSpec.ofChange Rows.fnFibonaccisPolynomialsSpec) false w args)
      (Rows.fnFibonaccisPolynomialsSpec.post enc Tryd.prog Tryd.f3 false true false false) := by
  refine returnsInHanded_of_change_and (C := Tryd.checked) (X := fun w _ => laidMetH Tryd.prog laidL w) (fun _ _ _ hh h => h.of_heap hh) Tryd.own started (by kernel_rfl) Tryd.func3
    (ChangeSpec.witness_shaped (enc := enc) (C := Tryd.checked) (os := os) (X := fun w _ => laidMetH Tryd.prog laidL w) false (World.doorLaid Tryd.prog 400 os) #[.slice none 0 0, .slice none 0 0] 8 rfl (World.shaped_of_RefB (by kernel_rfl) (by kernel_rfl)) (by kernel_rfl) (by kernel_rfl) (by kernel_rfl) (door_met os _)) ?_
  intro W base args ds gs before hval0 hW _ _ hL _
  have hval : ∀ (j : Nat) t v, Tryd.f3.params[j]? = some t → args[j]? = some v → Value.okWide Tryd.prog W .any base t v := hval0
  have hW' := hW
  obtain ⟨p, q, hA0, hV, rfl, hfz, hnd⟩ := hW
  have hA : DataW.TrodAll enc Tryd.prog W 0 (fun _ => true) true Tryd.f3.params.toList args.toList ds p := hA0
  rw [Tryd.params3] at hA hval
  obtain ⟨v0, v1, d0, d1, p0, p1, rfl, rfl, rfl, h0, h1⟩ := trodAll_two hA
  obtain ⟨rfl, rfl⟩ := trodVars_none hV
  obtain ⟨A0, n0, c0, f0, rfl, hn0, hs0, hw0⟩ := open_bytes (hval 0 22 v0 rfl rfl) h0
  obtain ⟨A1, n1, c1, f1, rfl, hn1, hs1, hw1⟩ := open_bytes (hval 1 22 v1 rfl rfl) h1
  have hT := tab_of_laid hL
  clear hA0 hval0
  simp only [List.append_nil] at hW'
  have hlt0 : ∀ x ∈ p0, x.block < W.heap.size := fun x hx => hW'.lt x (by simp [hx])
  have hlt1 : ∀ x ∈ p1, x.block < W.heap.size := fun x hx => hW'.lt x (by simp [hx])
  refine (lawFP A0 A1 n0 c0 n1 c1 f0 f1 W hn0 hn1 hs0 hs1 hw0 hw1 hT).mono fun e W' ⟨he, hb⟩ => ?_
  subst he
  exact ⟨_, rfl, post_of_below (pa := p0 ++ (p1)) (pv := []) hW' (fun _ _ _ => trodAll_mk1 (shut_bool Tryd.underlying4 true))
    (fun sp hsp => trodAll_mk2 (stays Tryd.laidOut (by kernel_rfl) (of_decide_eq_true (by kernel_rfl)) h0 hb hlt0 (fun x hx => hsp x (by simp [hx]))) (stays Tryd.laidOut (by kernel_rfl) (of_decide_eq_true (by kernel_rfl)) h1 hb hlt1 (fun x hx => hsp x (by simp [hx])))) (fun _ _ => rfl) (by simp) hb
    (ok_one (by kernel_rfl) rfl (okWide_bool_mk Tryd.underlying4 true))⟩
theorem fibonaccis_k0 : (Rows.fnFibonaccisPolynomialsRow.wf (OpenSpec.ofChange Rows.fnFibonaccisPolynomialsSpec)) = true := by kernel_rfl
theorem fibonaccis_k1 : (laidOutB Tryd.pinned.checked.prog) = true := by kernel_rfl
theorem fibonaccis_k2 : (mapsRowed Tryd.pinned.checked.prog) = true := by kernel_rfl
theorem fibonaccis_k3 : (Tryd.f3.params.all (Tryd.pinned.checked.prog.readableRec ·)) = true := by kernel_rfl
theorem fibonaccis_k4 : (namedTie Tryd.pinned.checked.prog Rows.fnFibonaccisPolynomialsRow.named Rows.fnFibonaccisPolynomialsSpec.vars) = true := by kernel_rfl
theorem fibonaccis_k5 : ((Rows.fnFibonaccisPolynomialsRow.stops == [])) = true := by kernel_rfl
theorem fibonaccis_k6 : ((Tryd.pinned.checked.prog.stops == [])) = true := by kernel_rfl
theorem fibonaccis_k7 : ((Rows.fnFibonaccisPolynomialsRow.knobs == [])) = true := by kernel_rfl
theorem fibonaccis_k8 : ((Tryd.pinned.checked.prog.stopKnobs == [])) = true := by kernel_rfl
theorem fibonaccis_k9 : ((Rows.fnFibonaccisPolynomialsRow.inPlace == Tryd.pinned.checked.prog.inPlace 3)) = true := by kernel_rfl
theorem fibonaccis_k10 : ((Rows.fnFibonaccisPolynomialsRow.unfollowed == Tryd.pinned.checked.prog.unfollowed 3)) = true := by kernel_rfl
theorem fibonaccis_k11 : ((Rows.fnFibonaccisPolynomialsRow.recurses == Tryd.pinned.checked.prog.recurses 3)) = true := by kernel_rfl
theorem fibonaccis_k12 : ((Rows.fnFibonaccisPolynomialsRow.named == Tryd.pinned.checked.prog.varsNamed 3)) = true := by kernel_rfl
theorem fibonaccis_k13 : ((Rows.fnFibonaccisPolynomialsRow.maps == (Tryd.f3.params.toList ++ Rows.fnFibonaccisPolynomialsSpec.plain.varTypes Tryd.pinned.checked.prog).any (Tryd.pinned.checked.prog.mapsRec ·))) = true := by kernel_rfl
theorem fibonaccis_k14 : ((Rows.fnFibonaccisPolynomialsRow.ifaces == (Tryd.f3.params.toList ++ Rows.fnFibonaccisPolynomialsSpec.plain.varTypes Tryd.pinned.checked.prog).any (Tryd.pinned.checked.prog.ifacesRec ·))) = true := by kernel_rfl
theorem fibonaccis_k15 : ((Rows.fnFibonaccisPolynomialsRow.mapsOut == Tryd.pinned.checked.prog.mapsAmong Tryd.f3.resultTypes.toList)) = true := by kernel_rfl
theorem fibonaccis_k16 : ((Rows.fnFibonaccisPolynomialsRow.loops == (Tryd.f3.params.toList ++ Rows.fnFibonaccisPolynomialsSpec.plain.varTypes Tryd.pinned.checked.prog).any (Tryd.pinned.checked.prog.loopsFrom ·))) = true := by kernel_rfl
theorem fibonaccis_k17 : ((Rows.fnFibonaccisPolynomialsRow.wideKeys == (Tryd.f3.params.toList ++ Rows.fnFibonaccisPolynomialsSpec.plain.varTypes Tryd.pinned.checked.prog ++ Tryd.f3.resultTypes.toList).any (Tryd.pinned.checked.prog.wideKeysFrom ·))) = true := by kernel_rfl
theorem fibonaccis_k18 : (Rows.fnFibonaccisPolynomialsSpec.vars.all (Tryd.pinned.checked.prog.varReadable ·)) = true := by kernel_rfl
theorem fibonaccis_k19 : (Tryd.f3.resultTypes.all (fun t => Tryd.pinned.checked.prog.readableRec t && decide (t < Tryd.pinned.checked.prog.types.size))) = true := by kernel_rfl
theorem fibonaccis_k20 : ((Rows.fnFibonaccisPolynomialsRow.ifacesOut == Tryd.f3.resultTypes.toList.any (Tryd.pinned.checked.prog.ifacesRec ·))) = true := by kernel_rfl
theorem fibonaccis_k21 : ((Rows.fnFibonaccisPolynomialsRow.loopsOut == Tryd.f3.resultTypes.toList.any (Tryd.pinned.checked.prog.loopsFrom ·))) = true := by kernel_rfl
theorem fibonaccis_k22 : ((Rows.fnFibonaccisPolynomialsRow.plainKeys == Tryd.pinned.checked.prog.plainKeys)) = true := by kernel_rfl
theorem fibonaccis_k23 : (Rows.fnFibonaccisPolynomialsRow.shortTexts.isNone) = true := by kernel_rfl
theorem fibonaccis_k24 : (Tryd.pinned.checked.prog.stopsHeard) = true := by kernel_rfl
theorem fibonaccis_k25 : (Tryd.pinned.checked.prog.mayEnter) = true := x_enter
theorem fibonaccis_k26 : ((Rows.fnFibonaccisPolynomialsRow.lifted == Tryd.pinned.checked.prog.liftsFinal)) = true := by rw [x_lifts]; rfl
theorem fibonaccis_k27 : ((Tryd.pinned.checked.prog.make == some Rows.fnFibonaccisPolynomialsRow.make)) = true := by rw [x_make]; rfl
theorem fibonaccis_k28 : ((Rows.fnFibonaccisPolynomialsRow.kinds == (if Rows.fnFibonaccisPolynomialsRow.domain.isEmpty then [] else Tryd.f3.params.toList.map fun t => match Tryd.pinned.checked.prog.underlying t with | some (.int k) => some k | _ => none))) = true := by kernel_rfl
theorem fibonaccis_k29 : ((Rows.fnFibonaccisPolynomialsRow.pinned == Rows.fnFibonaccisPolynomialsRow.pinnedBy)) = true := by kernel_rfl
theorem fibonaccis_k30 : ((Rows.fnFibonaccisPolynomialsRow.veiled == (Tryd.f3.params.toList ++ Rows.fnFibonaccisPolynomialsSpec.plain.varTypes Tryd.pinned.checked.prog ++ Tryd.f3.resultTypes.toList).any (Tryd.pinned.checked.prog.veiledRec ·))) = true := by kernel_rfl
theorem fibonaccis_k31 : (Rows.fnFibonaccisPolynomialsRow.veiledFits Tryd.pinned.checked.prog Tryd.f3.params.toList (Tryd.f3.params.toList ++ Rows.fnFibonaccisPolynomialsSpec.plain.varTypes Tryd.pinned.checked.prog ++ Tryd.f3.resultTypes.toList)) = true := by kernel_rfl
theorem fibonaccis_pkg : decide (Check.packageOf Tryd.f3.name = "main") = false := by kernel_rfl
theorem fibonaccis_inst : Func.isInstance Tryd.pinned.checked.prog Tryd.f3 Rows.fnFibonaccisPolynomialsRow.origin Rows.fnFibonaccisPolynomialsRow.targs := of_decide_eq_true (by kernel_rfl)
theorem fibonaccis_wrap : Func.isWrapper Tryd.pinned.checked.prog Tryd.f3 Rows.fnFibonaccisPolynomialsRow.wrapper Rows.fnFibonaccisPolynomialsRow.mainSum := by
  unfold Func.isWrapper; rw [if_neg (of_decide_eq_false fibonaccis_pkg)]; exact ⟨rfl, rfl⟩
set_option maxRecDepth 100000 in
theorem fibonaccis_closed : joinedFacts Tryd.pinned.checked.prog 3 Tryd.f3 Rows.fnFibonaccisPolynomialsSpec Rows.fnFibonaccisPolynomialsRow = true :=
  (and_of (and_of (and_of (and_of (and_of (and_of (and_of (and_of (and_of (and_of (and_of (and_of (and_of (and_of (and_of (and_of (and_of (and_of (and_of (and_of (and_of (and_of (and_of (and_of (and_of (and_of (and_of (and_of (and_of (and_of (and_of fibonaccis_k0 fibonaccis_k1) fibonaccis_k2) fibonaccis_k3) fibonaccis_k4) fibonaccis_k5) fibonaccis_k6) fibonaccis_k7) fibonaccis_k8) fibonaccis_k9) fibonaccis_k10) fibonaccis_k11) fibonaccis_k12) fibonaccis_k13) fibonaccis_k14) fibonaccis_k15) fibonaccis_k16) fibonaccis_k17) fibonaccis_k18) fibonaccis_k19) fibonaccis_k20) fibonaccis_k21) fibonaccis_k22) fibonaccis_k23) fibonaccis_k24) fibonaccis_k25) fibonaccis_k26) fibonaccis_k27) fibonaccis_k28) fibonaccis_k29) fibonaccis_k30) fibonaccis_k31)
theorem fibonaccis_holds : Rows.FnFibonaccisPolynomialsSaid :=
  OpenClaim.holds_of_wide 3 Tryd.f3 rfl rfl rfl rfl rfl rfl rfl ⟨rfl, rfl, rfl, rfl, rfl⟩ rfl rfl rfl rfl rfl (by kernel_rfl) Tryd.func3 fibonaccis_closed
    fibonaccis_inst fibonaccis_wrap (fun os started H enc _ => fibonaccis_lifted os started H enc)
theorem fibonaccis_w22 : Tryd.prog.wantsStandIn 22 = false := by kernel_rfl
theorem fibonaccis_name : Tryd.prog.funcNamed "loop.example/g01146/laws.FnFibonaccisPolynomials" = some 3 := by kernel_rfl
theorem fibonaccis_card : Rows.FnFibonaccisPolynomialsCardSaid :=
  Claim7.holds_tied_plain_at .later [] [.data, .data] true (true, "232ea79f767611a9e292b4757913f870b7966922cc58bb3d8da2221f1a8fd94f") false
    fibonaccis_holds (fun _ h => by cases h) (by kernel_rfl) (fun _ h => by cases h) fnFibonaccisPolynomials_row_tie rfl ⟨rfl, rfl⟩ (by kernel_rfl) rfl
    (fun f fn hf hfn => by
      obtain rfl : f = 3 := Option.some.inj (fibonaccis_name.symm.trans hf) |>.symm
      obtain rfl : fn = Tryd.f3 := (Option.some.inj (Tryd.func3.symm.trans hfn)).symm
      exact ⟨by kernel_rfl, fun j t ht => by
        rw [Tryd.params3] at ht
        have hmem : t ∈ ([22, 22] : List TypeId) := by
          have := Array.mem_of_getElem? ht
          simpa using this
        simp only [List.mem_cons, List.not_mem_nil, or_false] at hmem
        rcases hmem with rfl | rfl
        · exact fibonaccis_w22
        · exact fibonaccis_w22⟩)
    (by kernel_rfl)
end Go.Proofs.YtibikoajejfdeaaDoor
