/-
RenameGraph answers as its model at every graph and list of names, and its answers share no memory. The table of math/bits is tied to the program's text.
-/
import Derived.Test.YtmkdikoogbedkaaDoorFM
import Derived.Test.YtmkdikoogbedkaaDoorP
import Derived.Test.YtmkdikoogbedkaaDoorQ1
import Derived.Test.YtmkdikoogbedkaaDoorQ2
import Derived.Test.YtmkdikoogbedkaaDoorTie
import Derived.Test.YtmkdikoogbedkaaDoorCards
import Derived.SevenTiedAt
namespace Go.Proofs.YtmkdikoogbedkaaDoor
open Go.ChangeShapes Go.WideShapes Go.ChangeAt Go.WideElems Go.RowKit
set_option maxRecDepth 100000 in
theorem renameGraph_lifted (os : Os) (started : os.Started) (H : Type) (enc : TypeId × Value → H) :
    ReturnsInHanded {} Tryd.checked os 5 .any (fun w args => (Rows.fnExactRenameGraphSpec.pre enc Tryd.prog Tryd.f5 [] false w args ∧ laidMetH Tryd.prog laidL w) ∧ sizedMet enc Tryd.prog Tryd.f5 (OpenSpec.ofChange Rows.fnExactRenameGraphSpec) false w args)
      (Rows.fnExactRenameGraphSpec.post enc Tryd.prog Tryd.f5 false true false false) := by
  refine returnsInHanded_of_change_and (C := Tryd.checked) (X := fun w _ => laidMetH Tryd.prog laidL w) (fun _ _ _ hh h => h.of_heap hh) Tryd.own started (by kernel_rfl) Tryd.func5
    (ChangeSpec.witness_shaped (enc := enc) (C := Tryd.checked) (os := os) (X := fun w _ => laidMetH Tryd.prog laidL w) false (World.doorLaid Tryd.prog 400 os) #[.agg #[.slice none 0 0, .bool false], .slice none 0 0] 8 rfl (World.shaped_of_RefB (by kernel_rfl) (by kernel_rfl)) (by kernel_rfl) (by kernel_rfl) (by kernel_rfl) (door_met os _)) ?_
  intro W base args ds gs before hval0 hW _ _ hL _
  have hval : ∀ (j : Nat) t v, Tryd.f5.params[j]? = some t → args[j]? = some v → Value.okWide Tryd.prog W .any base t v := hval0
  have hW' := hW
  obtain ⟨p, q, hA0, hV, rfl, hfz, hnd⟩ := hW
  have hA : DataW.TrodAll enc Tryd.prog W 0 (fun _ => true) true Tryd.f5.params.toList args.toList ds p := hA0
  rw [Tryd.params5] at hA hval
  obtain ⟨v0, v1, d0, d1, p0, p1, rfl, rfl, rfl, h0, h1⟩ := trodAll_two hA
  obtain ⟨rfl, rfl⟩ := trodVars_none hV
  obtain ⟨A0, n0, c0, f0, own0, rfl, hn0, hs0, hw0⟩ := open_graph (hval 0 29 v0 rfl rfl) h0
  obtain ⟨A1, n1, c1, f1, rfl, hn1, hs1, hw1⟩ := open_ints_arg (hval 1 27 v1 rfl rfl) h1
  have hT := tab_of_laid hL
  clear hA0 hval0
  simp only [List.append_nil] at hW'
  have hlt0 : ∀ x ∈ p0, x.block < W.heap.size := fun x hx => hW'.lt x (by simp [hx])
  have hlt1 : ∀ x ∈ p1, x.block < W.heap.size := fun x hx => hW'.lt x (by simp [hx])
  refine (lawRename A0 n0 c0 f0 own0 A1 n1 c1 f1 W hn0 hn1 hs0 hs1 hT).mono fun e W' ⟨he, hb⟩ => ?_
  subst he
  exact ⟨_, rfl, post_of_below (pa := p0 ++ (p1)) (pv := []) hW' (fun _ _ _ => trodAll_mk1 (shut_bool Tryd.underlying4 true))
    (fun sp hsp => trodAll_mk2 (stays Tryd.laidOut (by kernel_rfl) (of_decide_eq_true (by kernel_rfl)) h0 hb hlt0 (fun x hx => hsp x (by simp [hx]))) (stays Tryd.laidOut (by kernel_rfl) (of_decide_eq_true (by kernel_rfl)) h1 hb hlt1 (fun x hx => hsp x (by simp [hx])))) (fun _ _ => rfl) (by simp) hb
    (ok_one (by kernel_rfl) rfl (okWide_bool_mk Tryd.underlying4 true))⟩
theorem renameGraph_k0 : (Rows.fnExactRenameGraphRow.wf (OpenSpec.ofChange Rows.fnExactRenameGraphSpec)) = true := by kernel_rfl
theorem renameGraph_k1 : (laidOutB Tryd.pinned.checked.prog) = true := by kernel_rfl
theorem renameGraph_k2 : (mapsRowed Tryd.pinned.checked.prog) = true := by kernel_rfl
theorem renameGraph_k3 : (Tryd.f5.params.all (Tryd.pinned.checked.prog.readableRec ·)) = true := by kernel_rfl
theorem renameGraph_k4 : (namedTie Tryd.pinned.checked.prog Rows.fnExactRenameGraphRow.named Rows.fnExactRenameGraphSpec.vars) = true := by kernel_rfl
theorem renameGraph_k5 : ((Rows.fnExactRenameGraphRow.stops == [])) = true := by kernel_rfl
theorem renameGraph_k6 : ((Tryd.pinned.checked.prog.stops == [])) = true := by kernel_rfl
theorem renameGraph_k7 : ((Rows.fnExactRenameGraphRow.knobs == [])) = true := by kernel_rfl
theorem renameGraph_k8 : ((Tryd.pinned.checked.prog.stopKnobs == [])) = true := by kernel_rfl
theorem renameGraph_k9 : ((Rows.fnExactRenameGraphRow.inPlace == Tryd.pinned.checked.prog.inPlace 5)) = true := by kernel_rfl
theorem renameGraph_k10 : ((Rows.fnExactRenameGraphRow.unfollowed == Tryd.pinned.checked.prog.unfollowed 5)) = true := by kernel_rfl
theorem renameGraph_k11 : ((Rows.fnExactRenameGraphRow.recurses == Tryd.pinned.checked.prog.recurses 5)) = true := by kernel_rfl
theorem renameGraph_k12 : ((Rows.fnExactRenameGraphRow.named == Tryd.pinned.checked.prog.varsNamed 5)) = true := by kernel_rfl
theorem renameGraph_k13 : ((Rows.fnExactRenameGraphRow.maps == (Tryd.f5.params.toList ++ Rows.fnExactRenameGraphSpec.plain.varTypes Tryd.pinned.checked.prog).any (Tryd.pinned.checked.prog.mapsRec ·))) = true := by kernel_rfl
theorem renameGraph_k14 : ((Rows.fnExactRenameGraphRow.ifaces == (Tryd.f5.params.toList ++ Rows.fnExactRenameGraphSpec.plain.varTypes Tryd.pinned.checked.prog).any (Tryd.pinned.checked.prog.ifacesRec ·))) = true := by kernel_rfl
theorem renameGraph_k15 : ((Rows.fnExactRenameGraphRow.mapsOut == Tryd.pinned.checked.prog.mapsAmong Tryd.f5.resultTypes.toList)) = true := by kernel_rfl
theorem renameGraph_k16 : ((Rows.fnExactRenameGraphRow.loops == (Tryd.f5.params.toList ++ Rows.fnExactRenameGraphSpec.plain.varTypes Tryd.pinned.checked.prog).any (Tryd.pinned.checked.prog.loopsFrom ·))) = true := by kernel_rfl
theorem renameGraph_k17 : ((Rows.fnExactRenameGraphRow.wideKeys == (Tryd.f5.params.toList ++ Rows.fnExactRenameGraphSpec.plain.varTypes Tryd.pinned.checked.prog ++ Tryd.f5.resultTypes.toList).any (Tryd.pinned.checked.prog.wideKeysFrom ·))) = true := by kernel_rfl
theorem renameGraph_k18 : (Rows.fnExactRenameGraphSpec.vars.all (Tryd.pinned.checked.prog.varReadable ·)) = true := by kernel_rfl
theorem renameGraph_k19 : (Tryd.f5.resultTypes.all (fun t => Tryd.pinned.checked.prog.readableRec t && decide (t < Tryd.pinned.checked.prog.types.size))) = true := by kernel_rfl
theorem renameGraph_k20 : ((Rows.fnExactRenameGraphRow.ifacesOut == Tryd.f5.resultTypes.toList.any (Tryd.pinned.checked.prog.ifacesRec ·))) = true := by kernel_rfl
theorem renameGraph_k21 : ((Rows.fnExactRenameGraphRow.loopsOut == Tryd.f5.resultTypes.toList.any (Tryd.pinned.checked.prog.loopsFrom ·))) = true := by kernel_rfl
theorem renameGraph_k22 : ((Rows.fnExactRenameGraphRow.plainKeys == Tryd.pinned.checked.prog.plainKeys)) = true := by kernel_rfl
theorem renameGraph_k23 : (Rows.fnExactRenameGraphRow.shortTexts.isNone) = true := by kernel_rfl
theorem renameGraph_k24 : (Tryd.pinned.checked.prog.stopsHeard) = true := by kernel_rfl
theorem renameGraph_k25 : (Tryd.pinned.checked.prog.mayEnter) = true := x_enter
theorem renameGraph_k26 : ((Rows.fnExactRenameGraphRow.lifted == Tryd.pinned.checked.prog.liftsFinal)) = true := by rw [x_lifts]; rfl
theorem renameGraph_k27 : ((Tryd.pinned.checked.prog.make == some Rows.fnExactRenameGraphRow.make)) = true := by rw [x_make]; rfl
theorem renameGraph_k28 : ((Rows.fnExactRenameGraphRow.kinds == (if Rows.fnExactRenameGraphRow.domain.isEmpty then [] else Tryd.f5.params.toList.map fun t => match Tryd.pinned.checked.prog.underlying t with | some (.int k) => some k | _ => none))) = true := by kernel_rfl
theorem renameGraph_k29 : ((Rows.fnExactRenameGraphRow.pinned == Rows.fnExactRenameGraphRow.pinnedBy)) = true := by kernel_rfl
theorem renameGraph_k30 : ((Rows.fnExactRenameGraphRow.veiled == (Tryd.f5.params.toList ++ Rows.fnExactRenameGraphSpec.plain.varTypes Tryd.pinned.checked.prog ++ Tryd.f5.resultTypes.toList).any (Tryd.pinned.checked.prog.veiledRec ·))) = true := by kernel_rfl
theorem renameGraph_k31 : (Rows.fnExactRenameGraphRow.veiledFits Tryd.pinned.checked.prog Tryd.f5.params.toList (Tryd.f5.params.toList ++ Rows.fnExactRenameGraphSpec.plain.varTypes Tryd.pinned.checked.prog ++ Tryd.f5.resultTypes.toList)) = true := by kernel_rfl
theorem renameGraph_pkg : decide (Check.packageOf Tryd.f5.name = "main") = false := by kernel_rfl
theorem renameGraph_inst : Func.isInstance Tryd.pinned.checked.prog Tryd.f5 Rows.fnExactRenameGraphRow.origin Rows.fnExactRenameGraphRow.targs := of_decide_eq_true (by kernel_rfl)
theorem renameGraph_wrap : Func.isWrapper Tryd.pinned.checked.prog Tryd.f5 Rows.fnExactRenameGraphRow.wrapper Rows.fnExactRenameGraphRow.mainSum := by
  unfold Func.isWrapper; rw [if_neg (of_decide_eq_false renameGraph_pkg)]; exact ⟨rfl, rfl⟩
set_option maxRecDepth 100000 in
theorem renameGraph_closed : joinedFacts Tryd.pinned.checked.prog 5 Tryd.f5 Rows.fnExactRenameGraphSpec Rows.fnExactRenameGraphRow = true :=
  (and_of (and_of (and_of (and_of (and_of (and_of (and_of (and_of (and_of (and_of (and_of (and_of (and_of (and_of (and_of (and_of (and_of (and_of (and_of (and_of (and_of (and_of (and_of (and_of (and_of (and_of (and_of (and_of (and_of (and_of (and_of renameGraph_k0 renameGraph_k1) renameGraph_k2) renameGraph_k3) renameGraph_k4) renameGraph_k5) renameGraph_k6) renameGraph_k7) renameGraph_k8) renameGraph_k9) renameGraph_k10) renameGraph_k11) renameGraph_k12) renameGraph_k13) renameGraph_k14) renameGraph_k15) renameGraph_k16) renameGraph_k17) renameGraph_k18) renameGraph_k19) renameGraph_k20) renameGraph_k21) renameGraph_k22) renameGraph_k23) renameGraph_k24) renameGraph_k25) renameGraph_k26) renameGraph_k27) renameGraph_k28) renameGraph_k29) renameGraph_k30) renameGraph_k31)
theorem renameGraph_holds : Rows.FnExactRenameGraphSaid :=
  OpenClaim.holds_of_wide 5 Tryd.f5 rfl rfl rfl rfl rfl rfl rfl ⟨rfl, rfl, rfl, rfl, rfl⟩ rfl rfl rfl rfl rfl (by kernel_rfl) Tryd.func5 renameGraph_closed
    renameGraph_inst renameGraph_wrap (fun os started H enc _ => renameGraph_lifted os started H enc)
theorem renameGraph_w27 : Tryd.prog.wantsStandIn 27 = false := by kernel_rfl
theorem renameGraph_w29 : Tryd.prog.wantsStandIn 29 = false := by kernel_rfl
theorem renameGraph_name : Tryd.prog.funcNamed "loop.example/g01146/laws.FnExactRenameGraph" = some 5 := by kernel_rfl
theorem renameGraph_card : Rows.FnExactRenameGraphCardSaid :=
  Claim7.holds_tied_plain_at .later [] [.data, .data] true (true, "388ee0ae145d23ac1ab759b6700f2552c05dba57c60f8ab68331fd4cfaa8879b") false
    renameGraph_holds (fun _ h => by cases h) (by kernel_rfl) (fun _ h => by cases h) fnExactRenameGraph_row_tie rfl ⟨rfl, rfl⟩ (by kernel_rfl) rfl
    (fun f fn hf hfn => by
      obtain rfl : f = 5 := Option.some.inj (renameGraph_name.symm.trans hf) |>.symm
      obtain rfl : fn = Tryd.f5 := (Option.some.inj (Tryd.func5.symm.trans hfn)).symm
      exact ⟨by kernel_rfl, fun j t ht => by
        rw [Tryd.params5] at ht
        have hmem : t ∈ ([29, 27] : List TypeId) := by
          have := Array.mem_of_getElem? ht
          simpa using this
        simp only [List.mem_cons, List.not_mem_nil, or_false] at hmem
        rcases hmem with rfl | rfl
        · exact renameGraph_w29
        · exact renameGraph_w27⟩)
    (by kernel_rfl)
end Go.Proofs.YtmkdikoogbedkaaDoor
