/-
FarthestBoard answers as its model at every graph value, and leaves its argument as it was. No condition.
-/
import Derived.Test.YtodbhokokdckkaaLB
import Derived.Test.YtodbhokokdckkaaP
import Derived.Test.YtodbhokokdckkaaQ1
namespace Go.Proofs.Ytodbhokokdckkaa
open Go.ChangeShapes Go.WideShapes Go.ChangeAt Go.RowKit
set_option maxRecDepth 100000 in
theorem farthestBoard_lifted (os : Os) (started : os.Started) (H : Type) (enc : TypeId × Value → H) :
    ReturnsInHanded {} Try.checked os 18 .any (Rows.fnExactFarthestBoardSpec.pre6 enc Try.prog Try.f18 Rows.fnExactFarthestBoardRow.domain false) (Rows.fnExactFarthestBoardSpec.post enc Try.prog Try.f18 false true false false) := by
  refine returnsInHanded_of_change (C := Try.checked) Try.own started (by kernel_rfl) Try.func18
    (ChangeSpec.witness6 (enc := enc) (C := Try.checked) false ⟨#[], #[.agg #[.slice none 0 0, .bool false]], []⟩ 8 (by kernel_rfl) (by kernel_rfl) (by kernel_rfl) (by kernel_rfl)) ?_
  intro W base args ds gs before hval0 hW hcnd _
  have hval : ∀ (j : Nat) t v, Try.f18.params[j]? = some t → args[j]? = some v → Value.okWide Try.prog W .any base t v := hval0
  have hW' := hW
  obtain ⟨p, q, hA0, hV, rfl, hfz, hnd⟩ := hW
  have hA : DataW.TrodAll enc Try.prog W 0 (fun _ => true) true Try.f18.params.toList args.toList ds p := hA0
  rw [Try.params18] at hA hval
  obtain ⟨v0, d0, rfl, rfl, h0⟩ := trodAll_one hA
  obtain ⟨rfl, rfl⟩ := trodVars_none hV
  obtain ⟨A0, n0, c0, f0, own0, rfl, hn0, hs0, hw0⟩ := open_graph (hval 0 24 v0 rfl rfl) h0
  clear hA0 hval0
  simp only [List.append_nil] at hW'
  have hlt0 : ∀ x ∈ p, x.block < W.heap.size := fun x hx => hW'.lt x (by simp [hx])
  refine (lawFar A0 n0 c0 f0 own0 W hn0 hs0).mono fun e W' ⟨he, hb⟩ => ?_
  subst he
  exact ⟨_, rfl, post_of_below (pa := p) (pv := []) hW' (fun _ _ _ => trodAll_mk1 (shut_bool Try.underlying4 true))
    (fun sp hsp => trodAll_mk1 (stays Try.laidOut (by kernel_rfl) (of_decide_eq_true (by kernel_rfl)) h0 hb hlt0 (fun x hx => hsp x (by simp [hx])))) (fun _ _ => rfl) (by simp) hb
    (ok_one (by kernel_rfl) rfl (okWide_bool_mk Try.underlying4 true))⟩
theorem farthestBoard_k0 : (Rows.fnExactFarthestBoardRow.wf (OpenSpec.ofChange Rows.fnExactFarthestBoardSpec)) = true := by kernel_rfl
theorem farthestBoard_k1 : (laidOutB Try.pinned.checked.prog) = true := by kernel_rfl
theorem farthestBoard_k2 : (mapsRowed Try.pinned.checked.prog) = true := by kernel_rfl
theorem farthestBoard_k3 : (Try.f18.params.all (Try.pinned.checked.prog.readableRec ·)) = true := by kernel_rfl
theorem farthestBoard_k4 : (namedTie Try.pinned.checked.prog Rows.fnExactFarthestBoardRow.named Rows.fnExactFarthestBoardSpec.vars) = true := by kernel_rfl
theorem farthestBoard_k5 : ((Rows.fnExactFarthestBoardRow.stops == [])) = true := by kernel_rfl
theorem farthestBoard_k6 : ((Try.pinned.checked.prog.stops == [])) = true := by kernel_rfl
theorem farthestBoard_k7 : ((Rows.fnExactFarthestBoardRow.knobs == [])) = true := by kernel_rfl
theorem farthestBoard_k8 : ((Try.pinned.checked.prog.stopKnobs == [])) = true := by kernel_rfl
theorem farthestBoard_k9 : ((Rows.fnExactFarthestBoardRow.inPlace == Try.pinned.checked.prog.inPlace 18)) = true := by kernel_rfl
theorem farthestBoard_k10 : ((Rows.fnExactFarthestBoardRow.unfollowed == Try.pinned.checked.prog.unfollowed 18)) = true := by kernel_rfl
theorem farthestBoard_k11 : ((Rows.fnExactFarthestBoardRow.recurses == Try.pinned.checked.prog.recurses 18)) = true := by kernel_rfl
theorem farthestBoard_k12 : ((Rows.fnExactFarthestBoardRow.named == Try.pinned.checked.prog.varsNamed 18)) = true := by kernel_rfl
theorem farthestBoard_k13 : ((Rows.fnExactFarthestBoardRow.maps == (Try.f18.params.toList ++ Rows.fnExactFarthestBoardSpec.plain.varTypes Try.pinned.checked.prog).any (Try.pinned.checked.prog.mapsRec ·))) = true := by kernel_rfl
theorem farthestBoard_k14 : ((Rows.fnExactFarthestBoardRow.ifaces == (Try.f18.params.toList ++ Rows.fnExactFarthestBoardSpec.plain.varTypes Try.pinned.checked.prog).any (Try.pinned.checked.prog.ifacesRec ·))) = true := by kernel_rfl
theorem farthestBoard_k15 : ((Rows.fnExactFarthestBoardRow.mapsOut == Try.pinned.checked.prog.mapsAmong Try.f18.resultTypes.toList)) = true := by kernel_rfl
theorem farthestBoard_k16 : ((Rows.fnExactFarthestBoardRow.loops == (Try.f18.params.toList ++ Rows.fnExactFarthestBoardSpec.plain.varTypes Try.pinned.checked.prog).any (Try.pinned.checked.prog.loopsFrom ·))) = true := by kernel_rfl
theorem farthestBoard_k17 : ((Rows.fnExactFarthestBoardRow.wideKeys == (Try.f18.params.toList ++ Rows.fnExactFarthestBoardSpec.plain.varTypes Try.pinned.checked.prog ++ Try.f18.resultTypes.toList).any (Try.pinned.checked.prog.wideKeysFrom ·))) = true := by kernel_rfl
theorem farthestBoard_k18 : (Rows.fnExactFarthestBoardSpec.vars.all (Try.pinned.checked.prog.varReadable ·)) = true := by kernel_rfl
theorem farthestBoard_k19 : (Try.f18.resultTypes.all (fun t => Try.pinned.checked.prog.readableRec t && decide (t < Try.pinned.checked.prog.types.size))) = true := by kernel_rfl
theorem farthestBoard_k20 : ((Rows.fnExactFarthestBoardRow.ifacesOut == Try.f18.resultTypes.toList.any (Try.pinned.checked.prog.ifacesRec ·))) = true := by kernel_rfl
theorem farthestBoard_k21 : ((Rows.fnExactFarthestBoardRow.loopsOut == Try.f18.resultTypes.toList.any (Try.pinned.checked.prog.loopsFrom ·))) = true := by kernel_rfl
theorem farthestBoard_k22 : ((Rows.fnExactFarthestBoardRow.plainKeys == Try.pinned.checked.prog.plainKeys)) = true := by kernel_rfl
theorem farthestBoard_k23 : (Rows.fnExactFarthestBoardRow.shortTexts.isNone) = true := by kernel_rfl
theorem farthestBoard_k24 : (Try.pinned.checked.prog.stopsHeard) = true := by kernel_rfl
theorem farthestBoard_k25 : (Try.pinned.checked.prog.mayEnter) = true := x_enter
theorem farthestBoard_k26 : ((Rows.fnExactFarthestBoardRow.lifted == Try.pinned.checked.prog.liftsFinal)) = true := by rw [x_lifts]; rfl
theorem farthestBoard_k27 : ((Try.pinned.checked.prog.make == some Rows.fnExactFarthestBoardRow.make)) = true := by rw [x_make]; rfl
theorem farthestBoard_k28 : ((Rows.fnExactFarthestBoardRow.kinds == (if Rows.fnExactFarthestBoardRow.domain.isEmpty then [] else Try.f18.params.toList.map fun t => match Try.pinned.checked.prog.underlying t with | some (.int k) => some k | _ => none))) = true := by kernel_rfl
theorem farthestBoard_k29 : ((Rows.fnExactFarthestBoardRow.pinned == Rows.fnExactFarthestBoardRow.pinnedBy)) = true := by kernel_rfl
theorem farthestBoard_k30 : ((Rows.fnExactFarthestBoardRow.veiled == (Try.f18.params.toList ++ Rows.fnExactFarthestBoardSpec.plain.varTypes Try.pinned.checked.prog ++ Try.f18.resultTypes.toList).any (Try.pinned.checked.prog.veiledRec ·))) = true := by kernel_rfl
theorem farthestBoard_k31 : (Rows.fnExactFarthestBoardRow.veiledFits Try.pinned.checked.prog Try.f18.params.toList (Try.f18.params.toList ++ Rows.fnExactFarthestBoardSpec.plain.varTypes Try.pinned.checked.prog ++ Try.f18.resultTypes.toList)) = true := by kernel_rfl
theorem farthestBoard_pkg : decide (Check.packageOf Try.f18.name = "main") = false := by kernel_rfl
theorem farthestBoard_inst : Func.isInstance Try.pinned.checked.prog Try.f18 Rows.fnExactFarthestBoardRow.origin Rows.fnExactFarthestBoardRow.targs := of_decide_eq_true (by kernel_rfl)
theorem farthestBoard_wrap : Func.isWrapper Try.pinned.checked.prog Try.f18 Rows.fnExactFarthestBoardRow.wrapper Rows.fnExactFarthestBoardRow.mainSum := by
  unfold Func.isWrapper; rw [if_neg (of_decide_eq_false farthestBoard_pkg)]; exact ⟨rfl, rfl⟩
theorem farthestBoard_closed : joinedFacts Try.pinned.checked.prog 18 Try.f18 Rows.fnExactFarthestBoardSpec Rows.fnExactFarthestBoardRow = true :=
  (and_of (and_of (and_of (and_of (and_of (and_of (and_of (and_of (and_of (and_of (and_of (and_of (and_of (and_of (and_of (and_of (and_of (and_of (and_of (and_of (and_of (and_of (and_of (and_of (and_of (and_of (and_of (and_of (and_of (and_of (and_of farthestBoard_k0 farthestBoard_k1) farthestBoard_k2) farthestBoard_k3) farthestBoard_k4) farthestBoard_k5) farthestBoard_k6) farthestBoard_k7) farthestBoard_k8) farthestBoard_k9) farthestBoard_k10) farthestBoard_k11) farthestBoard_k12) farthestBoard_k13) farthestBoard_k14) farthestBoard_k15) farthestBoard_k16) farthestBoard_k17) farthestBoard_k18) farthestBoard_k19) farthestBoard_k20) farthestBoard_k21) farthestBoard_k22) farthestBoard_k23) farthestBoard_k24) farthestBoard_k25) farthestBoard_k26) farthestBoard_k27) farthestBoard_k28) farthestBoard_k29) farthestBoard_k30) farthestBoard_k31)
theorem farthestBoard_holds : Rows.FnExactFarthestBoardSaid :=
  OpenClaim.holds_of_wide 18 Try.f18 rfl rfl rfl rfl rfl rfl rfl ⟨rfl, rfl, rfl, rfl, rfl⟩ rfl rfl rfl rfl rfl (by kernel_rfl) Try.func18 farthestBoard_closed
    farthestBoard_inst farthestBoard_wrap (fun os started H enc _ => farthestBoard_lifted os started H enc)
end Go.Proofs.Ytodbhokokdckkaa
