/-
RankOf answers as its model at every graph value, and leaves its argument as it was. No condition.
-/
import Derived.Test.YtodbhokokdckkaaLR
import Derived.Test.YtodbhokokdckkaaP
import Derived.Test.YtodbhokokdckkaaQ1
namespace Go.Proofs.Ytodbhokokdckkaa
open Go.ChangeShapes Go.WideShapes Go.ChangeAt Go.RowKit
set_option maxRecDepth 100000 in
theorem rankOf_lifted (os : Os) (started : os.Started) (H : Type) (enc : TypeId × Value → H) :
    ReturnsInHanded {} Try.checked os 6 .any (Rows.fnExactRankOfSpec.pre6 enc Try.prog Try.f6 Rows.fnExactRankOfRow.domain false) (Rows.fnExactRankOfSpec.post enc Try.prog Try.f6 false true false false) := by
  refine returnsInHanded_of_change (C := Try.checked) Try.own started (by kernel_rfl) Try.func6
    (ChangeSpec.witness6 (enc := enc) (C := Try.checked) false ⟨#[], #[.agg #[.slice none 0 0, .bool false]], []⟩ 8 (by kernel_rfl) (by kernel_rfl) (by kernel_rfl) (by kernel_rfl)) ?_
  intro W base args ds gs before hval0 hW hcnd _
  have hval : ∀ (j : Nat) t v, Try.f6.params[j]? = some t → args[j]? = some v → Value.okWide Try.prog W .any base t v := hval0
  have hW' := hW
  obtain ⟨p, q, hA0, hV, rfl, hfz, hnd⟩ := hW
  have hA : DataW.TrodAll enc Try.prog W 0 (fun _ => true) true Try.f6.params.toList args.toList ds p := hA0
  rw [Try.params6] at hA hval
  obtain ⟨v0, d0, rfl, rfl, h0⟩ := trodAll_one hA
  obtain ⟨rfl, rfl⟩ := trodVars_none hV
  obtain ⟨A0, n0, c0, f0, own0, rfl, hn0, hs0, hw0⟩ := open_graph (hval 0 24 v0 rfl rfl) h0
  clear hA0 hval0
  simp only [List.append_nil] at hW'
  have hlt0 : ∀ x ∈ p, x.block < W.heap.size := fun x hx => hW'.lt x (by simp [hx])
  refine (lawRank A0 n0 c0 f0 own0 W hn0 hs0).mono fun e W' ⟨he, hb⟩ => ?_
  subst he
  exact ⟨_, rfl, post_of_below (pa := p) (pv := []) hW' (fun _ _ _ => trodAll_mk1 (shut_bool Try.underlying4 true))
    (fun sp hsp => trodAll_mk1 (stays Try.laidOut (by kernel_rfl) (of_decide_eq_true (by kernel_rfl)) h0 hb hlt0 (fun x hx => hsp x (by simp [hx])))) (fun _ _ => rfl) (by simp) hb
    (ok_one (by kernel_rfl) rfl (okWide_bool_mk Try.underlying4 true))⟩
theorem rankOf_k0 : (Rows.fnExactRankOfRow.wf (OpenSpec.ofChange Rows.fnExactRankOfSpec)) = true := by kernel_rfl
theorem rankOf_k1 : (laidOutB Try.pinned.checked.prog) = true := by kernel_rfl
theorem rankOf_k2 : (mapsRowed Try.pinned.checked.prog) = true := by kernel_rfl
theorem rankOf_k3 : (Try.f6.params.all (Try.pinned.checked.prog.readableRec ·)) = true := by kernel_rfl
theorem rankOf_k4 : (namedTie Try.pinned.checked.prog Rows.fnExactRankOfRow.named Rows.fnExactRankOfSpec.vars) = true := by kernel_rfl
theorem rankOf_k5 : ((Rows.fnExactRankOfRow.stops == [])) = true := by kernel_rfl
theorem rankOf_k6 : ((Try.pinned.checked.prog.stops == [])) = true := by kernel_rfl
theorem rankOf_k7 : ((Rows.fnExactRankOfRow.knobs == [])) = true := by kernel_rfl
theorem rankOf_k8 : ((Try.pinned.checked.prog.stopKnobs == [])) = true := by kernel_rfl
theorem rankOf_k9 : ((Rows.fnExactRankOfRow.inPlace == Try.pinned.checked.prog.inPlace 6)) = true := by kernel_rfl
theorem rankOf_k10 : ((Rows.fnExactRankOfRow.unfollowed == Try.pinned.checked.prog.unfollowed 6)) = true := by kernel_rfl
theorem rankOf_k11 : ((Rows.fnExactRankOfRow.recurses == Try.pinned.checked.prog.recurses 6)) = true := by kernel_rfl
theorem rankOf_k12 : ((Rows.fnExactRankOfRow.named == Try.pinned.checked.prog.varsNamed 6)) = true := by kernel_rfl
theorem rankOf_k13 : ((Rows.fnExactRankOfRow.maps == (Try.f6.params.toList ++ Rows.fnExactRankOfSpec.plain.varTypes Try.pinned.checked.prog).any (Try.pinned.checked.prog.mapsRec ·))) = true := by kernel_rfl
theorem rankOf_k14 : ((Rows.fnExactRankOfRow.ifaces == (Try.f6.params.toList ++ Rows.fnExactRankOfSpec.plain.varTypes Try.pinned.checked.prog).any (Try.pinned.checked.prog.ifacesRec ·))) = true := by kernel_rfl
theorem rankOf_k15 : ((Rows.fnExactRankOfRow.mapsOut == Try.pinned.checked.prog.mapsAmong Try.f6.resultTypes.toList)) = true := by kernel_rfl
theorem rankOf_k16 : ((Rows.fnExactRankOfRow.loops == (Try.f6.params.toList ++ Rows.fnExactRankOfSpec.plain.varTypes Try.pinned.checked.prog).any (Try.pinned.checked.prog.loopsFrom ·))) = true := by kernel_rfl
theorem rankOf_k17 : ((Rows.fnExactRankOfRow.wideKeys == (Try.f6.params.toList ++ Rows.fnExactRankOfSpec.plain.varTypes Try.pinned.checked.prog ++ Try.f6.resultTypes.toList).any (Try.pinned.checked.prog.wideKeysFrom ·))) = true := by kernel_rfl
theorem rankOf_k18 : (Rows.fnExactRankOfSpec.vars.all (Try.pinned.checked.prog.varReadable ·)) = true := by kernel_rfl
theorem rankOf_k19 : (Try.f6.resultTypes.all (fun t => Try.pinned.checked.prog.readableRec t && decide (t < Try.pinned.checked.prog.types.size))) = true := by kernel_rfl
theorem rankOf_k20 : ((Rows.fnExactRankOfRow.ifacesOut == Try.f6.resultTypes.toList.any (Try.pinned.checked.prog.ifacesRec ·))) = true := by kernel_rfl
theorem rankOf_k21 : ((Rows.fnExactRankOfRow.loopsOut == Try.f6.resultTypes.toList.any (Try.pinned.checked.prog.loopsFrom ·))) = true := by kernel_rfl
theorem rankOf_k22 : ((Rows.fnExactRankOfRow.plainKeys == Try.pinned.checked.prog.plainKeys)) = true := by kernel_rfl
theorem rankOf_k23 : (Rows.fnExactRankOfRow.shortTexts.isNone) = true := by kernel_rfl
theorem rankOf_k24 : (Try.pinned.checked.prog.stopsHeard) = true := by kernel_rfl
theorem rankOf_k25 : (Try.pinned.checked.prog.mayEnter) = true := x_enter
theorem rankOf_k26 : ((Rows.fnExactRankOfRow.lifted == Try.pinned.checked.prog.liftsFinal)) = true := by rw [x_lifts]; rfl
theorem rankOf_k27 : ((Try.pinned.checked.prog.make == some Rows.fnExactRankOfRow.make)) = true := by rw [x_make]; rfl
theorem rankOf_k28 : ((Rows.fnExactRankOfRow.kinds == (if Rows.fnExactRankOfRow.domain.isEmpty then [] else Try.f6.params.toList.map fun t => match Try.pinned.checked.prog.underlying t with | some (.int k) => some k | _ => none))) = true := by kernel_rfl
theorem rankOf_k29 : ((Rows.fnExactRankOfRow.pinned == Rows.fnExactRankOfRow.pinnedBy)) = true := by kernel_rfl
theorem rankOf_k30 : ((Rows.fnExactRankOfRow.veiled == (Try.f6.params.toList ++ Rows.fnExactRankOfSpec.plain.varTypes Try.pinned.checked.prog ++ Try.f6.resultTypes.toList).any (Try.pinned.checked.prog.veiledRec ·))) = true := by kernel_rfl
theorem rankOf_k31 : (Rows.fnExactRankOfRow.veiledFits Try.pinned.checked.prog Try.f6.params.toList (Try.f6.params.toList ++ Rows.fnExactRankOfSpec.plain.varTypes Try.pinned.checked.prog ++ Try.f6.resultTypes.toList)) = true := by kernel_rfl
theorem rankOf_pkg : decide (Check.packageOf Try.f6.name = "main") = false := by kernel_rfl
theorem rankOf_inst : Func.isInstance Try.pinned.checked.prog Try.f6 Rows.fnExactRankOfRow.origin Rows.fnExactRankOfRow.targs := of_decide_eq_true (by kernel_rfl)
theorem rankOf_wrap : Func.isWrapper Try.pinned.checked.prog Try.f6 Rows.fnExactRankOfRow.wrapper Rows.fnExactRankOfRow.mainSum := by
  unfold Func.isWrapper; rw [if_neg (of_decide_eq_false rankOf_pkg)]; exact ⟨rfl, rfl⟩
theorem rankOf_closed : joinedFacts Try.pinned.checked.prog 6 Try.f6 Rows.fnExactRankOfSpec Rows.fnExactRankOfRow = true :=
  (and_of (and_of (and_of (and_of (and_of (and_of (and_of (and_of (and_of (and_of (and_of (and_of (and_of (and_of (and_of (and_of (and_of (and_of (and_of (and_of (and_of (and_of (and_of (and_of (and_of (and_of (and_of (and_of (and_of (and_of (and_of rankOf_k0 rankOf_k1) rankOf_k2) rankOf_k3) rankOf_k4) rankOf_k5) rankOf_k6) rankOf_k7) rankOf_k8) rankOf_k9) rankOf_k10) rankOf_k11) rankOf_k12) rankOf_k13) rankOf_k14) rankOf_k15) rankOf_k16) rankOf_k17) rankOf_k18) rankOf_k19) rankOf_k20) rankOf_k21) rankOf_k22) rankOf_k23) rankOf_k24) rankOf_k25) rankOf_k26) rankOf_k27) rankOf_k28) rankOf_k29) rankOf_k30) rankOf_k31)
theorem rankOf_holds : Rows.FnExactRankOfSaid :=
  OpenClaim.holds_of_wide 6 Try.f6 rfl rfl rfl rfl rfl rfl rfl ⟨rfl, rfl, rfl, rfl, rfl⟩ rfl rfl rfl rfl rfl (by kernel_rfl) Try.func6 rankOf_closed
    rankOf_inst rankOf_wrap (fun os started H enc _ => rankOf_lifted os started H enc)
end Go.Proofs.Ytodbhokokdckkaa
