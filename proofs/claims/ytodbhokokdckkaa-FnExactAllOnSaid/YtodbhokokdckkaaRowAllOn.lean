/-
AllOn answers as its model at every graph value, and leaves its argument as it was. No condition.
-/
import Derived.Test.YtodbhokokdckkaaLS
import Derived.Test.YtodbhokokdckkaaP
import Derived.Test.YtodbhokokdckkaaQ1
namespace Go.Proofs.Ytodbhokokdckkaa
open Go.ChangeShapes Go.WideShapes Go.ChangeAt Go.RowKit
set_option maxRecDepth 100000 in
theorem allOn_lifted (os : Os) (started : os.Started) (H : Type) (enc : TypeId × Value → H) :
    ReturnsInHanded {} Try.checked os 16 .any (Rows.fnExactAllOnSpec.pre6 enc Try.prog Try.f16 Rows.fnExactAllOnRow.domain false) (Rows.fnExactAllOnSpec.post enc Try.prog Try.f16 false true false false) := by
  refine returnsInHanded_of_change (C := Try.checked) Try.own started (by kernel_rfl) Try.func16
    (ChangeSpec.witness6 (enc := enc) (C := Try.checked) false ⟨#[], #[.agg #[.slice none 0 0, .bool false]], []⟩ 8 (by kernel_rfl) (by kernel_rfl) (by kernel_rfl) (by kernel_rfl)) ?_
  intro W base args ds gs before hval0 hW hcnd _
  have hval : ∀ (j : Nat) t v, Try.f16.params[j]? = some t → args[j]? = some v → Value.okWide Try.prog W .any base t v := hval0
  have hW' := hW
  obtain ⟨p, q, hA0, hV, rfl, hfz, hnd⟩ := hW
  have hA : DataW.TrodAll enc Try.prog W 0 (fun _ => true) true Try.f16.params.toList args.toList ds p := hA0
  rw [Try.params16] at hA hval
  obtain ⟨v0, d0, rfl, rfl, h0⟩ := trodAll_one hA
  obtain ⟨rfl, rfl⟩ := trodVars_none hV
  obtain ⟨A0, n0, c0, f0, own0, rfl, hn0, hs0, hw0⟩ := open_graph (hval 0 24 v0 rfl rfl) h0
  clear hA0 hval0
  simp only [List.append_nil] at hW'
  have hlt0 : ∀ x ∈ p, x.block < W.heap.size := fun x hx => hW'.lt x (by simp [hx])
  refine (lawAllOn A0 n0 c0 f0 own0 W hn0 hs0).mono fun e W' ⟨he, hb⟩ => ?_
  subst he
  exact ⟨_, rfl, post_of_below (pa := p) (pv := []) hW' (fun _ _ _ => trodAll_mk1 (shut_bool Try.underlying4 true))
    (fun sp hsp => trodAll_mk1 (stays Try.laidOut (by kernel_rfl) (of_decide_eq_true (by kernel_rfl)) h0 hb hlt0 (fun x hx => hsp x (by simp [hx])))) (fun _ _ => rfl) (by simp) hb
    (ok_one (by kernel_rfl) rfl (okWide_bool_mk Try.underlying4 true))⟩
theorem allOn_k0 : (Rows.fnExactAllOnRow.wf (OpenSpec.ofChange Rows.fnExactAllOnSpec)) = true := by kernel_rfl
theorem allOn_k1 : (laidOutB Try.pinned.checked.prog) = true := by kernel_rfl
theorem allOn_k2 : (mapsRowed Try.pinned.checked.prog) = true := by kernel_rfl
theorem allOn_k3 : (Try.f16.params.all (Try.pinned.checked.prog.readableRec ·)) = true := by kernel_rfl
theorem allOn_k4 : (namedTie Try.pinned.checked.prog Rows.fnExactAllOnRow.named Rows.fnExactAllOnSpec.vars) = true := by kernel_rfl
theorem allOn_k5 : ((Rows.fnExactAllOnRow.stops == [])) = true := by kernel_rfl
theorem allOn_k6 : ((Try.pinned.checked.prog.stops == [])) = true := by kernel_rfl
theorem allOn_k7 : ((Rows.fnExactAllOnRow.knobs == [])) = true := by kernel_rfl
theorem allOn_k8 : ((Try.pinned.checked.prog.stopKnobs == [])) = true := by kernel_rfl
theorem allOn_k9 : ((Rows.fnExactAllOnRow.inPlace == Try.pinned.checked.prog.inPlace 16)) = true := by kernel_rfl
theorem allOn_k10 : ((Rows.fnExactAllOnRow.unfollowed == Try.pinned.checked.prog.unfollowed 16)) = true := by kernel_rfl
theorem allOn_k11 : ((Rows.fnExactAllOnRow.recurses == Try.pinned.checked.prog.recurses 16)) = true := by kernel_rfl
theorem allOn_k12 : ((Rows.fnExactAllOnRow.named == Try.pinned.checked.prog.varsNamed 16)) = true := by kernel_rfl
theorem allOn_k13 : ((Rows.fnExactAllOnRow.maps == (Try.f16.params.toList ++ Rows.fnExactAllOnSpec.plain.varTypes Try.pinned.checked.prog).any (Try.pinned.checked.prog.mapsRec ·))) = true := by kernel_rfl
theorem allOn_k14 : ((Rows.fnExactAllOnRow.ifaces == (Try.f16.params.toList ++ Rows.fnExactAllOnSpec.plain.varTypes Try.pinned.checked.prog).any (Try.pinned.checked.prog.ifacesRec ·))) = true := by kernel_rfl
theorem allOn_k15 : ((Rows.fnExactAllOnRow.mapsOut == Try.pinned.checked.prog.mapsAmong Try.f16.resultTypes.toList)) = true := by kernel_rfl
theorem allOn_k16 : ((Rows.fnExactAllOnRow.loops == (Try.f16.params.toList ++ Rows.fnExactAllOnSpec.plain.varTypes Try.pinned.checked.prog).any (Try.pinned.checked.prog.loopsFrom ·))) = true := by kernel_rfl
theorem allOn_k17 : ((Rows.fnExactAllOnRow.wideKeys == (Try.f16.params.toList ++ Rows.fnExactAllOnSpec.plain.varTypes Try.pinned.checked.prog ++ Try.f16.resultTypes.toList).any (Try.pinned.checked.prog.wideKeysFrom ·))) = true := by kernel_rfl
theorem allOn_k18 : (Rows.fnExactAllOnSpec.vars.all (Try.pinned.checked.prog.varReadable ·)) = true := by kernel_rfl
theorem allOn_k19 : (Try.f16.resultTypes.all (fun t => Try.pinned.checked.prog.readableRec t && decide (t < Try.pinned.checked.prog.types.size))) = true := by kernel_rfl
theorem allOn_k20 : ((Rows.fnExactAllOnRow.ifacesOut == Try.f16.resultTypes.toList.any (Try.pinned.checked.prog.ifacesRec ·))) = true := by kernel_rfl
theorem allOn_k21 : ((Rows.fnExactAllOnRow.loopsOut == Try.f16.resultTypes.toList.any (Try.pinned.checked.prog.loopsFrom ·))) = true := by kernel_rfl
theorem allOn_k22 : ((Rows.fnExactAllOnRow.plainKeys == Try.pinned.checked.prog.plainKeys)) = true := by kernel_rfl
theorem allOn_k23 : (Rows.fnExactAllOnRow.shortTexts.isNone) = true := by kernel_rfl
theorem allOn_k24 : (Try.pinned.checked.prog.stopsHeard) = true := by kernel_rfl
theorem allOn_k25 : (Try.pinned.checked.prog.mayEnter) = true := x_enter
theorem allOn_k26 : ((Rows.fnExactAllOnRow.lifted == Try.pinned.checked.prog.liftsFinal)) = true := by rw [x_lifts]; rfl
theorem allOn_k27 : ((Try.pinned.checked.prog.make == some Rows.fnExactAllOnRow.make)) = true := by rw [x_make]; rfl
theorem allOn_k28 : ((Rows.fnExactAllOnRow.kinds == (if Rows.fnExactAllOnRow.domain.isEmpty then [] else Try.f16.params.toList.map fun t => match Try.pinned.checked.prog.underlying t with | some (.int k) => some k | _ => none))) = true := by kernel_rfl
theorem allOn_k29 : ((Rows.fnExactAllOnRow.pinned == Rows.fnExactAllOnRow.pinnedBy)) = true := by kernel_rfl
theorem allOn_k30 : ((Rows.fnExactAllOnRow.veiled == (Try.f16.params.toList ++ Rows.fnExactAllOnSpec.plain.varTypes Try.pinned.checked.prog ++ Try.f16.resultTypes.toList).any (Try.pinned.checked.prog.veiledRec ·))) = true := by kernel_rfl
theorem allOn_k31 : (Rows.fnExactAllOnRow.veiledFits Try.pinned.checked.prog Try.f16.params.toList (Try.f16.params.toList ++ Rows.fnExactAllOnSpec.plain.varTypes Try.pinned.checked.prog ++ Try.f16.resultTypes.toList)) = true := by kernel_rfl
theorem allOn_pkg : decide (Check.packageOf Try.f16.name = "main") = false := by kernel_rfl
theorem allOn_inst : Func.isInstance Try.pinned.checked.prog Try.f16 Rows.fnExactAllOnRow.origin Rows.fnExactAllOnRow.targs := of_decide_eq_true (by kernel_rfl)
theorem allOn_wrap : Func.isWrapper Try.pinned.checked.prog Try.f16 Rows.fnExactAllOnRow.wrapper Rows.fnExactAllOnRow.mainSum := by
  unfold Func.isWrapper; rw [if_neg (of_decide_eq_false allOn_pkg)]; exact ⟨rfl, rfl⟩
theorem allOn_closed : joinedFacts Try.pinned.checked.prog 16 Try.f16 Rows.fnExactAllOnSpec Rows.fnExactAllOnRow = true :=
  (and_of (and_of (and_of (and_of (and_of (and_of (and_of (and_of (and_of (and_of (and_of (and_of (and_of (and_of (and_of (and_of (and_of (and_of (and_of (and_of (and_of (and_of (and_of (and_of (and_of (and_of (and_of (and_of (and_of (and_of (and_of allOn_k0 allOn_k1) allOn_k2) allOn_k3) allOn_k4) allOn_k5) allOn_k6) allOn_k7) allOn_k8) allOn_k9) allOn_k10) allOn_k11) allOn_k12) allOn_k13) allOn_k14) allOn_k15) allOn_k16) allOn_k17) allOn_k18) allOn_k19) allOn_k20) allOn_k21) allOn_k22) allOn_k23) allOn_k24) allOn_k25) allOn_k26) allOn_k27) allOn_k28) allOn_k29) allOn_k30) allOn_k31)
theorem allOn_holds : Rows.FnExactAllOnSaid :=
  OpenClaim.holds_of_wide 16 Try.f16 rfl rfl rfl rfl rfl rfl rfl ⟨rfl, rfl, rfl, rfl, rfl⟩ rfl rfl rfl rfl rfl (by kernel_rfl) Try.func16 allOn_closed
    allOn_inst allOn_wrap (fun os started H enc _ => allOn_lifted os started H enc)
end Go.Proofs.Ytodbhokokdckkaa
