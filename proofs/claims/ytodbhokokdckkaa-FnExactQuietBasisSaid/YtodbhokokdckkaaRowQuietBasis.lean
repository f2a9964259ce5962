/-
QuietBasis answers as its model at every graph value, leaves its argument as it was, and its answers share no memory. No condition.
-/
import Derived.Test.YtodbhokokdckkaaLL
import Derived.Test.YtodbhokokdckkaaP
import Derived.Test.YtodbhokokdckkaaQ1
namespace Go.Proofs.Ytodbhokokdckkaa
open Go.ChangeShapes Go.WideShapes Go.ChangeAt Go.RowKit
set_option maxRecDepth 100000 in
theorem quietBasis_lifted (os : Os) (started : os.Started) (H : Type) (enc : TypeId × Value → H) :
    ReturnsInHanded {} Try.checked os 8 .any (Rows.fnExactQuietBasisSpec.pre6 enc Try.prog Try.f8 Rows.fnExactQuietBasisRow.domain false) (Rows.fnExactQuietBasisSpec.post enc Try.prog Try.f8 false true false false) := by
  refine returnsInHanded_of_change (C := Try.checked) Try.own started (by kernel_rfl) Try.func8
    (ChangeSpec.witness6 (enc := enc) (C := Try.checked) false ⟨#[], #[.agg #[.slice none 0 0, .bool false]], []⟩ 8 (by kernel_rfl) (by kernel_rfl) (by kernel_rfl) (by kernel_rfl)) ?_
  intro W base args ds gs before hval0 hW hcnd _
  have hval : ∀ (j : Nat) t v, Try.f8.params[j]? = some t → args[j]? = some v → Value.okWide Try.prog W .any base t v := hval0
  have hW' := hW
  obtain ⟨p, q, hA0, hV, rfl, hfz, hnd⟩ := hW
  have hA : DataW.TrodAll enc Try.prog W 0 (fun _ => true) true Try.f8.params.toList args.toList ds p := hA0
  rw [Try.params8] at hA hval
  obtain ⟨v0, d0, rfl, rfl, h0⟩ := trodAll_one hA
  obtain ⟨rfl, rfl⟩ := trodVars_none hV
  obtain ⟨A0, n0, c0, f0, own0, rfl, hn0, hs0, hw0⟩ := open_graph (hval 0 24 v0 rfl rfl) h0
  clear hA0 hval0
  simp only [List.append_nil] at hW'
  have hlt0 : ∀ x ∈ p, x.block < W.heap.size := fun x hx => hW'.lt x (by simp [hx])
  refine (lawQuiet A0 n0 c0 f0 own0 W hn0 hs0).mono fun e W' ⟨he, hb⟩ => ?_
  subst he
  exact ⟨_, rfl, post_of_below (pa := p) (pv := []) hW' (fun _ _ _ => trodAll_mk1 (shut_bool Try.underlying4 true))
    (fun sp hsp => trodAll_mk1 (stays Try.laidOut (by kernel_rfl) (of_decide_eq_true (by kernel_rfl)) h0 hb hlt0 (fun x hx => hsp x (by simp [hx])))) (fun _ _ => rfl) (by simp) hb
    (ok_one (by kernel_rfl) rfl (okWide_bool_mk Try.underlying4 true))⟩
theorem quietBasis_k0 : (Rows.fnExactQuietBasisRow.wf (OpenSpec.ofChange Rows.fnExactQuietBasisSpec)) = true := by kernel_rfl
theorem quietBasis_k1 : (laidOutB Try.pinned.checked.prog) = true := by kernel_rfl
theorem quietBasis_k2 : (mapsRowed Try.pinned.checked.prog) = true := by kernel_rfl
theorem quietBasis_k3 : (Try.f8.params.all (Try.pinned.checked.prog.readableRec ·)) = true := by kernel_rfl
theorem quietBasis_k4 : (namedTie Try.pinned.checked.prog Rows.fnExactQuietBasisRow.named Rows.fnExactQuietBasisSpec.vars) = true := by kernel_rfl
theorem quietBasis_k5 : ((Rows.fnExactQuietBasisRow.stops == [])) = true := by kernel_rfl
theorem quietBasis_k6 : ((Try.pinned.checked.prog.stops == [])) = true := by kernel_rfl
theorem quietBasis_k7 : ((Rows.fnExactQuietBasisRow.knobs == [])) = true := by kernel_rfl
theorem quietBasis_k8 : ((Try.pinned.checked.prog.stopKnobs == [])) = true := by kernel_rfl
theorem quietBasis_k9 : ((Rows.fnExactQuietBasisRow.inPlace == Try.pinned.checked.prog.inPlace 8)) = true := by kernel_rfl
theorem quietBasis_k10 : ((Rows.fnExactQuietBasisRow.unfollowed == Try.pinned.checked.prog.unfollowed 8)) = true := by kernel_rfl
theorem quietBasis_k11 : ((Rows.fnExactQuietBasisRow.recurses == Try.pinned.checked.prog.recurses 8)) = true := by kernel_rfl
theorem quietBasis_k12 : ((Rows.fnExactQuietBasisRow.named == Try.pinned.checked.prog.varsNamed 8)) = true := by kernel_rfl
theorem quietBasis_k13 : ((Rows.fnExactQuietBasisRow.maps == (Try.f8.params.toList ++ Rows.fnExactQuietBasisSpec.plain.varTypes Try.pinned.checked.prog).any (Try.pinned.checked.prog.mapsRec ·))) = true := by kernel_rfl
theorem quietBasis_k14 : ((Rows.fnExactQuietBasisRow.ifaces == (Try.f8.params.toList ++ Rows.fnExactQuietBasisSpec.plain.varTypes Try.pinned.checked.prog).any (Try.pinned.checked.prog.ifacesRec ·))) = true := by kernel_rfl
theorem quietBasis_k15 : ((Rows.fnExactQuietBasisRow.mapsOut == Try.pinned.checked.prog.mapsAmong Try.f8.resultTypes.toList)) = true := by kernel_rfl
theorem quietBasis_k16 : ((Rows.fnExactQuietBasisRow.loops == (Try.f8.params.toList ++ Rows.fnExactQuietBasisSpec.plain.varTypes Try.pinned.checked.prog).any (Try.pinned.checked.prog.loopsFrom ·))) = true := by kernel_rfl
theorem quietBasis_k17 : ((Rows.fnExactQuietBasisRow.wideKeys == (Try.f8.params.toList ++ Rows.fnExactQuietBasisSpec.plain.varTypes Try.pinned.checked.prog ++ Try.f8.resultTypes.toList).any (Try.pinned.checked.prog.wideKeysFrom ·))) = true := by kernel_rfl
theorem quietBasis_k18 : (Rows.fnExactQuietBasisSpec.vars.all (Try.pinned.checked.prog.varReadable ·)) = true := by kernel_rfl
theorem quietBasis_k19 : (Try.f8.resultTypes.all (fun t => Try.pinned.checked.prog.readableRec t && decide (t < Try.pinned.checked.prog.types.size))) = true := by kernel_rfl
theorem quietBasis_k20 : ((Rows.fnExactQuietBasisRow.ifacesOut == Try.f8.resultTypes.toList.any (Try.pinned.checked.prog.ifacesRec ·))) = true := by kernel_rfl
theorem quietBasis_k21 : ((Rows.fnExactQuietBasisRow.loopsOut == Try.f8.resultTypes.toList.any (Try.pinned.checked.prog.loopsFrom ·))) = true := by kernel_rfl
theorem quietBasis_k22 : ((Rows.fnExactQuietBasisRow.plainKeys == Try.pinned.checked.prog.plainKeys)) = true := by kernel_rfl
theorem quietBasis_k23 : (Rows.fnExactQuietBasisRow.shortTexts.isNone) = true := by kernel_rfl
theorem quietBasis_k24 : (Try.pinned.checked.prog.stopsHeard) = true := by kernel_rfl
theorem quietBasis_k25 : (Try.pinned.checked.prog.mayEnter) = true := x_enter
theorem quietBasis_k26 : ((Rows.fnExactQuietBasisRow.lifted == Try.pinned.checked.prog.liftsFinal)) = true := by rw [x_lifts]; rfl
theorem quietBasis_k27 : ((Try.pinned.checked.prog.make == some Rows.fnExactQuietBasisRow.make)) = true := by rw [x_make]; rfl
theorem quietBasis_k28 : ((Rows.fnExactQuietBasisRow.kinds == (if Rows.fnExactQuietBasisRow.domain.isEmpty then [] else Try.f8.params.toList.map fun t => match Try.pinned.checked.prog.underlying t with | some (.int k) => some k | _ => none))) = true := by kernel_rfl
theorem quietBasis_k29 : ((Rows.fnExactQuietBasisRow.pinned == Rows.fnExactQuietBasisRow.pinnedBy)) = true := by kernel_rfl
theorem quietBasis_k30 : ((Rows.fnExactQuietBasisRow.veiled == (Try.f8.params.toList ++ Rows.fnExactQuietBasisSpec.plain.varTypes Try.pinned.checked.prog ++ Try.f8.resultTypes.toList).any (Try.pinned.checked.prog.veiledRec ·))) = true := by kernel_rfl
theorem quietBasis_k31 : (Rows.fnExactQuietBasisRow.veiledFits Try.pinned.checked.prog Try.f8.params.toList (Try.f8.params.toList ++ Rows.fnExactQuietBasisSpec.plain.varTypes Try.pinned.checked.prog ++ Try.f8.resultTypes.toList)) = true := by kernel_rfl
theorem quietBasis_pkg : decide (Check.packageOf Try.f8.name = "main") = false := by kernel_rfl
theorem quietBasis_inst : Func.isInstance Try.pinned.checked.prog Try.f8 Rows.fnExactQuietBasisRow.origin Rows.fnExactQuietBasisRow.targs := of_decide_eq_true (by kernel_rfl)
theorem quietBasis_wrap : Func.isWrapper Try.pinned.checked.prog Try.f8 Rows.fnExactQuietBasisRow.wrapper Rows.fnExactQuietBasisRow.mainSum := by
  unfold Func.isWrapper; rw [if_neg (of_decide_eq_false quietBasis_pkg)]; exact ⟨rfl, rfl⟩
theorem quietBasis_closed : joinedFacts Try.pinned.checked.prog 8 Try.f8 Rows.fnExactQuietBasisSpec Rows.fnExactQuietBasisRow = true :=
  (and_of (and_of (and_of (and_of (and_of (and_of (and_of (and_of (and_of (and_of (and_of (and_of (and_of (and_of (and_of (and_of (and_of (and_of (and_of (and_of (and_of (and_of (and_of (and_of (and_of (and_of (and_of (and_of (and_of (and_of (and_of quietBasis_k0 quietBasis_k1) quietBasis_k2) quietBasis_k3) quietBasis_k4) quietBasis_k5) quietBasis_k6) quietBasis_k7) quietBasis_k8) quietBasis_k9) quietBasis_k10) quietBasis_k11) quietBasis_k12) quietBasis_k13) quietBasis_k14) quietBasis_k15) quietBasis_k16) quietBasis_k17) quietBasis_k18) quietBasis_k19) quietBasis_k20) quietBasis_k21) quietBasis_k22) quietBasis_k23) quietBasis_k24) quietBasis_k25) quietBasis_k26) quietBasis_k27) quietBasis_k28) quietBasis_k29) quietBasis_k30) quietBasis_k31)
theorem quietBasis_holds : Rows.FnExactQuietBasisSaid :=
  OpenClaim.holds_of_wide 8 Try.f8 rfl rfl rfl rfl rfl rfl rfl ⟨rfl, rfl, rfl, rfl, rfl⟩ rfl rfl rfl rfl rfl (by kernel_rfl) Try.func8 quietBasis_closed
    quietBasis_inst quietBasis_wrap (fun os started H enc _ => quietBasis_lifted os started H enc)
end Go.Proofs.Ytodbhokokdckkaa
