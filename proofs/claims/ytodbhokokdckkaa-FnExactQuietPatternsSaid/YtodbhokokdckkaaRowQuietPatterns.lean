/-
QuietPatterns answers as its model at every graph value, leaves its argument as it was, and its answers share no memory. No condition.
-/
import Derived.Test.YtodbhokokdckkaaLQ
import Derived.Test.YtodbhokokdckkaaP
import Derived.Test.YtodbhokokdckkaaQ1
namespace Go.Proofs.Ytodbhokokdckkaa
open Go.ChangeShapes Go.WideShapes Go.ChangeAt Go.RowKit
set_option maxRecDepth 100000 in
theorem quietPatterns_lifted (os : Os) (started : os.Started) (H : Type) (enc : TypeId × Value → H) :
    ReturnsInHanded {} Try.checked os 9 .any (Rows.fnExactQuietPatternsSpec.pre6 enc Try.prog Try.f9 Rows.fnExactQuietPatternsRow.domain false) (Rows.fnExactQuietPatternsSpec.post enc Try.prog Try.f9 false true false false) := by
  refine returnsInHanded_of_change (C := Try.checked) Try.own started (by kernel_rfl) Try.func9
    (ChangeSpec.witness6 (enc := enc) (C := Try.checked) false ⟨#[], #[.agg #[.slice none 0 0, .bool false]], []⟩ 8 (by kernel_rfl) (by kernel_rfl) (by kernel_rfl) (by kernel_rfl)) ?_
  intro W base args ds gs before hval0 hW hcnd _
  have hval : ∀ (j : Nat) t v, Try.f9.params[j]? = some t → args[j]? = some v → Value.okWide Try.prog W .any base t v := hval0
  have hW' := hW
  obtain ⟨p, q, hA0, hV, rfl, hfz, hnd⟩ := hW
  have hA : DataW.TrodAll enc Try.prog W 0 (fun _ => true) true Try.f9.params.toList args.toList ds p := hA0
  rw [Try.params9] at hA hval
  obtain ⟨v0, d0, rfl, rfl, h0⟩ := trodAll_one hA
  obtain ⟨rfl, rfl⟩ := trodVars_none hV
  obtain ⟨A0, n0, c0, f0, own0, rfl, hn0, hs0, hw0⟩ := open_graph (hval 0 24 v0 rfl rfl) h0
  clear hA0 hval0
  simp only [List.append_nil] at hW'
  have hlt0 : ∀ x ∈ p, x.block < W.heap.size := fun x hx => hW'.lt x (by simp [hx])
  refine (lawQP A0 n0 c0 f0 own0 W hn0 hs0).mono fun e W' ⟨he, hb⟩ => ?_
  subst he
  exact ⟨_, rfl, post_of_below (pa := p) (pv := []) hW' (fun _ _ _ => trodAll_mk1 (shut_bool Try.underlying4 true))
    (fun sp hsp => trodAll_mk1 (stays Try.laidOut (by kernel_rfl) (of_decide_eq_true (by kernel_rfl)) h0 hb hlt0 (fun x hx => hsp x (by simp [hx])))) (fun _ _ => rfl) (by simp) hb
    (ok_one (by kernel_rfl) rfl (okWide_bool_mk Try.underlying4 true))⟩
theorem quietPatterns_k0 : (Rows.fnExactQuietPatternsRow.wf (OpenSpec.ofChange Rows.fnExactQuietPatternsSpec)) = true := by kernel_rfl
theorem quietPatterns_k1 : (laidOutB Try.pinned.checked.prog) = true := by kernel_rfl
theorem quietPatterns_k2 : (mapsRowed Try.pinned.checked.prog) = true := by kernel_rfl
theorem quietPatterns_k3 : (Try.f9.params.all (Try.pinned.checked.prog.readableRec ·)) = true := by kernel_rfl
theorem quietPatterns_k4 : (namedTie Try.pinned.checked.prog Rows.fnExactQuietPatternsRow.named Rows.fnExactQuietPatternsSpec.vars) = true := by kernel_rfl
theorem quietPatterns_k5 : ((Rows.fnExactQuietPatternsRow.stops == [])) = true := by kernel_rfl
theorem quietPatterns_k6 : ((Try.pinned.checked.prog.stops == [])) = true := by kernel_rfl
theorem quietPatterns_k7 : ((Rows.fnExactQuietPatternsRow.knobs == [])) = true := by kernel_rfl
theorem quietPatterns_k8 : ((Try.pinned.checked.prog.stopKnobs == [])) = true := by kernel_rfl
theorem quietPatterns_k9 : ((Rows.fnExactQuietPatternsRow.inPlace == Try.pinned.checked.prog.inPlace 9)) = true := by kernel_rfl
theorem quietPatterns_k10 : ((Rows.fnExactQuietPatternsRow.unfollowed == Try.pinned.checked.prog.unfollowed 9)) = true := by kernel_rfl
theorem quietPatterns_k11 : ((Rows.fnExactQuietPatternsRow.recurses == Try.pinned.checked.prog.recurses 9)) = true := by kernel_rfl
theorem quietPatterns_k12 : ((Rows.fnExactQuietPatternsRow.named == Try.pinned.checked.prog.varsNamed 9)) = true := by kernel_rfl
theorem quietPatterns_k13 : ((Rows.fnExactQuietPatternsRow.maps == (Try.f9.params.toList ++ Rows.fnExactQuietPatternsSpec.plain.varTypes Try.pinned.checked.prog).any (Try.pinned.checked.prog.mapsRec ·))) = true := by kernel_rfl
theorem quietPatterns_k14 : ((Rows.fnExactQuietPatternsRow.ifaces == (Try.f9.params.toList ++ Rows.fnExactQuietPatternsSpec.plain.varTypes Try.pinned.checked.prog).any (Try.pinned.checked.prog.ifacesRec ·))) = true := by kernel_rfl
theorem quietPatterns_k15 : ((Rows.fnExactQuietPatternsRow.mapsOut == Try.pinned.checked.prog.mapsAmong Try.f9.resultTypes.toList)) = true := by kernel_rfl
theorem quietPatterns_k16 : ((Rows.fnExactQuietPatternsRow.loops == (Try.f9.params.toList ++ Rows.fnExactQuietPatternsSpec.plain.varTypes Try.pinned.checked.prog).any (Try.pinned.checked.prog.loopsFrom ·))) = true := by kernel_rfl
theorem quietPatterns_k17 : ((Rows.fnExactQuietPatternsRow.wideKeys == (Try.f9.params.toList ++ Rows.fnExactQuietPatternsSpec.plain.varTypes Try.pinned.checked.prog ++ Try.f9.resultTypes.toList).any (Try.pinned.checked.prog.wideKeysFrom ·))) = true := by kernel_rfl
theorem quietPatterns_k18 : (Rows.fnExactQuietPatternsSpec.vars.all (Try.pinned.checked.prog.varReadable ·)) = true := by kernel_rfl
theorem quietPatterns_k19 : (Try.f9.resultTypes.all (fun t => Try.pinned.checked.prog.readableRec t && decide (t < Try.pinned.checked.prog.types.size))) = true := by kernel_rfl
theorem quietPatterns_k20 : ((Rows.fnExactQuietPatternsRow.ifacesOut == Try.f9.resultTypes.toList.any (Try.pinned.checked.prog.ifacesRec ·))) = true := by kernel_rfl
theorem quietPatterns_k21 : ((Rows.fnExactQuietPatternsRow.loopsOut == Try.f9.resultTypes.toList.any (Try.pinned.checked.prog.loopsFrom ·))) = true := by kernel_rfl
theorem quietPatterns_k22 : ((Rows.fnExactQuietPatternsRow.plainKeys == Try.pinned.checked.prog.plainKeys)) = true := by kernel_rfl
theorem quietPatterns_k23 : (Rows.fnExactQuietPatternsRow.shortTexts.isNone) = true := by kernel_rfl
theorem quietPatterns_k24 : (Try.pinned.checked.prog.stopsHeard) = true := by kernel_rfl
theorem quietPatterns_k25 : (Try.pinned.checked.prog.mayEnter) = true := x_enter
theorem quietPatterns_k26 : ((Rows.fnExactQuietPatternsRow.lifted == Try.pinned.checked.prog.liftsFinal)) = true := by rw [x_lifts]; rfl
theorem quietPatterns_k27 : ((Try.pinned.checked.prog.make == some Rows.fnExactQuietPatternsRow.make)) = true := by rw [x_make]; rfl
theorem quietPatterns_k28 : ((Rows.fnExactQuietPatternsRow.kinds == (if Rows.fnExactQuietPatternsRow.domain.isEmpty then [] else Try.f9.params.toList.map fun t => match Try.pinned.checked.prog.underlying t with | some (.int k) => some k | _ => none))) = true := by kernel_rfl
theorem quietPatterns_k29 : ((Rows.fnExactQuietPatternsRow.pinned == Rows.fnExactQuietPatternsRow.pinnedBy)) = true := by kernel_rfl
theorem quietPatterns_k30 : ((Rows.fnExactQuietPatternsRow.veiled == (Try.f9.params.toList ++ Rows.fnExactQuietPatternsSpec.plain.varTypes Try.pinned.checked.prog ++ Try.f9.resultTypes.toList).any (Try.pinned.checked.prog.veiledRec ·))) = true := by kernel_rfl
theorem quietPatterns_k31 : (Rows.fnExactQuietPatternsRow.veiledFits Try.pinned.checked.prog Try.f9.params.toList (Try.f9.params.toList ++ Rows.fnExactQuietPatternsSpec.plain.varTypes Try.pinned.checked.prog ++ Try.f9.resultTypes.toList)) = true := by kernel_rfl
theorem quietPatterns_pkg : decide (Check.packageOf Try.f9.name = "main") = false := by kernel_rfl
theorem quietPatterns_inst : Func.isInstance Try.pinned.checked.prog Try.f9 Rows.fnExactQuietPatternsRow.origin Rows.fnExactQuietPatternsRow.targs := of_decide_eq_true (by kernel_rfl)
theorem quietPatterns_wrap : Func.isWrapper Try.pinned.checked.prog Try.f9 Rows.fnExactQuietPatternsRow.wrapper Rows.fnExactQuietPatternsRow.mainSum := by
  unfold Func.isWrapper; rw [if_neg (of_decide_eq_false quietPatterns_pkg)]; exact ⟨rfl, rfl⟩
theorem quietPatterns_closed : joinedFacts Try.pinned.checked.prog 9 Try.f9 Rows.fnExactQuietPatternsSpec Rows.fnExactQuietPatternsRow = true :=
  (and_of (and_of (and_of (and_of (and_of (and_of (and_of (and_of (and_of (and_of (and_of (and_of (and_of (and_of (and_of (and_of (and_of (and_of (and_of (and_of (and_of (and_of (and_of (and_of (and_of (and_of (and_of (and_of (and_of (and_of (and_of quietPatterns_k0 quietPatterns_k1) quietPatterns_k2) quietPatterns_k3) quietPatterns_k4) quietPatterns_k5) quietPatterns_k6) quietPatterns_k7) quietPatterns_k8) quietPatterns_k9) quietPatterns_k10) quietPatterns_k11) quietPatterns_k12) quietPatterns_k13) quietPatterns_k14) quietPatterns_k15) quietPatterns_k16) quietPatterns_k17) quietPatterns_k18) quietPatterns_k19) quietPatterns_k20) quietPatterns_k21) quietPatterns_k22) quietPatterns_k23) quietPatterns_k24) quietPatterns_k25) quietPatterns_k26) quietPatterns_k27) quietPatterns_k28) quietPatterns_k29) quietPatterns_k30) quietPatterns_k31)
theorem quietPatterns_holds : Rows.FnExactQuietPatternsSaid :=
  OpenClaim.holds_of_wide 9 Try.f9 rfl rfl rfl rfl rfl rfl rfl ⟨rfl, rfl, rfl, rfl, rfl⟩ rfl rfl rfl rfl rfl (by kernel_rfl) Try.func9 quietPatterns_closed
    quietPatterns_inst quietPatterns_wrap (fun os started H enc _ => quietPatterns_lifted os started H enc)
end Go.Proofs.Ytodbhokokdckkaa
