/-
ReducedSet answers as its model at every list and number, and leaves its argument as it was. No condition.
-/
import Derived.Test.YtodbhokokdckkaaLE
import Derived.Test.YtodbhokokdckkaaP
import Derived.Test.YtodbhokokdckkaaQ1
namespace Go.Proofs.Ytodbhokokdckkaa
open Go.ChangeShapes Go.WideShapes Go.ChangeAt Go.RowKit
set_option maxRecDepth 100000 in
theorem reducedSet_lifted (os : Os) (started : os.Started) (H : Type) (enc : TypeId × Value → H) :
    ReturnsInHanded {} Try.checked os 20 .any (Rows.fnExactReducedSetSpec.pre6 enc Try.prog Try.f20 Rows.fnExactReducedSetRow.domain false) (Rows.fnExactReducedSetSpec.post enc Try.prog Try.f20 false true false false) := by
  refine returnsInHanded_of_change (C := Try.checked) Try.own started (by kernel_rfl) Try.func20
    (ChangeSpec.witness6 (enc := enc) (C := Try.checked) false ⟨#[], #[.slice none 0 0, .int .i64 0], []⟩ 8 (by kernel_rfl) (by kernel_rfl) (by kernel_rfl) (by kernel_rfl)) ?_
  intro W base args ds gs before hval0 hW hcnd _
  have hval : ∀ (j : Nat) t v, Try.f20.params[j]? = some t → args[j]? = some v → Value.okWide Try.prog W .any base t v := hval0
  have hW' := hW
  obtain ⟨p, q, hA0, hV, rfl, hfz, hnd⟩ := hW
  have hA : DataW.TrodAll enc Try.prog W 0 (fun _ => true) true Try.f20.params.toList args.toList ds p := hA0
  rw [Try.params20] at hA hval
  obtain ⟨v0, v1, d0, d1, p0, p1, rfl, rfl, rfl, h0, h1⟩ := trodAll_two hA
  obtain ⟨rfl, rfl⟩ := trodVars_none hV
  obtain ⟨A0, n0, c0, f0, rfl, hn0, hs0, hw0⟩ := open_ints_arg (hval 0 22 v0 rfl rfl) h0
  obtain ⟨a1, rfl, rfl, rfl, wa1⟩ := open_int Try.underlying3 (hval 1 3 v1 rfl rfl) h1
  clear hA0 hval0
  simp only [List.append_nil] at hW'
  have hlt0 : ∀ x ∈ p0, x.block < W.heap.size := fun x hx => hW'.lt x (by simp [hx])
  refine (lawRed A0 n0 c0 f0 a1 W hn0 hs0).mono fun e W' ⟨he, hb⟩ => ?_
  subst he
  exact ⟨_, rfl, post_of_below (pa := p0 ++ []) (pv := []) hW' (fun _ _ _ => trodAll_mk1 (shut_bool Try.underlying4 true))
    (fun sp hsp => trodAll_mk2 (stays Try.laidOut (by kernel_rfl) (of_decide_eq_true (by kernel_rfl)) h0 hb hlt0 (fun x hx => hsp x (by simp [hx]))) (shut_int Try.underlying3 wa1)) (fun _ _ => rfl) (by simp) hb
    (ok_one (by kernel_rfl) rfl (okWide_bool_mk Try.underlying4 true))⟩
theorem reducedSet_k0 : (Rows.fnExactReducedSetRow.wf (OpenSpec.ofChange Rows.fnExactReducedSetSpec)) = true := by kernel_rfl
theorem reducedSet_k1 : (laidOutB Try.pinned.checked.prog) = true := by kernel_rfl
theorem reducedSet_k2 : (mapsRowed Try.pinned.checked.prog) = true := by kernel_rfl
theorem reducedSet_k3 : (Try.f20.params.all (Try.pinned.checked.prog.readableRec ·)) = true := by kernel_rfl
theorem reducedSet_k4 : (namedTie Try.pinned.checked.prog Rows.fnExactReducedSetRow.named Rows.fnExactReducedSetSpec.vars) = true := by kernel_rfl
theorem reducedSet_k5 : ((Rows.fnExactReducedSetRow.stops == [])) = true := by kernel_rfl
theorem reducedSet_k6 : ((Try.pinned.checked.prog.stops == [])) = true := by kernel_rfl
theorem reducedSet_k7 : ((Rows.fnExactReducedSetRow.knobs == [])) = true := by kernel_rfl
theorem reducedSet_k8 : ((Try.pinned.checked.prog.stopKnobs == [])) = true := by kernel_rfl
theorem reducedSet_k9 : ((Rows.fnExactReducedSetRow.inPlace == Try.pinned.checked.prog.inPlace 20)) = true := by kernel_rfl
theorem reducedSet_k10 : ((Rows.fnExactReducedSetRow.unfollowed == Try.pinned.checked.prog.unfollowed 20)) = true := by kernel_rfl
theorem reducedSet_k11 : ((Rows.fnExactReducedSetRow.recurses == Try.pinned.checked.prog.recurses 20)) = true := by kernel_rfl
theorem reducedSet_k12 : ((Rows.fnExactReducedSetRow.named == Try.pinned.checked.prog.varsNamed 20)) = true := by kernel_rfl
theorem reducedSet_k13 : ((Rows.fnExactReducedSetRow.maps == (Try.f20.params.toList ++ Rows.fnExactReducedSetSpec.plain.varTypes Try.pinned.checked.prog).any (Try.pinned.checked.prog.mapsRec ·))) = true := by kernel_rfl
theorem reducedSet_k14 : ((Rows.fnExactReducedSetRow.ifaces == (Try.f20.params.toList ++ Rows.fnExactReducedSetSpec.plain.varTypes Try.pinned.checked.prog).any (Try.pinned.checked.prog.ifacesRec ·))) = true := by kernel_rfl
theorem reducedSet_k15 : ((Rows.fnExactReducedSetRow.mapsOut == Try.pinned.checked.prog.mapsAmong Try.f20.resultTypes.toList)) = true := by kernel_rfl
theorem reducedSet_k16 : ((Rows.fnExactReducedSetRow.loops == (Try.f20.params.toList ++ Rows.fnExactReducedSetSpec.plain.varTypes Try.pinned.checked.prog).any (Try.pinned.checked.prog.loopsFrom ·))) = true := by kernel_rfl
theorem reducedSet_k17 : ((Rows.fnExactReducedSetRow.wideKeys == (Try.f20.params.toList ++ Rows.fnExactReducedSetSpec.plain.varTypes Try.pinned.checked.prog ++ Try.f20.resultTypes.toList).any (Try.pinned.checked.prog.wideKeysFrom ·))) = true := by kernel_rfl
theorem reducedSet_k18 : (Rows.fnExactReducedSetSpec.vars.all (Try.pinned.checked.prog.varReadable ·)) = true := by kernel_rfl
theorem reducedSet_k19 : (Try.f20.resultTypes.all (fun t => Try.pinned.checked.prog.readableRec t && decide (t < Try.pinned.checked.prog.types.size))) = true := by kernel_rfl
theorem reducedSet_k20 : ((Rows.fnExactReducedSetRow.ifacesOut == Try.f20.resultTypes.toList.any (Try.pinned.checked.prog.ifacesRec ·))) = true := by kernel_rfl
theorem reducedSet_k21 : ((Rows.fnExactReducedSetRow.loopsOut == Try.f20.resultTypes.toList.any (Try.pinned.checked.prog.loopsFrom ·))) = true := by kernel_rfl
theorem reducedSet_k22 : ((Rows.fnExactReducedSetRow.plainKeys == Try.pinned.checked.prog.plainKeys)) = true := by kernel_rfl
theorem reducedSet_k23 : (Rows.fnExactReducedSetRow.shortTexts.isNone) = true := by kernel_rfl
theorem reducedSet_k24 : (Try.pinned.checked.prog.stopsHeard) = true := by kernel_rfl
theorem reducedSet_k25 : (Try.pinned.checked.prog.mayEnter) = true := x_enter
theorem reducedSet_k26 : ((Rows.fnExactReducedSetRow.lifted == Try.pinned.checked.prog.liftsFinal)) = true := by rw [x_lifts]; rfl
theorem reducedSet_k27 : ((Try.pinned.checked.prog.make == some Rows.fnExactReducedSetRow.make)) = true := by rw [x_make]; rfl
theorem reducedSet_k28 : ((Rows.fnExactReducedSetRow.kinds == (if Rows.fnExactReducedSetRow.domain.isEmpty then [] else Try.f20.params.toList.map fun t => match Try.pinned.checked.prog.underlying t with | some (.int k) => some k | _ => none))) = true := by kernel_rfl
theorem reducedSet_k29 : ((Rows.fnExactReducedSetRow.pinned == Rows.fnExactReducedSetRow.pinnedBy)) = true := by kernel_rfl
theorem reducedSet_k30 : ((Rows.fnExactReducedSetRow.veiled == (Try.f20.params.toList ++ Rows.fnExactReducedSetSpec.plain.varTypes Try.pinned.checked.prog ++ Try.f20.resultTypes.toList).any (Try.pinned.checked.prog.veiledRec ·))) = true := by kernel_rfl
theorem reducedSet_k31 : (Rows.fnExactReducedSetRow.veiledFits Try.pinned.checked.prog Try.f20.params.toList (Try.f20.params.toList ++ Rows.fnExactReducedSetSpec.plain.varTypes Try.pinned.checked.prog ++ Try.f20.resultTypes.toList)) = true := by kernel_rfl
theorem reducedSet_pkg : decide (Check.packageOf Try.f20.name = "main") = false := by kernel_rfl
theorem reducedSet_inst : Func.isInstance Try.pinned.checked.prog Try.f20 Rows.fnExactReducedSetRow.origin Rows.fnExactReducedSetRow.targs := of_decide_eq_true (by kernel_rfl)
theorem reducedSet_wrap : Func.isWrapper Try.pinned.checked.prog Try.f20 Rows.fnExactReducedSetRow.wrapper Rows.fnExactReducedSetRow.mainSum := by
  unfold Func.isWrapper; rw [if_neg (of_decide_eq_false reducedSet_pkg)]; exact ⟨rfl, rfl⟩
theorem reducedSet_closed : joinedFacts Try.pinned.checked.prog 20 Try.f20 Rows.fnExactReducedSetSpec Rows.fnExactReducedSetRow = true :=
  (and_of (and_of (and_of (and_of (and_of (and_of (and_of (and_of (and_of (and_of (and_of (and_of (and_of (and_of (and_of (and_of (and_of (and_of (and_of (and_of (and_of (and_of (and_of (and_of (and_of (and_of (and_of (and_of (and_of (and_of (and_of reducedSet_k0 reducedSet_k1) reducedSet_k2) reducedSet_k3) reducedSet_k4) reducedSet_k5) reducedSet_k6) reducedSet_k7) reducedSet_k8) reducedSet_k9) reducedSet_k10) reducedSet_k11) reducedSet_k12) reducedSet_k13) reducedSet_k14) reducedSet_k15) reducedSet_k16) reducedSet_k17) reducedSet_k18) reducedSet_k19) reducedSet_k20) reducedSet_k21) reducedSet_k22) reducedSet_k23) reducedSet_k24) reducedSet_k25) reducedSet_k26) reducedSet_k27) reducedSet_k28) reducedSet_k29) reducedSet_k30) reducedSet_k31)
theorem reducedSet_holds : Rows.FnExactReducedSetSaid :=
  OpenClaim.holds_of_wide 20 Try.f20 rfl rfl rfl rfl rfl rfl rfl ⟨rfl, rfl, rfl, rfl, rfl⟩ rfl rfl rfl rfl rfl (by kernel_rfl) Try.func20 reducedSet_closed
    reducedSet_inst reducedSet_wrap (fun os started H enc _ => reducedSet_lifted os started H enc)
end Go.Proofs.Ytodbhokokdckkaa
