/-
ColoursText answers as its model at every list, and the list is as it was. No condition.
-/
import Derived.Test.YtjbhmncpbhlmiaaSC
import Derived.Test.YtjbhmncpbhlmiaaP
import Derived.Test.YtjbhmncpbhlmiaaQ1
namespace Go.Proofs.Ytjbhmncpbhlmiaa
open Go.ChangeShapes Go.WideShapes Go.ChangeAt Go.RowKit
set_option maxRecDepth 100000 in
theorem coloursText_lifted (os : Os) (started : os.Started) (H : Type) (enc : TypeId × Value → H) :
    ReturnsInHanded {} Try.checked os 4 .any (Rows.fnExactColoursTextSpec.pre6 enc Try.prog Try.f4 Rows.fnExactColoursTextRow.domain false) (Rows.fnExactColoursTextSpec.post enc Try.prog Try.f4 false true false false) := by
  refine returnsInHanded_of_change (C := Try.checked) Try.own started (by kernel_rfl) Try.func4
    (ChangeSpec.witness6 (enc := enc) (C := Try.checked) false ⟨#[], #[.slice none 0 0], []⟩ 8 (by kernel_rfl) (by kernel_rfl) (by kernel_rfl) (by kernel_rfl)) ?_
  intro W base args ds gs before hval0 hW hcnd _
  have hval : ∀ (j : Nat) t v, Try.f4.params[j]? = some t → args[j]? = some v → Value.okWide Try.prog W .any base t v := hval0
  have hW' := hW
  obtain ⟨p, q, hA0, hV, rfl, hfz, hnd⟩ := hW
  have hA : DataW.TrodAll enc Try.prog W 0 (fun _ => true) true Try.f4.params.toList args.toList ds p := hA0
  rw [Try.params4] at hA hval
  obtain ⟨v0, d0, rfl, rfl, h0⟩ := trodAll_one hA
  obtain ⟨rfl, rfl⟩ := trodVars_none hV
  obtain ⟨A0, n0, c0, f0, rfl, hn0, hs0, hw0⟩ := open_ints_arg (hval 0 22 v0 rfl rfl) h0
  clear hA0 hval0
  simp only [List.append_nil] at hW'
  have hlt0 : ∀ x ∈ p, x.block < W.heap.size := fun x hx => hW'.lt x (by simp [hx])
  refine (lawColoursText A0 n0 c0 f0 W hn0 hs0).mono fun e W' ⟨he, hb⟩ => ?_
  subst he
  exact ⟨_, rfl, post_of_below (pa := p) (pv := []) hW' (fun _ _ _ => trodAll_mk1 (shut_bool Try.underlying4 true))
    (fun sp hsp => trodAll_mk1 (stays Try.laidOut (by kernel_rfl) (of_decide_eq_true (by kernel_rfl)) h0 hb hlt0 (fun x hx => hsp x (by simp [hx])))) (fun _ _ => rfl) (by simp) hb
    (ok_one (by kernel_rfl) rfl (okWide_bool_mk Try.underlying4 true))⟩
theorem coloursText_k0 : (Rows.fnExactColoursTextRow.wf (OpenSpec.ofChange Rows.fnExactColoursTextSpec)) = true := by kernel_rfl
theorem coloursText_k1 : (laidOutB Try.pinned.checked.prog) = true := by kernel_rfl
theorem coloursText_k2 : (mapsRowed Try.pinned.checked.prog) = true := by kernel_rfl
theorem coloursText_k3 : (Try.f4.params.all (Try.pinned.checked.prog.readableRec ·)) = true := by kernel_rfl
theorem coloursText_k4 : (namedTie Try.pinned.checked.prog Rows.fnExactColoursTextRow.named Rows.fnExactColoursTextSpec.vars) = true := by kernel_rfl
theorem coloursText_k5 : ((Rows.fnExactColoursTextRow.stops == [])) = true := by kernel_rfl
theorem coloursText_k6 : ((Try.pinned.checked.prog.stops == [])) = true := by kernel_rfl
theorem coloursText_k7 : ((Rows.fnExactColoursTextRow.knobs == [])) = true := by kernel_rfl
theorem coloursText_k8 : ((Try.pinned.checked.prog.stopKnobs == [])) = true := by kernel_rfl
theorem coloursText_k9 : ((Rows.fnExactColoursTextRow.inPlace == Try.pinned.checked.prog.inPlace 4)) = true := by kernel_rfl
theorem coloursText_k10 : ((Rows.fnExactColoursTextRow.unfollowed == Try.pinned.checked.prog.unfollowed 4)) = true := by kernel_rfl
theorem coloursText_k11 : ((Rows.fnExactColoursTextRow.recurses == Try.pinned.checked.prog.recurses 4)) = true := by kernel_rfl
theorem coloursText_k12 : ((Rows.fnExactColoursTextRow.named == Try.pinned.checked.prog.varsNamed 4)) = true := by kernel_rfl
theorem coloursText_k13 : ((Rows.fnExactColoursTextRow.maps == (Try.f4.params.toList ++ Rows.fnExactColoursTextSpec.plain.varTypes Try.pinned.checked.prog).any (Try.pinned.checked.prog.mapsRec ·))) = true := by kernel_rfl
theorem coloursText_k14 : ((Rows.fnExactColoursTextRow.ifaces == (Try.f4.params.toList ++ Rows.fnExactColoursTextSpec.plain.varTypes Try.pinned.checked.prog).any (Try.pinned.checked.prog.ifacesRec ·))) = true := by kernel_rfl
theorem coloursText_k15 : ((Rows.fnExactColoursTextRow.mapsOut == Try.pinned.checked.prog.mapsAmong Try.f4.resultTypes.toList)) = true := by kernel_rfl
theorem coloursText_k16 : ((Rows.fnExactColoursTextRow.loops == (Try.f4.params.toList ++ Rows.fnExactColoursTextSpec.plain.varTypes Try.pinned.checked.prog).any (Try.pinned.checked.prog.loopsFrom ·))) = true := by kernel_rfl
theorem coloursText_k17 : ((Rows.fnExactColoursTextRow.wideKeys == (Try.f4.params.toList ++ Rows.fnExactColoursTextSpec.plain.varTypes Try.pinned.checked.prog ++ Try.f4.resultTypes.toList).any (Try.pinned.checked.prog.wideKeysFrom ·))) = true := by kernel_rfl
theorem coloursText_k18 : (Rows.fnExactColoursTextSpec.vars.all (Try.pinned.checked.prog.varReadable ·)) = true := by kernel_rfl
theorem coloursText_k19 : (Try.f4.resultTypes.all (fun t => Try.pinned.checked.prog.readableRec t && decide (t < Try.pinned.checked.prog.types.size))) = true := by kernel_rfl
theorem coloursText_k20 : ((Rows.fnExactColoursTextRow.ifacesOut == Try.f4.resultTypes.toList.any (Try.pinned.checked.prog.ifacesRec ·))) = true := by kernel_rfl
theorem coloursText_k21 : ((Rows.fnExactColoursTextRow.loopsOut == Try.f4.resultTypes.toList.any (Try.pinned.checked.prog.loopsFrom ·))) = true := by kernel_rfl
theorem coloursText_k22 : ((Rows.fnExactColoursTextRow.plainKeys == Try.pinned.checked.prog.plainKeys)) = true := by kernel_rfl
theorem coloursText_k23 : (Rows.fnExactColoursTextRow.shortTexts.isNone) = true := by kernel_rfl
theorem coloursText_k24 : (Try.pinned.checked.prog.stopsHeard) = true := by kernel_rfl
theorem coloursText_k25 : (Try.pinned.checked.prog.mayEnter) = true := x_enter
theorem coloursText_k26 : ((Rows.fnExactColoursTextRow.lifted == Try.pinned.checked.prog.liftsFinal)) = true := by rw [x_lifts]; rfl
theorem coloursText_k27 : ((Try.pinned.checked.prog.make == some Rows.fnExactColoursTextRow.make)) = true := by rw [x_make]; rfl
theorem coloursText_k28 : ((Rows.fnExactColoursTextRow.kinds == (if Rows.fnExactColoursTextRow.domain.isEmpty then [] else Try.f4.params.toList.map fun t => match Try.pinned.checked.prog.underlying t with | some (.int k) => some k | _ => none))) = true := by kernel_rfl
theorem coloursText_k29 : ((Rows.fnExactColoursTextRow.pinned == Rows.fnExactColoursTextRow.pinnedBy)) = true := by kernel_rfl
theorem coloursText_k30 : ((Rows.fnExactColoursTextRow.veiled == (Try.f4.params.toList ++ Rows.fnExactColoursTextSpec.plain.varTypes Try.pinned.checked.prog ++ Try.f4.resultTypes.toList).any (Try.pinned.checked.prog.veiledRec ·))) = true := by kernel_rfl
theorem coloursText_k31 : (Rows.fnExactColoursTextRow.veiledFits Try.pinned.checked.prog Try.f4.params.toList (Try.f4.params.toList ++ Rows.fnExactColoursTextSpec.plain.varTypes Try.pinned.checked.prog ++ Try.f4.resultTypes.toList)) = true := by kernel_rfl
theorem coloursText_pkg : decide (Check.packageOf Try.f4.name = "main") = false := by kernel_rfl
theorem coloursText_inst : Func.isInstance Try.pinned.checked.prog Try.f4 Rows.fnExactColoursTextRow.origin Rows.fnExactColoursTextRow.targs := of_decide_eq_true (by kernel_rfl)
theorem coloursText_wrap : Func.isWrapper Try.pinned.checked.prog Try.f4 Rows.fnExactColoursTextRow.wrapper Rows.fnExactColoursTextRow.mainSum := by
  unfold Func.isWrapper; rw [if_neg (of_decide_eq_false coloursText_pkg)]; exact ⟨rfl, rfl⟩
set_option maxRecDepth 100000 in
theorem coloursText_closed : joinedFacts Try.pinned.checked.prog 4 Try.f4 Rows.fnExactColoursTextSpec Rows.fnExactColoursTextRow = true :=
  (and_of (and_of (and_of (and_of (and_of (and_of (and_of (and_of (and_of (and_of (and_of (and_of (and_of (and_of (and_of (and_of (and_of (and_of (and_of (and_of (and_of (and_of (and_of (and_of (and_of (and_of (and_of (and_of (and_of (and_of (and_of coloursText_k0 coloursText_k1) coloursText_k2) coloursText_k3) coloursText_k4) coloursText_k5) coloursText_k6) coloursText_k7) coloursText_k8) coloursText_k9) coloursText_k10) coloursText_k11) coloursText_k12) coloursText_k13) coloursText_k14) coloursText_k15) coloursText_k16) coloursText_k17) coloursText_k18) coloursText_k19) coloursText_k20) coloursText_k21) coloursText_k22) coloursText_k23) coloursText_k24) coloursText_k25) coloursText_k26) coloursText_k27) coloursText_k28) coloursText_k29) coloursText_k30) coloursText_k31)
theorem coloursText_holds : Rows.FnExactColoursTextSaid :=
  OpenClaim.holds_of_wide 4 Try.f4 rfl rfl rfl rfl rfl rfl rfl ⟨rfl, rfl, rfl, rfl, rfl⟩ rfl rfl rfl rfl rfl (by kernel_rfl) Try.func4 coloursText_closed
    coloursText_inst coloursText_wrap (fun os started H enc _ => coloursText_lifted os started H enc)
end Go.Proofs.Ytjbhmncpbhlmiaa
