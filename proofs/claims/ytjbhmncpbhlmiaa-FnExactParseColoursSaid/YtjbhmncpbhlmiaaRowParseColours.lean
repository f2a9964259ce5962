/-
ParseColours answers as its model at every string, and its answers share no memory. No condition.
-/
import Derived.Test.YtjbhmncpbhlmiaaSE
import Derived.Test.YtjbhmncpbhlmiaaP
import Derived.Test.YtjbhmncpbhlmiaaQ1
import Derived.ChangeMaps5
namespace Go.Proofs.Ytjbhmncpbhlmiaa
open Go.ChangeShapes Go.WideShapes Go.ChangeAt Go.RowKit Go.ChangeMaps
set_option maxRecDepth 100000 in
theorem parseColours_lifted (os : Os) (started : os.Started) (H : Type) (enc : TypeId × Value → H) :
    ReturnsInHanded {} Try.checked os 5 .any (Rows.fnExactParseColoursSpec.pre6 enc Try.prog Try.f5 Rows.fnExactParseColoursRow.domain false) (Rows.fnExactParseColoursSpec.post enc Try.prog Try.f5 false true false false) := by
  refine returnsInHanded_of_change (C := Try.checked) Try.own started (by kernel_rfl) Try.func5
    (ChangeSpec.witness6 (enc := enc) (C := Try.checked) false ⟨#[], #[.string ⟨#[]⟩], []⟩ 8 (by kernel_rfl) (by kernel_rfl) (by kernel_rfl) (by kernel_rfl)) ?_
  intro W base args ds gs before hval0 hW hcnd _
  have hval : ∀ (j : Nat) t v, Try.f5.params[j]? = some t → args[j]? = some v → Value.okWide Try.prog W .any base t v := hval0
  have hW' := hW
  obtain ⟨p, q, hA0, hV, rfl, hfz, hnd⟩ := hW
  have hA : DataW.TrodAll enc Try.prog W 0 (fun _ => true) true Try.f5.params.toList args.toList ds p := hA0
  rw [Try.params5] at hA hval
  obtain ⟨v0, d0, rfl, rfl, h0⟩ := trodAll_one hA
  obtain ⟨rfl, rfl⟩ := trodVars_none hV
  obtain ⟨s0, rfl, rfl, rfl, ws0⟩ := open_string Try.underlying9 (hval 0 9 v0 rfl rfl) h0
  clear hA0 hval0
  simp only [List.append_nil] at hW'
  refine (lawParseColours s0 W (by rw [maxLen_eq] at ws0; omega)).mono fun e W' ⟨he, hb⟩ => ?_
  subst he
  exact ⟨_, rfl, post_of_below (pa := []) (pv := []) hW' (fun _ _ _ => trodAll_mk1 (shut_bool Try.underlying4 true))
    (fun sp hsp => trodAll_mk1 (shut_string Try.underlying9 ws0)) (fun _ _ => rfl) (by simp) hb
    (ok_one (by kernel_rfl) rfl (okWide_bool_mk Try.underlying4 true))⟩
theorem parseColours_k0 : (Rows.fnExactParseColoursRow.wf (OpenSpec.ofChange Rows.fnExactParseColoursSpec)) = true := by kernel_rfl
theorem parseColours_k1 : (laidOutB Try.pinned.checked.prog) = true := by kernel_rfl
theorem parseColours_k2 : (mapsRowed Try.pinned.checked.prog) = true := by kernel_rfl
theorem parseColours_k3 : (Try.f5.params.all (Try.pinned.checked.prog.readableRec ·)) = true := by kernel_rfl
theorem parseColours_k4 : (namedTie Try.pinned.checked.prog Rows.fnExactParseColoursRow.named Rows.fnExactParseColoursSpec.vars) = true := by kernel_rfl
theorem parseColours_k5 : ((Rows.fnExactParseColoursRow.stops == [])) = true := by kernel_rfl
theorem parseColours_k6 : ((Try.pinned.checked.prog.stops == [])) = true := by kernel_rfl
theorem parseColours_k7 : ((Rows.fnExactParseColoursRow.knobs == [])) = true := by kernel_rfl
theorem parseColours_k8 : ((Try.pinned.checked.prog.stopKnobs == [])) = true := by kernel_rfl
theorem parseColours_k9 : ((Rows.fnExactParseColoursRow.inPlace == Try.pinned.checked.prog.inPlace 5)) = true := by kernel_rfl
theorem parseColours_k10 : ((Rows.fnExactParseColoursRow.unfollowed == Try.pinned.checked.prog.unfollowed 5)) = true := by kernel_rfl
theorem parseColours_k11 : ((Rows.fnExactParseColoursRow.recurses == Try.pinned.checked.prog.recurses 5)) = true := by kernel_rfl
theorem parseColours_k12 : ((Rows.fnExactParseColoursRow.named == Try.pinned.checked.prog.varsNamed 5)) = true := by kernel_rfl
theorem parseColours_k13 : ((Rows.fnExactParseColoursRow.maps == (Try.f5.params.toList ++ Rows.fnExactParseColoursSpec.plain.varTypes Try.pinned.checked.prog).any (Try.pinned.checked.prog.mapsRec ·))) = true := by kernel_rfl
theorem parseColours_k14 : ((Rows.fnExactParseColoursRow.ifaces == (Try.f5.params.toList ++ Rows.fnExactParseColoursSpec.plain.varTypes Try.pinned.checked.prog).any (Try.pinned.checked.prog.ifacesRec ·))) = true := by kernel_rfl
theorem parseColours_k15 : ((Rows.fnExactParseColoursRow.mapsOut == Try.pinned.checked.prog.mapsAmong Try.f5.resultTypes.toList)) = true := by kernel_rfl
theorem parseColours_k16 : ((Rows.fnExactParseColoursRow.loops == (Try.f5.params.toList ++ Rows.fnExactParseColoursSpec.plain.varTypes Try.pinned.checked.prog).any (Try.pinned.checked.prog.loopsFrom ·))) = true := by kernel_rfl
theorem parseColours_k17 : ((Rows.fnExactParseColoursRow.wideKeys == (Try.f5.params.toList ++ Rows.fnExactParseColoursSpec.plain.varTypes Try.pinned.checked.prog ++ Try.f5.resultTypes.toList).any (Try.pinned.checked.prog.wideKeysFrom ·))) = true := by kernel_rfl
theorem parseColours_k18 : (Rows.fnExactParseColoursSpec.vars.all (Try.pinned.checked.prog.varReadable ·)) = true := by kernel_rfl
theorem parseColours_k19 : (Try.f5.resultTypes.all (fun t => Try.pinned.checked.prog.readableRec t && decide (t < Try.pinned.checked.prog.types.size))) = true := by kernel_rfl
theorem parseColours_k20 : ((Rows.fnExactParseColoursRow.ifacesOut == Try.f5.resultTypes.toList.any (Try.pinned.checked.prog.ifacesRec ·))) = true := by kernel_rfl
theorem parseColours_k21 : ((Rows.fnExactParseColoursRow.loopsOut == Try.f5.resultTypes.toList.any (Try.pinned.checked.prog.loopsFrom ·))) = true := by kernel_rfl
theorem parseColours_k22 : ((Rows.fnExactParseColoursRow.plainKeys == Try.pinned.checked.prog.plainKeys)) = true := by kernel_rfl
theorem parseColours_k23 : (Rows.fnExactParseColoursRow.shortTexts.isNone) = true := by kernel_rfl
theorem parseColours_k24 : (Try.pinned.checked.prog.stopsHeard) = true := by kernel_rfl
theorem parseColours_k25 : (Try.pinned.checked.prog.mayEnter) = true := x_enter
theorem parseColours_k26 : ((Rows.fnExactParseColoursRow.lifted == Try.pinned.checked.prog.liftsFinal)) = true := by rw [x_lifts]; rfl
theorem parseColours_k27 : ((Try.pinned.checked.prog.make == some Rows.fnExactParseColoursRow.make)) = true := by rw [x_make]; rfl
theorem parseColours_k28 : ((Rows.fnExactParseColoursRow.kinds == (if Rows.fnExactParseColoursRow.domain.isEmpty then [] else Try.f5.params.toList.map fun t => match Try.pinned.checked.prog.underlying t with | some (.int k) => some k | _ => none))) = true := by kernel_rfl
theorem parseColours_k29 : ((Rows.fnExactParseColoursRow.pinned == Rows.fnExactParseColoursRow.pinnedBy)) = true := by kernel_rfl
theorem parseColours_k30 : ((Rows.fnExactParseColoursRow.veiled == (Try.f5.params.toList ++ Rows.fnExactParseColoursSpec.plain.varTypes Try.pinned.checked.prog ++ Try.f5.resultTypes.toList).any (Try.pinned.checked.prog.veiledRec ·))) = true := by kernel_rfl
theorem parseColours_k31 : (Rows.fnExactParseColoursRow.veiledFits Try.pinned.checked.prog Try.f5.params.toList (Try.f5.params.toList ++ Rows.fnExactParseColoursSpec.plain.varTypes Try.pinned.checked.prog ++ Try.f5.resultTypes.toList)) = true := by kernel_rfl
theorem parseColours_pkg : decide (Check.packageOf Try.f5.name = "main") = false := by kernel_rfl
theorem parseColours_inst : Func.isInstance Try.pinned.checked.prog Try.f5 Rows.fnExactParseColoursRow.origin Rows.fnExactParseColoursRow.targs := of_decide_eq_true (by kernel_rfl)
theorem parseColours_wrap : Func.isWrapper Try.pinned.checked.prog Try.f5 Rows.fnExactParseColoursRow.wrapper Rows.fnExactParseColoursRow.mainSum := by
  unfold Func.isWrapper; rw [if_neg (of_decide_eq_false parseColours_pkg)]; exact ⟨rfl, rfl⟩
set_option maxRecDepth 100000 in
theorem parseColours_closed : joinedFacts Try.pinned.checked.prog 5 Try.f5 Rows.fnExactParseColoursSpec Rows.fnExactParseColoursRow = true :=
  (and_of (and_of (and_of (and_of (and_of (and_of (and_of (and_of (and_of (and_of (and_of (and_of (and_of (and_of (and_of (and_of (and_of (and_of (and_of (and_of (and_of (and_of (and_of (and_of (and_of (and_of (and_of (and_of (and_of (and_of (and_of parseColours_k0 parseColours_k1) parseColours_k2) parseColours_k3) parseColours_k4) parseColours_k5) parseColours_k6) parseColours_k7) parseColours_k8) parseColours_k9) parseColours_k10) parseColours_k11) parseColours_k12) parseColours_k13) parseColours_k14) parseColours_k15) parseColours_k16) parseColours_k17) parseColours_k18) parseColours_k19) parseColours_k20) parseColours_k21) parseColours_k22) parseColours_k23) parseColours_k24) parseColours_k25) parseColours_k26) parseColours_k27) parseColours_k28) parseColours_k29) parseColours_k30) parseColours_k31)
theorem parseColours_holds : Rows.FnExactParseColoursSaid :=
  OpenClaim.holds_of_wide 5 Try.f5 rfl rfl rfl rfl rfl rfl rfl ⟨rfl, rfl, rfl, rfl, rfl⟩ rfl rfl rfl rfl rfl (by kernel_rfl) Try.func5 parseColours_closed
    parseColours_inst parseColours_wrap (fun os started H enc _ => parseColours_lifted os started H enc)
end Go.Proofs.Ytjbhmncpbhlmiaa
