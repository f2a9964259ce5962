/-
GraphOf answers as its model at every number, list of lists and own light, its answers share no memory, and the list is as it was. No condition.
-/
import Derived.Test.YtmkdikoogbedkaaGH
import Derived.Test.YtmkdikoogbedkaaPR
import Derived.Test.YtmkdikoogbedkaaQ1
namespace Go.Proofs.Ytmkdikoogbedkaa
open Go.ChangeShapes Go.WideShapes Go.ChangeAt Go.RowKit
set_option maxRecDepth 100000 in
theorem graphOf_lifted (os : Os) (started : os.Started) (H : Type) (enc : TypeId × Value → H) :
    ReturnsInHanded {} Try.checked os 14 .any (Rows.fnExactGraphOfSpec.pre6 enc Try.prog Try.f14 Rows.fnExactGraphOfRow.domain false) (Rows.fnExactGraphOfSpec.post enc Try.prog Try.f14 false true false false) := by
  refine returnsInHanded_of_change (C := Try.checked) Try.own started (by kernel_rfl) Try.func14
    (ChangeSpec.witness6 (enc := enc) (C := Try.checked) false ⟨#[], #[.int .i64 0, .slice none 0 0, .bool false], []⟩ 8 (by kernel_rfl) (by kernel_rfl) (by kernel_rfl) (by kernel_rfl)) ?_
  intro W base args ds gs before hval0 hW hcnd _
  have hval : ∀ (j : Nat) t v, Try.f14.params[j]? = some t → args[j]? = some v → Value.okWide Try.prog W .any base t v := hval0
  have hW' := hW
  obtain ⟨p, q, hA0, hV, rfl, hfz, hnd⟩ := hW
  have hA : DataW.TrodAll enc Try.prog W 0 (fun _ => true) true Try.f14.params.toList args.toList ds p := hA0
  rw [Try.params14] at hA hval
  obtain ⟨v0, v1, v2, d0, d1, d2, p0, p1, p2, rfl, rfl, rfl, h0, h1, h2⟩ := trodAll_three hA
  obtain ⟨rfl, rfl⟩ := trodVars_none hV
  obtain ⟨a0, rfl, rfl, rfl, wa0⟩ := open_int Try.underlying3 (hval 0 3 v0 rfl rfl) h0
  obtain ⟨A1, n1, c1, Ai1, ln1, C1, R1, rfl, hn1, hl1, hr1⟩ := open_rows_arg (hval 1 36 v1 rfl rfl) h1
  obtain ⟨b2, rfl, rfl, rfl⟩ := open_bool Try.underlying4 (hval 2 4 v2 rfl rfl) h2
  clear hA0 hval0
  simp only [List.append_nil, List.nil_append] at hW'
  have hlt1 : ∀ x ∈ p1, x.block < W.heap.size := fun x hx => hW'.lt x (by simp [hx])
  refine (lawGraphOf a0 A1 n1 c1 Ai1 ln1 C1 R1 b2 W hn1 hl1 hr1).mono fun e W' ⟨he, hb⟩ => ?_
  subst he
  exact ⟨_, rfl, post_of_below (pa := [] ++ (p1 ++ ([]))) (pv := []) hW' (fun _ _ _ => trodAll_mk1 (shut_bool Try.underlying4 true))
    (fun sp hsp => trodAll_mk3 (shut_int Try.underlying3 wa0) (stays Try.laidOut (by kernel_rfl) (of_decide_eq_true (by kernel_rfl)) h1 hb hlt1 (fun x hx => hsp x (by simp [hx]))) (shut_bool Try.underlying4 b2)) (fun _ _ => rfl) (by simp) hb
    (ok_one (by kernel_rfl) rfl (okWide_bool_mk Try.underlying4 true))⟩
theorem graphOf_k0 : (Rows.fnExactGraphOfRow.wf (OpenSpec.ofChange Rows.fnExactGraphOfSpec)) = true := by kernel_rfl
theorem graphOf_k1 : (laidOutB Try.pinned.checked.prog) = true := by kernel_rfl
theorem graphOf_k2 : (mapsRowed Try.pinned.checked.prog) = true := by kernel_rfl
theorem graphOf_k3 : (Try.f14.params.all (Try.pinned.checked.prog.readableRec ·)) = true := by kernel_rfl
theorem graphOf_k4 : (namedTie Try.pinned.checked.prog Rows.fnExactGraphOfRow.named Rows.fnExactGraphOfSpec.vars) = true := by kernel_rfl
theorem graphOf_k5 : ((Rows.fnExactGraphOfRow.stops == [])) = true := by kernel_rfl
theorem graphOf_k6 : ((Try.pinned.checked.prog.stops == [])) = true := by kernel_rfl
theorem graphOf_k7 : ((Rows.fnExactGraphOfRow.knobs == [])) = true := by kernel_rfl
theorem graphOf_k8 : ((Try.pinned.checked.prog.stopKnobs == [])) = true := by kernel_rfl
theorem graphOf_k9 : ((Rows.fnExactGraphOfRow.inPlace == Try.pinned.checked.prog.inPlace 14)) = true := by kernel_rfl
theorem graphOf_k10 : ((Rows.fnExactGraphOfRow.unfollowed == Try.pinned.checked.prog.unfollowed 14)) = true := by kernel_rfl
theorem graphOf_k11 : ((Rows.fnExactGraphOfRow.recurses == Try.pinned.checked.prog.recurses 14)) = true := by kernel_rfl
theorem graphOf_k12 : ((Rows.fnExactGraphOfRow.named == Try.pinned.checked.prog.varsNamed 14)) = true := by kernel_rfl
theorem graphOf_k13 : ((Rows.fnExactGraphOfRow.maps == (Try.f14.params.toList ++ Rows.fnExactGraphOfSpec.plain.varTypes Try.pinned.checked.prog).any (Try.pinned.checked.prog.mapsRec ·))) = true := by kernel_rfl
theorem graphOf_k14 : ((Rows.fnExactGraphOfRow.ifaces == (Try.f14.params.toList ++ Rows.fnExactGraphOfSpec.plain.varTypes Try.pinned.checked.prog).any (Try.pinned.checked.prog.ifacesRec ·))) = true := by kernel_rfl
theorem graphOf_k15 : ((Rows.fnExactGraphOfRow.mapsOut == Try.pinned.checked.prog.mapsAmong Try.f14.resultTypes.toList)) = true := by kernel_rfl
theorem graphOf_k16 : ((Rows.fnExactGraphOfRow.loops == (Try.f14.params.toList ++ Rows.fnExactGraphOfSpec.plain.varTypes Try.pinned.checked.prog).any (Try.pinned.checked.prog.loopsFrom ·))) = true := by kernel_rfl
theorem graphOf_k17 : ((Rows.fnExactGraphOfRow.wideKeys == (Try.f14.params.toList ++ Rows.fnExactGraphOfSpec.plain.varTypes Try.pinned.checked.prog ++ Try.f14.resultTypes.toList).any (Try.pinned.checked.prog.wideKeysFrom ·))) = true := by kernel_rfl
theorem graphOf_k18 : (Rows.fnExactGraphOfSpec.vars.all (Try.pinned.checked.prog.varReadable ·)) = true := by kernel_rfl
theorem graphOf_k19 : (Try.f14.resultTypes.all (fun t => Try.pinned.checked.prog.readableRec t && decide (t < Try.pinned.checked.prog.types.size))) = true := by kernel_rfl
theorem graphOf_k20 : ((Rows.fnExactGraphOfRow.ifacesOut == Try.f14.resultTypes.toList.any (Try.pinned.checked.prog.ifacesRec ·))) = true := by kernel_rfl
theorem graphOf_k21 : ((Rows.fnExactGraphOfRow.loopsOut == Try.f14.resultTypes.toList.any (Try.pinned.checked.prog.loopsFrom ·))) = true := by kernel_rfl
theorem graphOf_k22 : ((Rows.fnExactGraphOfRow.plainKeys == Try.pinned.checked.prog.plainKeys)) = true := by kernel_rfl
theorem graphOf_k23 : (Rows.fnExactGraphOfRow.shortTexts.isNone) = true := by kernel_rfl
theorem graphOf_k24 : (Try.pinned.checked.prog.stopsHeard) = true := by kernel_rfl
theorem graphOf_k25 : (Try.pinned.checked.prog.mayEnter) = true := x_enter
theorem graphOf_k26 : ((Rows.fnExactGraphOfRow.lifted == Try.pinned.checked.prog.liftsFinal)) = true := by rw [x_lifts]; rfl
theorem graphOf_k27 : ((Try.pinned.checked.prog.make == some Rows.fnExactGraphOfRow.make)) = true := by rw [x_make]; rfl
theorem graphOf_k28 : ((Rows.fnExactGraphOfRow.kinds == (if Rows.fnExactGraphOfRow.domain.isEmpty then [] else Try.f14.params.toList.map fun t => match Try.pinned.checked.prog.underlying t with | some (.int k) => some k | _ => none))) = true := by kernel_rfl
theorem graphOf_k29 : ((Rows.fnExactGraphOfRow.pinned == Rows.fnExactGraphOfRow.pinnedBy)) = true := by kernel_rfl
theorem graphOf_k30 : ((Rows.fnExactGraphOfRow.veiled == (Try.f14.params.toList ++ Rows.fnExactGraphOfSpec.plain.varTypes Try.pinned.checked.prog ++ Try.f14.resultTypes.toList).any (Try.pinned.checked.prog.veiledRec ·))) = true := by kernel_rfl
theorem graphOf_k31 : (Rows.fnExactGraphOfRow.veiledFits Try.pinned.checked.prog Try.f14.params.toList (Try.f14.params.toList ++ Rows.fnExactGraphOfSpec.plain.varTypes Try.pinned.checked.prog ++ Try.f14.resultTypes.toList)) = true := by kernel_rfl
theorem graphOf_pkg : decide (Check.packageOf Try.f14.name = "main") = false := by kernel_rfl
theorem graphOf_inst : Func.isInstance Try.pinned.checked.prog Try.f14 Rows.fnExactGraphOfRow.origin Rows.fnExactGraphOfRow.targs := of_decide_eq_true (by kernel_rfl)
theorem graphOf_wrap : Func.isWrapper Try.pinned.checked.prog Try.f14 Rows.fnExactGraphOfRow.wrapper Rows.fnExactGraphOfRow.mainSum := by
  unfold Func.isWrapper; rw [if_neg (of_decide_eq_false graphOf_pkg)]; exact ⟨rfl, rfl⟩
set_option maxRecDepth 100000 in
theorem graphOf_closed : joinedFacts Try.pinned.checked.prog 14 Try.f14 Rows.fnExactGraphOfSpec Rows.fnExactGraphOfRow = true :=
  (and_of (and_of (and_of (and_of (and_of (and_of (and_of (and_of (and_of (and_of (and_of (and_of (and_of (and_of (and_of (and_of (and_of (and_of (and_of (and_of (and_of (and_of (and_of (and_of (and_of (and_of (and_of (and_of (and_of (and_of (and_of graphOf_k0 graphOf_k1) graphOf_k2) graphOf_k3) graphOf_k4) graphOf_k5) graphOf_k6) graphOf_k7) graphOf_k8) graphOf_k9) graphOf_k10) graphOf_k11) graphOf_k12) graphOf_k13) graphOf_k14) graphOf_k15) graphOf_k16) graphOf_k17) graphOf_k18) graphOf_k19) graphOf_k20) graphOf_k21) graphOf_k22) graphOf_k23) graphOf_k24) graphOf_k25) graphOf_k26) graphOf_k27) graphOf_k28) graphOf_k29) graphOf_k30) graphOf_k31)
theorem graphOf_holds : Rows.FnExactGraphOfSaid :=
  OpenClaim.holds_of_wide 14 Try.f14 rfl rfl rfl rfl rfl rfl rfl ⟨rfl, rfl, rfl, rfl, rfl⟩ rfl rfl rfl rfl rfl (by kernel_rfl) Try.func14 graphOf_closed
    graphOf_inst graphOf_wrap (fun os started H enc _ => graphOf_lifted os started H enc)
end Go.Proofs.Ytmkdikoogbedkaa
