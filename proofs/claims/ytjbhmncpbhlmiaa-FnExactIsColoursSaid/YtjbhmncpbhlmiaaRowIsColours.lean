/-
IsColours answers as its model at every graph, number of colours and list, and graph and list are as they were. No condition.
-/
import Derived.Test.YtjbhmncpbhlmiaaCD
import Derived.Test.YtjbhmncpbhlmiaaP
import Derived.Test.YtjbhmncpbhlmiaaQ1
namespace Go.Proofs.Ytjbhmncpbhlmiaa
open Go.ChangeShapes Go.WideShapes Go.ChangeAt Go.RowKit
set_option maxRecDepth 100000 in
theorem isColours_lifted (os : Os) (started : os.Started) (H : Type) (enc : TypeId × Value → H) :
    ReturnsInHanded {} Try.checked os 3 .any (Rows.fnExactIsColoursSpec.pre6 enc Try.prog Try.f3 Rows.fnExactIsColoursRow.domain false) (Rows.fnExactIsColoursSpec.post enc Try.prog Try.f3 false true false false) := by
  refine returnsInHanded_of_change (C := Try.checked) Try.own started (by kernel_rfl) Try.func3
    (ChangeSpec.witness6 (enc := enc) (C := Try.checked) false ⟨#[], #[.agg #[.slice none 0 0, .bool false], .int .i64 0, .slice none 0 0], []⟩ 8 (by kernel_rfl) (by kernel_rfl) (by kernel_rfl) (by kernel_rfl)) ?_
  intro W base args ds gs before hval0 hW hcnd _
  have hval : ∀ (j : Nat) t v, Try.f3.params[j]? = some t → args[j]? = some v → Value.okWide Try.prog W .any base t v := hval0
  have hW' := hW
  obtain ⟨p, q, hA0, hV, rfl, hfz, hnd⟩ := hW
  have hA : DataW.TrodAll enc Try.prog W 0 (fun _ => true) true Try.f3.params.toList args.toList ds p := hA0
  rw [Try.params3] at hA hval
  obtain ⟨v0, v1, v2, d0, d1, d2, p0, p1, p2, rfl, rfl, rfl, h0, h1, h2⟩ := trodAll_three hA
  obtain ⟨rfl, rfl⟩ := trodVars_none hV
  obtain ⟨A0, n0, c0, f0, own0, rfl, hn0, hs0, hw0⟩ := open_graph (hval 0 24 v0 rfl rfl) h0
  obtain ⟨a1, rfl, rfl, rfl, wa1⟩ := open_int Try.underlying3 (hval 1 3 v1 rfl rfl) h1
  obtain ⟨A2, n2, c2, f2, rfl, hn2, hs2, hw2⟩ := open_ints_arg (hval 2 22 v2 rfl rfl) h2
  clear hA0 hval0
  simp only [List.append_nil] at hW'
  have hlt0 : ∀ x ∈ p0, x.block < W.heap.size := fun x hx => hW'.lt x (by simp [hx])
  have hlt2 : ∀ x ∈ p2, x.block < W.heap.size := fun x hx => hW'.lt x (by simp [hx])
  refine (lawIsColours A0 n0 c0 f0 own0 a1 A2 n2 c2 f2 W hn0 hs0 hn2 hs2).mono fun e W' ⟨he, hb⟩ => ?_
  subst he
  exact ⟨_, rfl, post_of_below (pa := p0 ++ ([] ++ (p2))) (pv := []) hW' (fun _ _ _ => trodAll_mk1 (shut_bool Try.underlying4 true))
    (fun sp hsp => trodAll_mk3 (stays Try.laidOut (by kernel_rfl) (of_decide_eq_true (by kernel_rfl)) h0 hb hlt0 (fun x hx => hsp x (by simp [hx]))) (shut_int Try.underlying3 wa1) (stays Try.laidOut (by kernel_rfl) (of_decide_eq_true (by kernel_rfl)) h2 hb hlt2 (fun x hx => hsp x (by simp [hx])))) (fun _ _ => rfl) (by simp) hb
    (ok_one (by kernel_rfl) rfl (okWide_bool_mk Try.underlying4 true))⟩
theorem isColours_k0 : (Rows.fnExactIsColoursRow.wf (OpenSpec.ofChange Rows.fnExactIsColoursSpec)) = true := by kernel_rfl
theorem isColours_k1 : (laidOutB Try.pinned.checked.prog) = true := by kernel_rfl
theorem isColours_k2 : (mapsRowed Try.pinned.checked.prog) = true := by kernel_rfl
theorem isColours_k3 : (Try.f3.params.all (Try.pinned.checked.prog.readableRec ·)) = true := by kernel_rfl
theorem isColours_k4 : (namedTie Try.pinned.checked.prog Rows.fnExactIsColoursRow.named Rows.fnExactIsColoursSpec.vars) = true := by kernel_rfl
theorem isColours_k5 : ((Rows.fnExactIsColoursRow.stops == [])) = true := by kernel_rfl
theorem isColours_k6 : ((Try.pinned.checked.prog.stops == [])) = true := by kernel_rfl
theorem isColours_k7 : ((Rows.fnExactIsColoursRow.knobs == [])) = true := by kernel_rfl
theorem isColours_k8 : ((Try.pinned.checked.prog.stopKnobs == [])) = true := by kernel_rfl
theorem isColours_k9 : ((Rows.fnExactIsColoursRow.inPlace == Try.pinned.checked.prog.inPlace 3)) = true := by kernel_rfl
theorem isColours_k10 : ((Rows.fnExactIsColoursRow.unfollowed == Try.pinned.checked.prog.unfollowed 3)) = true := by kernel_rfl
theorem isColours_k11 : ((Rows.fnExactIsColoursRow.recurses == Try.pinned.checked.prog.recurses 3)) = true := by kernel_rfl
theorem isColours_k12 : ((Rows.fnExactIsColoursRow.named == Try.pinned.checked.prog.varsNamed 3)) = true := by kernel_rfl
theorem isColours_k13 : ((Rows.fnExactIsColoursRow.maps == (Try.f3.params.toList ++ Rows.fnExactIsColoursSpec.plain.varTypes Try.pinned.checked.prog).any (Try.pinned.checked.prog.mapsRec ·))) = true := by kernel_rfl
theorem isColours_k14 : ((Rows.fnExactIsColoursRow.ifaces == (Try.f3.params.toList ++ Rows.fnExactIsColoursSpec.plain.varTypes Try.pinned.checked.prog).any (Try.pinned.checked.prog.ifacesRec ·))) = true := by kernel_rfl
theorem isColours_k15 : ((Rows.fnExactIsColoursRow.mapsOut == Try.pinned.checked.prog.mapsAmong Try.f3.resultTypes.toList)) = true := by kernel_rfl
theorem isColours_k16 : ((Rows.fnExactIsColoursRow.loops == (Try.f3.params.toList ++ Rows.fnExactIsColoursSpec.plain.varTypes Try.pinned.checked.prog).any (Try.pinned.checked.prog.loopsFrom ·))) = true := by kernel_rfl
theorem isColours_k17 : ((Rows.fnExactIsColoursRow.wideKeys == (Try.f3.params.toList ++ Rows.fnExactIsColoursSpec.plain.varTypes Try.pinned.checked.prog ++ Try.f3.resultTypes.toList).any (Try.pinned.checked.prog.wideKeysFrom ·))) = true := by kernel_rfl
theorem isColours_k18 : (Rows.fnExactIsColoursSpec.vars.all (Try.pinned.checked.prog.varReadable ·)) = true := by kernel_rfl
theorem isColours_k19 : (Try.f3.resultTypes.all (fun t => Try.pinned.checked.prog.readableRec t && decide (t < Try.pinned.checked.prog.types.size))) = true := by kernel_rfl
theorem isColours_k20 : ((Rows.fnExactIsColoursRow.ifacesOut == Try.f3.resultTypes.toList.any (Try.pinned.checked.prog.ifacesRec ·))) = true := by kernel_rfl
theorem isColours_k21 : ((Rows.fnExactIsColoursRow.loopsOut == Try.f3.resultTypes.toList.any (Try.pinned.checked.prog.loopsFrom ·))) = true := by kernel_rfl
theorem isColours_k22 : ((Rows.fnExactIsColoursRow.plainKeys == Try.pinned.checked.prog.plainKeys)) = true := by kernel_rfl
theorem isColours_k23 : (Rows.fnExactIsColoursRow.shortTexts.isNone) = true := by kernel_rfl
theorem isColours_k24 : (Try.pinned.checked.prog.stopsHeard) = true := by kernel_rfl
theorem isColours_k25 : (Try.pinned.checked.prog.mayEnter) = true := x_enter
theorem isColours_k26 : ((Rows.fnExactIsColoursRow.lifted == Try.pinned.checked.prog.liftsFinal)) = true := by rw [x_lifts]; rfl
theorem isColours_k27 : ((Try.pinned.checked.prog.make == some Rows.fnExactIsColoursRow.make)) = true := by rw [x_make]; rfl
theorem isColours_k28 : ((Rows.fnExactIsColoursRow.kinds == (if Rows.fnExactIsColoursRow.domain.isEmpty then [] else Try.f3.params.toList.map fun t => match Try.pinned.checked.prog.underlying t with | some (.int k) => some k | _ => none))) = true := by kernel_rfl
theorem isColours_k29 : ((Rows.fnExactIsColoursRow.pinned == Rows.fnExactIsColoursRow.pinnedBy)) = true := by kernel_rfl
theorem isColours_k30 : ((Rows.fnExactIsColoursRow.veiled == (Try.f3.params.toList ++ Rows.fnExactIsColoursSpec.plain.varTypes Try.pinned.checked.prog ++ Try.f3.resultTypes.toList).any (Try.pinned.checked.prog.veiledRec ·))) = true := by kernel_rfl
theorem isColours_k31 : (Rows.fnExactIsColoursRow.veiledFits Try.pinned.checked.prog Try.f3.params.toList (Try.f3.params.toList ++ Rows.fnExactIsColoursSpec.plain.varTypes Try.pinned.checked.prog ++ Try.f3.resultTypes.toList)) = true := by kernel_rfl
theorem isColours_pkg : decide (Check.packageOf Try.f3.name = "main") = false := by kernel_rfl
theorem isColours_inst : Func.isInstance Try.pinned.checked.prog Try.f3 Rows.fnExactIsColoursRow.origin Rows.fnExactIsColoursRow.targs := of_decide_eq_true (by kernel_rfl)
theorem isColours_wrap : Func.isWrapper Try.pinned.checked.prog Try.f3 Rows.fnExactIsColoursRow.wrapper Rows.fnExactIsColoursRow.mainSum := by
  unfold Func.isWrapper; rw [if_neg (of_decide_eq_false isColours_pkg)]; exact ⟨rfl, rfl⟩
set_option maxRecDepth 100000 in
theorem isColours_closed : joinedFacts Try.pinned.checked.prog 3 Try.f3 Rows.fnExactIsColoursSpec Rows.fnExactIsColoursRow = true :=
  (and_of (and_of (and_of (and_of (and_of (and_of (and_of (and_of (and_of (and_of (and_of (and_of (and_of (and_of (and_of (and_of (and_of (and_of (and_of (and_of (and_of (and_of (and_of (and_of (and_of (and_of (and_of (and_of (and_of (and_of (and_of isColours_k0 isColours_k1) isColours_k2) isColours_k3) isColours_k4) isColours_k5) isColours_k6) isColours_k7) isColours_k8) isColours_k9) isColours_k10) isColours_k11) isColours_k12) isColours_k13) isColours_k14) isColours_k15) isColours_k16) isColours_k17) isColours_k18) isColours_k19) isColours_k20) isColours_k21) isColours_k22) isColours_k23) isColours_k24) isColours_k25) isColours_k26) isColours_k27) isColours_k28) isColours_k29) isColours_k30) isColours_k31)
theorem isColours_holds : Rows.FnExactIsColoursSaid :=
  OpenClaim.holds_of_wide 3 Try.f3 rfl rfl rfl rfl rfl rfl rfl ⟨rfl, rfl, rfl, rfl, rfl⟩ rfl rfl rfl rfl rfl (by kernel_rfl) Try.func3 isColours_closed
    isColours_inst isColours_wrap (fun os started H enc _ => isColours_lifted os started H enc)
end Go.Proofs.Ytjbhmncpbhlmiaa
