/-
Nullities of paths and circles are told by remainders, as elimination and polynomials tell: at every two lists of bytes the law returns true. No condition.
-/
import Derived.Test.YtibikoajejfdeaaLW
import Derived.Test.YtibikoajejfdeaaP
import Derived.Test.YtibikoajejfdeaaQ1
import Derived.ChangeMaps5
namespace Go.Proofs.Ytibikoajejfdeaa
open Go.ChangeShapes Go.WideShapes Go.ChangeAt Go.RowKit Go.ChangeMaps
set_option maxRecDepth 100000 in
theorem pathsAndCircles_lifted (os : Os) (started : os.Started) (H : Type) (enc : TypeId × Value → H) :
    ReturnsInHanded {} Try.checked os 3 .any (Rows.fnPathsAndCirclesSpec.pre6 enc Try.prog Try.f3 Rows.fnPathsAndCirclesRow.domain false) (Rows.fnPathsAndCirclesSpec.post enc Try.prog Try.f3 false true false false) := by
  refine returnsInHanded_of_change (C := Try.checked) Try.own started (by kernel_rfl) Try.func3
    (ChangeSpec.witness6 (enc := enc) (C := Try.checked) false ⟨#[], #[.slice none 0 0, .slice none 0 0], []⟩ 8 (by kernel_rfl) (by kernel_rfl) (by kernel_rfl) (by kernel_rfl)) ?_
  intro W base args ds gs before hval0 hW hcnd _
  have hval : ∀ (j : Nat) t v, Try.f3.params[j]? = some t → args[j]? = some v → Value.okWide Try.prog W .any base t v := hval0
  have hW' := hW
  obtain ⟨p, q, hA0, hV, rfl, hfz, hnd⟩ := hW
  have hA : DataW.TrodAll enc Try.prog W 0 (fun _ => true) true Try.f3.params.toList args.toList ds p := hA0
  rw [Try.params3] at hA hval
  obtain ⟨v0, v1, d0, d1, p0, p1, rfl, rfl, rfl, h0, h1⟩ := trodAll_two hA
  obtain ⟨rfl, rfl⟩ := trodVars_none hV
  obtain ⟨A0, n0, c0, f0, rfl, hn0, hs0, hw0⟩ := open_bytes (hval 0 22 v0 rfl rfl) h0
  obtain ⟨A1, n1, c1, f1, rfl, hn1, hs1, hw1⟩ := open_bytes (hval 1 22 v1 rfl rfl) h1
  clear hA0 hval0
  simp only [List.append_nil] at hW'
  have hlt0 : ∀ x ∈ p0, x.block < W.heap.size := fun x hx => hW'.lt x (by simp [hx])
  have hlt1 : ∀ x ∈ p1, x.block < W.heap.size := fun x hx => hW'.lt x (by simp [hx])
  refine (lawPC A0 A1 n0 c0 n1 c1 f0 f1 W hn0 hn1 hs0 hs1 hw0 hw1).mono fun e W' ⟨he, hb⟩ => ?_
  subst he
  exact ⟨_, rfl, post_of_below (pa := p0 ++ (p1)) (pv := []) hW' (fun _ _ _ => trodAll_mk1 (shut_bool Try.underlying4 true))
    (fun sp hsp => trodAll_mk2 (stays Try.laidOut (by kernel_rfl) (of_decide_eq_true (by kernel_rfl)) h0 hb hlt0 (fun x hx => hsp x (by simp [hx]))) (stays Try.laidOut (by kernel_rfl) (of_decide_eq_true (by kernel_rfl)) h1 hb hlt1 (fun x hx => hsp x (by simp [hx])))) (fun _ _ => rfl) (by simp) hb
    (ok_one (by kernel_rfl) rfl (okWide_bool_mk Try.underlying4 true))⟩
theorem pathsAndCircles_k0 : (Rows.fnPathsAndCirclesRow.wf (OpenSpec.ofChange Rows.fnPathsAndCirclesSpec)) = true := by kernel_rfl
theorem pathsAndCircles_k1 : (laidOutB Try.pinned.checked.prog) = true := by kernel_rfl
theorem pathsAndCircles_k2 : (mapsRowed Try.pinned.checked.prog) = true := by kernel_rfl
theorem pathsAndCircles_k3 : (Try.f3.params.all (Try.pinned.checked.prog.readableRec ·)) = true := by kernel_rfl
theorem pathsAndCircles_k4 : (namedTie Try.pinned.checked.prog Rows.fnPathsAndCirclesRow.named Rows.fnPathsAndCirclesSpec.vars) = true := by kernel_rfl
theorem pathsAndCircles_k5 : ((Rows.fnPathsAndCirclesRow.stops == [])) = true := by kernel_rfl
theorem pathsAndCircles_k6 : ((Try.pinned.checked.prog.stops == [])) = true := by kernel_rfl
theorem pathsAndCircles_k7 : ((Rows.fnPathsAndCirclesRow.knobs == [])) = true := by kernel_rfl
theorem pathsAndCircles_k8 : ((Try.pinned.checked.prog.stopKnobs == [])) = true := by kernel_rfl
theorem pathsAndCircles_k9 : ((Rows.fnPathsAndCirclesRow.inPlace == Try.pinned.checked.prog.inPlace 3)) = true := by kernel_rfl
theorem pathsAndCircles_k10 : ((Rows.fnPathsAndCirclesRow.unfollowed == Try.pinned.checked.prog.unfollowed 3)) = true := by kernel_rfl
theorem pathsAndCircles_k11 : ((Rows.fnPathsAndCirclesRow.recurses == Try.pinned.checked.prog.recurses 3)) = true := by kernel_rfl
theorem pathsAndCircles_k12 : ((Rows.fnPathsAndCirclesRow.named == Try.pinned.checked.prog.varsNamed 3)) = true := by kernel_rfl
theorem pathsAndCircles_k13 : ((Rows.fnPathsAndCirclesRow.maps == (Try.f3.params.toList ++ Rows.fnPathsAndCirclesSpec.plain.varTypes Try.pinned.checked.prog).any (Try.pinned.checked.prog.mapsRec ·))) = true := by kernel_rfl
theorem pathsAndCircles_k14 : ((Rows.fnPathsAndCirclesRow.ifaces == (Try.f3.params.toList ++ Rows.fnPathsAndCirclesSpec.plain.varTypes Try.pinned.checked.prog).any (Try.pinned.checked.prog.ifacesRec ·))) = true := by kernel_rfl
theorem pathsAndCircles_k15 : ((Rows.fnPathsAndCirclesRow.mapsOut == Try.pinned.checked.prog.mapsAmong Try.f3.resultTypes.toList)) = true := by kernel_rfl
theorem pathsAndCircles_k16 : ((Rows.fnPathsAndCirclesRow.loops == (Try.f3.params.toList ++ Rows.fnPathsAndCirclesSpec.plain.varTypes Try.pinned.checked.prog).any (Try.pinned.checked.prog.loopsFrom ·))) = true := by kernel_rfl
theorem pathsAndCircles_k17 : ((Rows.fnPathsAndCirclesRow.wideKeys == (Try.f3.params.toList ++ Rows.fnPathsAndCirclesSpec.plain.varTypes Try.pinned.checked.prog ++ Try.f3.resultTypes.toList).any (Try.pinned.checked.prog.wideKeysFrom ·))) = true := by kernel_rfl
theorem pathsAndCircles_k18 : (Rows.fnPathsAndCirclesSpec.vars.all (Try.pinned.checked.prog.varReadable ·)) = true := by kernel_rfl
theorem pathsAndCircles_k19 : (Try.f3.resultTypes.all (fun t => Try.pinned.checked.prog.readableRec t && decide (t < Try.pinned.checked.prog.types.size))) = true := by kernel_rfl
theorem pathsAndCircles_k20 : ((Rows.fnPathsAndCirclesRow.ifacesOut == Try.f3.resultTypes.toList.any (Try.pinned.checked.prog.ifacesRec ·))) = true := by kernel_rfl
theorem pathsAndCircles_k21 : ((Rows.fnPathsAndCirclesRow.loopsOut == Try.f3.resultTypes.toList.any (Try.pinned.checked.prog.loopsFrom ·))) = true := by kernel_rfl
theorem pathsAndCircles_k22 : ((Rows.fnPathsAndCirclesRow.plainKeys == Try.pinned.checked.prog.plainKeys)) = true := by kernel_rfl
theorem pathsAndCircles_k23 : (Rows.fnPathsAndCirclesRow.shortTexts.isNone) = true := by kernel_rfl
theorem pathsAndCircles_k24 : (Try.pinned.checked.prog.stopsHeard) = true := by kernel_rfl
theorem pathsAndCircles_k25 : (Try.pinned.checked.prog.mayEnter) = true := x_enter
theorem pathsAndCircles_k26 : ((Rows.fnPathsAndCirclesRow.lifted == Try.pinned.checked.prog.liftsFinal)) = true := by rw [x_lifts]; rfl
theorem pathsAndCircles_k27 : ((Try.pinned.checked.prog.make == some Rows.fnPathsAndCirclesRow.make)) = true := by rw [x_make]; rfl
theorem pathsAndCircles_k28 : ((Rows.fnPathsAndCirclesRow.kinds == (if Rows.fnPathsAndCirclesRow.domain.isEmpty then [] else Try.f3.params.toList.map fun t => match Try.pinned.checked.prog.underlying t with | some (.int k) => some k | _ => none))) = true := by kernel_rfl
theorem pathsAndCircles_k29 : ((Rows.fnPathsAndCirclesRow.pinned == Rows.fnPathsAndCirclesRow.pinnedBy)) = true := by kernel_rfl
theorem pathsAndCircles_k30 : ((Rows.fnPathsAndCirclesRow.veiled == (Try.f3.params.toList ++ Rows.fnPathsAndCirclesSpec.plain.varTypes Try.pinned.checked.prog ++ Try.f3.resultTypes.toList).any (Try.pinned.checked.prog.veiledRec ·))) = true := by kernel_rfl
theorem pathsAndCircles_k31 : (Rows.fnPathsAndCirclesRow.veiledFits Try.pinned.checked.prog Try.f3.params.toList (Try.f3.params.toList ++ Rows.fnPathsAndCirclesSpec.plain.varTypes Try.pinned.checked.prog ++ Try.f3.resultTypes.toList)) = true := by kernel_rfl
theorem pathsAndCircles_pkg : decide (Check.packageOf Try.f3.name = "main") = false := by kernel_rfl
theorem pathsAndCircles_inst : Func.isInstance Try.pinned.checked.prog Try.f3 Rows.fnPathsAndCirclesRow.origin Rows.fnPathsAndCirclesRow.targs := of_decide_eq_true (by kernel_rfl)
theorem pathsAndCircles_wrap : Func.isWrapper Try.pinned.checked.prog Try.f3 Rows.fnPathsAndCirclesRow.wrapper Rows.fnPathsAndCirclesRow.mainSum := by
  unfold Func.isWrapper; rw [if_neg (of_decide_eq_false pathsAndCircles_pkg)]; exact ⟨rfl, rfl⟩
set_option maxRecDepth 100000 in
theorem pathsAndCircles_closed : joinedFacts Try.pinned.checked.prog 3 Try.f3 Rows.fnPathsAndCirclesSpec Rows.fnPathsAndCirclesRow = true :=
  (and_of (and_of (and_of (and_of (and_of (and_of (and_of (and_of (and_of (and_of (and_of (and_of (and_of (and_of (and_of (and_of (and_of (and_of (and_of (and_of (and_of (and_of (and_of (and_of (and_of (and_of (and_of (and_of (and_of (and_of (and_of pathsAndCircles_k0 pathsAndCircles_k1) pathsAndCircles_k2) pathsAndCircles_k3) pathsAndCircles_k4) pathsAndCircles_k5) pathsAndCircles_k6) pathsAndCircles_k7) pathsAndCircles_k8) pathsAndCircles_k9) pathsAndCircles_k10) pathsAndCircles_k11) pathsAndCircles_k12) pathsAndCircles_k13) pathsAndCircles_k14) pathsAndCircles_k15) pathsAndCircles_k16) pathsAndCircles_k17) pathsAndCircles_k18) pathsAndCircles_k19) pathsAndCircles_k20) pathsAndCircles_k21) pathsAndCircles_k22) pathsAndCircles_k23) pathsAndCircles_k24) pathsAndCircles_k25) pathsAndCircles_k26) pathsAndCircles_k27) pathsAndCircles_k28) pathsAndCircles_k29) pathsAndCircles_k30) pathsAndCircles_k31)
theorem pathsAndCircles_holds : Rows.FnPathsAndCirclesSaid :=
  OpenClaim.holds_of_wide 3 Try.f3 rfl rfl rfl rfl rfl rfl rfl ⟨rfl, rfl, rfl, rfl, rfl⟩ rfl rfl rfl rfl rfl (by kernel_rfl) Try.func3 pathsAndCircles_closed
    pathsAndCircles_inst pathsAndCircles_wrap (fun os started H enc _ => pathsAndCircles_lifted os started H enc)
end Go.Proofs.Ytibikoajejfdeaa
