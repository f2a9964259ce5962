/-
BinaryTree answers as its model at every number and Own, and its answers share no memory. No condition.
-/
import Derived.Test.YtmcimfblhpflnaaLH
import Derived.Test.YtmcimfblhpflnaaP
import Derived.Test.YtmcimfblhpflnaaQ1
namespace Go.Proofs.Ytmcimfblhpflnaa
open Go.ChangeShapes Go.WideShapes Go.ChangeAt Go.RowKit
set_option maxRecDepth 100000 in
theorem binaryTree_lifted (os : Os) (started : os.Started) (H : Type) (enc : TypeId × Value → H) :
    ReturnsInHanded {} Try.checked os 7 .any (Rows.fnExactBinaryTreeSpec.pre6 enc Try.prog Try.f7 Rows.fnExactBinaryTreeRow.domain false) (Rows.fnExactBinaryTreeSpec.post enc Try.prog Try.f7 false true false false) := by
  refine returnsInHanded_of_change (C := Try.checked) Try.own started (by kernel_rfl) Try.func7
    (ChangeSpec.witness6 (enc := enc) (C := Try.checked) false ⟨#[], #[.int .i64 0, .bool false], []⟩ 8 (by kernel_rfl) (by kernel_rfl) (by kernel_rfl) (by kernel_rfl)) ?_
  intro W base args ds gs before hval0 hW hcnd _
  have hval : ∀ (j : Nat) t v, Try.f7.params[j]? = some t → args[j]? = some v → Value.okWide Try.prog W .any base t v := hval0
  have hW' := hW
  obtain ⟨p, q, hA0, hV, rfl, hfz, hnd⟩ := hW
  have hA : DataW.TrodAll enc Try.prog W 0 (fun _ => true) true Try.f7.params.toList args.toList ds p := hA0
  rw [Try.params7] at hA hval
  obtain ⟨v0, v1, d0, d1, p0, p1, rfl, rfl, rfl, h0, h1⟩ := trodAll_two hA
  obtain ⟨rfl, rfl⟩ := trodVars_none hV
  obtain ⟨a0, rfl, rfl, rfl, wa0⟩ := open_int Try.underlying3 (hval 0 3 v0 rfl rfl) h0
  obtain ⟨b1, rfl, rfl, rfl⟩ := open_bool Try.underlying4 (hval 1 4 v1 rfl rfl) h1
  clear hA0 hval0
  simp only [List.append_nil] at hW'
  refine (lawBinary a0 b1 W).mono fun e W' ⟨he, hb⟩ => ?_
  subst he
  exact ⟨_, rfl, post_of_below (pa := []) (pv := []) hW' (fun _ _ _ => trodAll_mk1 (shut_bool Try.underlying4 true))
    (fun sp hsp => trodAll_mk2 (shut_int Try.underlying3 wa0) (shut_bool Try.underlying4 b1)) (fun _ _ => rfl) (by simp) hb
    (ok_one (by kernel_rfl) rfl (okWide_bool_mk Try.underlying4 true))⟩
theorem binaryTree_k0 : (Rows.fnExactBinaryTreeRow.wf (OpenSpec.ofChange Rows.fnExactBinaryTreeSpec)) = true := by kernel_rfl
theorem binaryTree_k1 : (laidOutB Try.pinned.checked.prog) = true := by kernel_rfl
theorem binaryTree_k2 : (mapsRowed Try.pinned.checked.prog) = true := by kernel_rfl
theorem binaryTree_k3 : (Try.f7.params.all (Try.pinned.checked.prog.readableRec ·)) = true := by kernel_rfl
theorem binaryTree_k4 : (namedTie Try.pinned.checked.prog Rows.fnExactBinaryTreeRow.named Rows.fnExactBinaryTreeSpec.vars) = true := by kernel_rfl
theorem binaryTree_k5 : ((Rows.fnExactBinaryTreeRow.stops == [])) = true := by kernel_rfl
theorem binaryTree_k6 : ((Try.pinned.checked.prog.stops == [])) = true := by kernel_rfl
theorem binaryTree_k7 : ((Rows.fnExactBinaryTreeRow.knobs == [])) = true := by kernel_rfl
theorem binaryTree_k8 : ((Try.pinned.checked.prog.stopKnobs == [])) = true := by kernel_rfl
theorem binaryTree_k9 : ((Rows.fnExactBinaryTreeRow.inPlace == Try.pinned.checked.prog.inPlace 7)) = true := by kernel_rfl
theorem binaryTree_k10 : ((Rows.fnExactBinaryTreeRow.unfollowed == Try.pinned.checked.prog.unfollowed 7)) = true := by kernel_rfl
theorem binaryTree_k11 : ((Rows.fnExactBinaryTreeRow.recurses == Try.pinned.checked.prog.recurses 7)) = true := by kernel_rfl
theorem binaryTree_k12 : ((Rows.fnExactBinaryTreeRow.named == Try.pinned.checked.prog.varsNamed 7)) = true := by kernel_rfl
theorem binaryTree_k13 : ((Rows.fnExactBinaryTreeRow.maps == (Try.f7.params.toList ++ Rows.fnExactBinaryTreeSpec.plain.varTypes Try.pinned.checked.prog).any (Try.pinned.checked.prog.mapsRec ·))) = true := by kernel_rfl
theorem binaryTree_k14 : ((Rows.fnExactBinaryTreeRow.ifaces == (Try.f7.params.toList ++ Rows.fnExactBinaryTreeSpec.plain.varTypes Try.pinned.checked.prog).any (Try.pinned.checked.prog.ifacesRec ·))) = true := by kernel_rfl
theorem binaryTree_k15 : ((Rows.fnExactBinaryTreeRow.mapsOut == Try.pinned.checked.prog.mapsAmong Try.f7.resultTypes.toList)) = true := by kernel_rfl
theorem binaryTree_k16 : ((Rows.fnExactBinaryTreeRow.loops == (Try.f7.params.toList ++ Rows.fnExactBinaryTreeSpec.plain.varTypes Try.pinned.checked.prog).any (Try.pinned.checked.prog.loopsFrom ·))) = true := by kernel_rfl
theorem binaryTree_k17 : ((Rows.fnExactBinaryTreeRow.wideKeys == (Try.f7.params.toList ++ Rows.fnExactBinaryTreeSpec.plain.varTypes Try.pinned.checked.prog ++ Try.f7.resultTypes.toList).any (Try.pinned.checked.prog.wideKeysFrom ·))) = true := by kernel_rfl
theorem binaryTree_k18 : (Rows.fnExactBinaryTreeSpec.vars.all (Try.pinned.checked.prog.varReadable ·)) = true := by kernel_rfl
theorem binaryTree_k19 : (Try.f7.resultTypes.all (fun t => Try.pinned.checked.prog.readableRec t && decide (t < Try.pinned.checked.prog.types.size))) = true := by kernel_rfl
theorem binaryTree_k20 : ((Rows.fnExactBinaryTreeRow.ifacesOut == Try.f7.resultTypes.toList.any (Try.pinned.checked.prog.ifacesRec ·))) = true := by kernel_rfl
theorem binaryTree_k21 : ((Rows.fnExactBinaryTreeRow.loopsOut == Try.f7.resultTypes.toList.any (Try.pinned.checked.prog.loopsFrom ·))) = true := by kernel_rfl
theorem binaryTree_k22 : ((Rows.fnExactBinaryTreeRow.plainKeys == Try.pinned.checked.prog.plainKeys)) = true := by kernel_rfl
theorem binaryTree_k23 : (Rows.fnExactBinaryTreeRow.shortTexts.isNone) = true := by kernel_rfl
theorem binaryTree_k24 : (Try.pinned.checked.prog.stopsHeard) = true := by kernel_rfl
theorem binaryTree_k25 : (Try.pinned.checked.prog.mayEnter) = true := x_enter
theorem binaryTree_k26 : ((Rows.fnExactBinaryTreeRow.lifted == Try.pinned.checked.prog.liftsFinal)) = true := by rw [x_lifts]; rfl
theorem binaryTree_k27 : ((Try.pinned.checked.prog.make == some Rows.fnExactBinaryTreeRow.make)) = true := by rw [x_make]; rfl
theorem binaryTree_k28 : ((Rows.fnExactBinaryTreeRow.kinds == (if Rows.fnExactBinaryTreeRow.domain.isEmpty then [] else Try.f7.params.toList.map fun t => match Try.pinned.checked.prog.underlying t with | some (.int k) => some k | _ => none))) = true := by kernel_rfl
theorem binaryTree_k29 : ((Rows.fnExactBinaryTreeRow.pinned == Rows.fnExactBinaryTreeRow.pinnedBy)) = true := by kernel_rfl
theorem binaryTree_k30 : ((Rows.fnExactBinaryTreeRow.veiled == (Try.f7.params.toList ++ Rows.fnExactBinaryTreeSpec.plain.varTypes Try.pinned.checked.prog ++ Try.f7.resultTypes.toList).any (Try.pinned.checked.prog.veiledRec ·))) = true := by kernel_rfl
theorem binaryTree_k31 : (Rows.fnExactBinaryTreeRow.veiledFits Try.pinned.checked.prog Try.f7.params.toList (Try.f7.params.toList ++ Rows.fnExactBinaryTreeSpec.plain.varTypes Try.pinned.checked.prog ++ Try.f7.resultTypes.toList)) = true := by kernel_rfl
theorem binaryTree_pkg : decide (Check.packageOf Try.f7.name = "main") = false := by kernel_rfl
theorem binaryTree_inst : Func.isInstance Try.pinned.checked.prog Try.f7 Rows.fnExactBinaryTreeRow.origin Rows.fnExactBinaryTreeRow.targs := of_decide_eq_true (by kernel_rfl)
theorem binaryTree_wrap : Func.isWrapper Try.pinned.checked.prog Try.f7 Rows.fnExactBinaryTreeRow.wrapper Rows.fnExactBinaryTreeRow.mainSum := by
  unfold Func.isWrapper; rw [if_neg (of_decide_eq_false binaryTree_pkg)]; exact ⟨rfl, rfl⟩
set_option maxRecDepth 100000 in
theorem binaryTree_closed : joinedFacts Try.pinned.checked.prog 7 Try.f7 Rows.fnExactBinaryTreeSpec Rows.fnExactBinaryTreeRow = true :=
  (and_of (and_of (and_of (and_of (and_of (and_of (and_of (and_of (and_of (and_of (and_of (and_of (and_of (and_of (and_of (and_of (and_of (and_of (and_of (and_of (and_of (and_of (and_of (and_of (and_of (and_of (and_of (and_of (and_of (and_of (and_of binaryTree_k0 binaryTree_k1) binaryTree_k2) binaryTree_k3) binaryTree_k4) binaryTree_k5) binaryTree_k6) binaryTree_k7) binaryTree_k8) binaryTree_k9) binaryTree_k10) binaryTree_k11) binaryTree_k12) binaryTree_k13) binaryTree_k14) binaryTree_k15) binaryTree_k16) binaryTree_k17) binaryTree_k18) binaryTree_k19) binaryTree_k20) binaryTree_k21) binaryTree_k22) binaryTree_k23) binaryTree_k24) binaryTree_k25) binaryTree_k26) binaryTree_k27) binaryTree_k28) binaryTree_k29) binaryTree_k30) binaryTree_k31)
theorem binaryTree_holds : Rows.FnExactBinaryTreeSaid :=
  OpenClaim.holds_of_wide 7 Try.f7 rfl rfl rfl rfl rfl rfl rfl ⟨rfl, rfl, rfl, rfl, rfl⟩ rfl rfl rfl rfl rfl (by kernel_rfl) Try.func7 binaryTree_closed
    binaryTree_inst binaryTree_wrap (fun os started H enc _ => binaryTree_lifted os started H enc)
end Go.Proofs.Ytmcimfblhpflnaa
