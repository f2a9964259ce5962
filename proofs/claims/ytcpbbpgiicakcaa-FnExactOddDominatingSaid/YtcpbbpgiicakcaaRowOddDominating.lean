/-
OddDominating answers as its model at every graph, and the graph is as it was. No condition.
-/
import Derived.Test.YtcpbbpgiicakcaaLS
import Derived.Test.YtcpbbpgiicakcaaP
import Derived.Test.YtcpbbpgiicakcaaQ1
namespace Go.Proofs.Ytcpbbpgiicakcaa
open Go.ChangeShapes Go.WideShapes Go.ChangeAt Go.RowKit
set_option maxRecDepth 100000 in
theorem oddDominating_lifted (os : Os) (started : os.Started) (H : Type) (enc : TypeId × Value → H) :
    ReturnsInHanded {} Try.checked os 8 .any (Rows.fnExactOddDominatingSpec.pre6 enc Try.prog Try.f8 Rows.fnExactOddDominatingRow.domain false) (Rows.fnExactOddDominatingSpec.post enc Try.prog Try.f8 false true false false) := by
  refine returnsInHanded_of_change (C := Try.checked) Try.own started (by kernel_rfl) Try.func8
    (ChangeSpec.witness6 (enc := enc) (C := Try.checked) false ⟨#[], #[.agg #[.slice none 0 0, .bool false]], []⟩ 8 (by kernel_rfl) (by kernel_rfl) (by kernel_rfl) (by kernel_rfl)) ?_
  intro W base args ds gs before hval0 hW hcnd _
  have hval : ∀ (j : Nat) t v, Try.f8.params[j]? = some t → args[j]? = some v → Value.okWide Try.prog W .any base t v := hval0
  have hW' := hW
  obtain ⟨p, q, hA0, hV, rfl, hfz, hnd⟩ := hW
  have hA : DataW.TrodAll enc Try.prog W 0 (fun _ => true) true Try.f8.params.toList args.toList ds p := hA0
  rw [Try.params8] at hA hval
  obtain ⟨v0, d0, rfl, rfl, h0⟩ := trodAll_one hA
  obtain ⟨rfl, rfl⟩ := trodVars_none hV
  obtain ⟨A0, n0, c0, f0, own0, rfl, hn0, hs0, hw0⟩ := open_graph (hval 0 24 v0 rfl rfl) h0
  clear hA0 hval0
  simp only [List.append_nil] at hW'
  have hlt0 : ∀ x ∈ p, x.block < W.heap.size := fun x hx => hW'.lt x (by simp [hx])
  refine (lawOddDominating A0 n0 c0 f0 own0 W hn0 hs0).mono fun e W' ⟨he, hb⟩ => ?_
  subst he
  exact ⟨_, rfl, post_of_below (pa := p) (pv := []) hW' (fun _ _ _ => trodAll_mk1 (shut_bool Try.underlying4 true))
    (fun sp hsp => trodAll_mk1 (stays Try.laidOut (by kernel_rfl) (of_decide_eq_true (by kernel_rfl)) h0 hb hlt0 (fun x hx => hsp x (by simp [hx])))) (fun _ _ => rfl) (by simp) hb
    (ok_one (by kernel_rfl) rfl (okWide_bool_mk Try.underlying4 true))⟩
theorem oddDominating_k0 : (Rows.fnExactOddDominatingRow.wf (OpenSpec.ofChange Rows.fnExactOddDominatingSpec)) = true := by kernel_rfl
theorem oddDominating_k1 : (laidOutB Try.pinned.checked.prog) = true := by kernel_rfl
theorem oddDominating_k2 : (mapsRowed Try.pinned.checked.prog) = true := by kernel_rfl
theorem oddDominating_k3 : (Try.f8.params.all (Try.pinned.checked.prog.readableRec ·)) = true := by kernel_rfl
theorem oddDominating_k4 : (namedTie Try.pinned.checked.prog Rows.fnExactOddDominatingRow.named Rows.fnExactOddDominatingSpec.vars) = true := by kernel_rfl
theorem oddDominating_k5 : ((Rows.fnExactOddDominatingRow.stops == [])) = true := by kernel_rfl
theorem oddDominating_k6 : ((Try.pinned.checked.prog.stops == [])) = true := by kernel_rfl
theorem oddDominating_k7 : ((Rows.fnExactOddDominatingRow.knobs == [])) = true := by kernel_rfl
theorem oddDominating_k8 : ((Try.pinned.checked.prog.stopKnobs == [])) = true := by kernel_rfl
theorem oddDominating_k9 : ((Rows.fnExactOddDominatingRow.inPlace == Try.pinned.checked.prog.inPlace 8)) = true := by kernel_rfl
theorem oddDominating_k10 : ((Rows.fnExactOddDominatingRow.unfollowed == Try.pinned.checked.prog.unfollowed 8)) = true := by kernel_rfl
theorem oddDominating_k11 : ((Rows.fnExactOddDominatingRow.recurses == Try.pinned.checked.prog.recurses 8)) = true := by kernel_rfl
theorem oddDominating_k12 : ((Rows.fnExactOddDominatingRow.named == Try.pinned.checked.prog.varsNamed 8)) = true := by kernel_rfl
theorem oddDominating_k13 : ((Rows.fnExactOddDominatingRow.maps == (Try.f8.params.toList ++ Rows.fnExactOddDominatingSpec.plain.varTypes Try.pinned.checked.prog).any (Try.pinned.checked.prog.mapsRec ·))) = true := by kernel_rfl
theorem oddDominating_k14 : ((Rows.fnExactOddDominatingRow.ifaces == (Try.f8.params.toList ++ Rows.fnExactOddDominatingSpec.plain.varTypes Try.pinned.checked.prog).any (Try.pinned.checked.prog.ifacesRec ·))) = true := by kernel_rfl
theorem oddDominating_k15 : ((Rows.fnExactOddDominatingRow.mapsOut == Try.pinned.checked.prog.mapsAmong Try.f8.resultTypes.toList)) = true := by kernel_rfl
theorem oddDominating_k16 : ((Rows.fnExactOddDominatingRow.loops == (Try.f8.params.toList ++ Rows.fnExactOddDominatingSpec.plain.varTypes Try.pinned.checked.prog).any (Try.pinned.checked.prog.loopsFrom ·))) = true := by kernel_rfl
theorem oddDominating_k17 : ((Rows.fnExactOddDominatingRow.wideKeys == (Try.f8.params.toList ++ Rows.fnExactOddDominatingSpec.plain.varTypes Try.pinned.checked.prog ++ Try.f8.resultTypes.toList).any (Try.pinned.checked.prog.wideKeysFrom ·))) = true := by kernel_rfl
theorem oddDominating_k18 : (Rows.fnExactOddDominatingSpec.vars.all (Try.pinned.checked.prog.varReadable ·)) = true := by kernel_rfl
theorem oddDominating_k19 : (Try.f8.resultTypes.all (fun t => Try.pinned.checked.prog.readableRec t && decide (t < Try.pinned.checked.prog.types.size))) = true := by kernel_rfl
theorem oddDominating_k20 : ((Rows.fnExactOddDominatingRow.ifacesOut == Try.f8.resultTypes.toList.any (Try.pinned.checked.prog.ifacesRec ·))) = true := by kernel_rfl
theorem oddDominating_k21 : ((Rows.fnExactOddDominatingRow.loopsOut == Try.f8.resultTypes.toList.any (Try.pinned.checked.prog.loopsFrom ·))) = true := by kernel_rfl
theorem oddDominating_k22 : ((Rows.fnExactOddDominatingRow.plainKeys == Try.pinned.checked.prog.plainKeys)) = true := by kernel_rfl
theorem oddDominating_k23 : (Rows.fnExactOddDominatingRow.shortTexts.isNone) = true := by kernel_rfl
theorem oddDominating_k24 : (Try.pinned.checked.prog.stopsHeard) = true := by kernel_rfl
theorem oddDominating_k25 : (Try.pinned.checked.prog.mayEnter) = true := x_enter
theorem oddDominating_k26 : ((Rows.fnExactOddDominatingRow.lifted == Try.pinned.checked.prog.liftsFinal)) = true := by rw [x_lifts]; rfl
theorem oddDominating_k27 : ((Try.pinned.checked.prog.make == some Rows.fnExactOddDominatingRow.make)) = true := by rw [x_make]; rfl
theorem oddDominating_k28 : ((Rows.fnExactOddDominatingRow.kinds == (if Rows.fnExactOddDominatingRow.domain.isEmpty then [] else Try.f8.params.toList.map fun t => match Try.pinned.checked.prog.underlying t with | some (.int k) => some k | _ => none))) = true := by kernel_rfl
theorem oddDominating_k29 : ((Rows.fnExactOddDominatingRow.pinned == Rows.fnExactOddDominatingRow.pinnedBy)) = true := by kernel_rfl
theorem oddDominating_k30 : ((Rows.fnExactOddDominatingRow.veiled == (Try.f8.params.toList ++ Rows.fnExactOddDominatingSpec.plain.varTypes Try.pinned.checked.prog ++ Try.f8.resultTypes.toList).any (Try.pinned.checked.prog.veiledRec ·))) = true := by kernel_rfl
theorem oddDominating_k31 : (Rows.fnExactOddDominatingRow.veiledFits Try.pinned.checked.prog Try.f8.params.toList (Try.f8.params.toList ++ Rows.fnExactOddDominatingSpec.plain.varTypes Try.pinned.checked.prog ++ Try.f8.resultTypes.toList)) = true := by kernel_rfl
theorem oddDominating_pkg : decide (Check.packageOf Try.f8.name = "main") = false := by kernel_rfl
theorem oddDominating_inst : Func.isInstance Try.pinned.checked.prog Try.f8 Rows.fnExactOddDominatingRow.origin Rows.fnExactOddDominatingRow.targs := of_decide_eq_true (by kernel_rfl)
theorem oddDominating_wrap : Func.isWrapper Try.pinned.checked.prog Try.f8 Rows.fnExactOddDominatingRow.wrapper Rows.fnExactOddDominatingRow.mainSum := by
  unfold Func.isWrapper; rw [if_neg (of_decide_eq_false oddDominating_pkg)]; exact ⟨rfl, rfl⟩
set_option maxRecDepth 100000 in
theorem oddDominating_closed : joinedFacts Try.pinned.checked.prog 8 Try.f8 Rows.fnExactOddDominatingSpec Rows.fnExactOddDominatingRow = true :=
  (and_of (and_of (and_of (and_of (and_of (and_of (and_of (and_of (and_of (and_of (and_of (and_of (and_of (and_of (and_of (and_of (and_of (and_of (and_of (and_of (and_of (and_of (and_of (and_of (and_of (and_of (and_of (and_of (and_of (and_of (and_of oddDominating_k0 oddDominating_k1) oddDominating_k2) oddDominating_k3) oddDominating_k4) oddDominating_k5) oddDominating_k6) oddDominating_k7) oddDominating_k8) oddDominating_k9) oddDominating_k10) oddDominating_k11) oddDominating_k12) oddDominating_k13) oddDominating_k14) oddDominating_k15) oddDominating_k16) oddDominating_k17) oddDominating_k18) oddDominating_k19) oddDominating_k20) oddDominating_k21) oddDominating_k22) oddDominating_k23) oddDominating_k24) oddDominating_k25) oddDominating_k26) oddDominating_k27) oddDominating_k28) oddDominating_k29) oddDominating_k30) oddDominating_k31)
theorem oddDominating_holds : Rows.FnExactOddDominatingSaid :=
  OpenClaim.holds_of_wide 8 Try.f8 rfl rfl rfl rfl rfl rfl rfl ⟨rfl, rfl, rfl, rfl, rfl⟩ rfl rfl rfl rfl rfl (by kernel_rfl) Try.func8 oddDominating_closed
    oddDominating_inst oddDominating_wrap (fun os started H enc _ => oddDominating_lifted os started H enc)
end Go.Proofs.Ytcpbbpgiicakcaa
