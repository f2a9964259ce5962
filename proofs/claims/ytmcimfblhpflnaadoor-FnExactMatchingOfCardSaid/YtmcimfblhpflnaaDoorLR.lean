/-
The same laws for a region inside a round of a range over a function.
-/
import Derived.Test.YtmcimfblhpflnaaDoorLT
import Derived.OrdersIn
import Derived.TacticsIn
import Derived.RangeFuncCalls
namespace Go.Proofs.YtmcimfblhpflnaaDoor
open Go.RowKit
/-- No operation is a defer statement. -/
def noDefer (l : List Oper) : Bool := l.all fun o => match o.op with | .defer _ => false | _ => true
theorem noDefer_at {l : List Oper} (h : noDefer l = true) {o : Oper} (ho : o ∈ l) : ∀ c, o.op ≠ .defer c := by
  intro c e
  have := List.all_eq_true.1 h o ho
  rw [e] at this
  cases this
section
variable {P : Program} {ops : Array Oper} {md : Region.Mode} {C : World → Prop} {l n : Nat}
theorem wpIn_of_quiet {o : Oper} {a : Act} {K : Act → Prop} {K' : Act → World → Prop} {Q' : Exit → Act → World → Prop} {w : World} (hd : ∀ c, o.op ≠ .defer c) (hw : C w) (h : ∀ a w', C w' → K a → K' a w') (hh : o.quiet P a C K) :
    o.wpIn (Fence.wide.inRound l) n P a w K' Q' := by
  obtain ⟨v, h1, h2⟩ := hh
  have h3 := h1 w hw
  unfold Oper.quietAt at h3
  unfold Oper.wpIn
  refine ⟨fun _ _ => trivial, ?_⟩
  rw [Oper.semAt_eq _ _ _ hd]
  generalize (execOp a.eval o).run P w = r at *
  cases r with
  | ok x w' =>
    cases x <;> simp only [Oper.quietUpon] at h3 <;> simp only [Oper.uponIn]
    case value u =>
      obtain ⟨e1, e2⟩ := h3
      rw [e1, e2]
      exact h _ _ hw h2
    case skip =>
      obtain ⟨e1, e2⟩ := h3
      rw [e1, ← e2]
      exact h _ _ hw h2
    case enter f args =>
      obtain ⟨e1, hc⟩ := h3
      rw [e1]
      refine ⟨(fun e => by cases e), CallsIn.inRound l (callsIn_wide.2 (hc.mono fun e w'' ⟨he, hw''⟩ => ?_))⟩
      subst he
      exact h _ _ hw'' h2
  | halt x w' => simp only [Oper.quietUpon] at h3
theorem wpOpIn_of_qOp {i : Nat} {a : Act} {K : Act → Prop} {K' : Act → World → Prop} {Q' : Exit → Act → World → Prop} {w : World} (hd : noDefer ops.toList = true) (hC : C w) (h : ∀ a w', C w' → K a → K' a w') (hh : qOp P ops C i K a) :
    wpOpIn (Fence.wide.inRound l) n P ops Q' i K' a w := by
  unfold qOp at hh
  unfold wpOpIn
  split
  · rename_i ho; simp only [ho] at hh; exact h _ _ hC hh
  · rename_i o ho
    simp only [ho] at hh
    have hm : o ∈ ops.toList := by
      have := Array.mem_of_getElem? ho
      simpa using this
    split
    · rename_i hw; simp only [hw, if_true] at hh; exact wpIn_of_quiet (noDefer_at hd hm) hC h hh
    · rename_i hw; simp only [hw] at hh; exact ⟨fun _ _ => trivial, h _ _ hC hh⟩
theorem anyIn_of_quiet {Q : Act → Prop} {Q' : Exit → Act → World → Prop} (hd : noDefer ops.toList = true) (hQ : ∀ a w, C w → Q a → Q' .normal a w) : ∀ (fuel : Nat) (seen : Array Bool) (a : Act) (w : World), C w →
    wpAnyQ P md ops C Q fuel seen a → wpAnyIn (Fence.wide.inRound l) n P md ops Q' fuel seen a w
  | 0, _, _, _, hw, h => ⟨h.1, hQ _ _ hw h.2⟩
  | fuel + 1, _, _, _, hw, h => ⟨fun h0 => hQ _ _ hw (h.1 h0), fun i hi => wpOpIn_of_qOp hd hw (fun a' w' hw' => anyIn_of_quiet hd hQ fuel _ a' w' hw') (h.2 i hi)⟩
theorem anyIn_of_headQ {k g : Nat} {L : Array Bool → Act → Prop} {Q' : Exit → Act → World → Prop} (hd : noDefer ops.toList = true) (hL : ∀ seen a w, C w → L seen a → wpAnyIn (Fence.wide.inRound l) n P md ops Q' g seen a w) :
    ∀ (f : Nat) (seen : Array Bool) (a : Act) (w : World), C w → headQ P md ops C k L f seen a → wpAnyIn (Fence.wide.inRound l) n P md ops Q' (f + g) seen a w
  | 0, seen, a, w, hw, h => by rw [Nat.zero_add]; exact hL _ _ _ hw h
  | f + 1, seen, a, w, hw, h => by
    rw [Nat.add_right_comm]
    exact ⟨fun e => (h.1 e).elim, fun i hi => wpOpIn_of_qOp hd hw (fun a' w' hw' h' => anyIn_of_headQ hd hL f _ a' w' hw' h') (h.2 i hi).2⟩
theorem anyIn_of_seq {F : Fence} {Q' : Exit → Act → World → Prop} : ∀ (r : List Oper) (k : Nat) (seen : Array Bool) (a : Act) (w : World), (∀ j, r[j]? = ops[k + j]?) →
    Region.seqB md ops r.length k seen = true → wpListIn F n P ops Q' r a w → wpAnyIn F n P md ops Q' r.length seen a w
  | [], _, _, _, _, _, hB, h => ⟨by simpa [Region.seqB] using hB, h⟩
  | o :: r, k, seen, a, w, hr, hB, h => by
    have ho : ops[k]? = some o := (hr 0).symm
    simp only [List.length_cons, Region.seqB, Bool.and_eq_true, decide_eq_true_eq] at hB
    refine ⟨(fun e => by rw [hB.1] at e; cases e), fun i hi => ?_⟩
    rw [hB.1, List.mem_singleton] at hi
    subst hi
    refine wpOpIn_mono (fun a' w' h' => anyIn_of_seq r (i + 1) _ a' w' (fun j => ?_) hB.2 h') (show wpOpIn F n P ops Q' i (wpListIn F n P ops Q' r) a w by unfold wpOpIn; simp only [ho]; exact h)
    have := hr (j + 1)
    rw [Nat.add_assoc, Nat.add_comm 1 j]
    simpa using this
theorem wpIn_region_quiet_tail {id : Nat} {Q : Exit → Act → World → Prop} {a : Act} {w : World} {r : List Oper} (k : Nat) (hm : P.follows .mixedOrders = true) (hB : Region.lexTailB .any r.toArray k = true) (hd : noDefer r = true) (hC : C w.drew)
    (h : wpQuiet P r.toArray C (fun a' => ∀ w', C w' → wpListIn (Fence.wide.inRound l) n P r.toArray Q (r.drop k) a' w') (r.take k) a) : (Code.region id r.toArray true).wpIn (Fence.wide.inRound l) n P Q a w := by
  simp only [Region.lexTailB, Bool.and_eq_true, decide_eq_true_eq] at hB
  obtain ⟨⟨⟨⟨hsel, hn⟩, hs⟩, hc⟩, hlex⟩ := hB
  have hsz : r.toArray.size = r.length := by simp
  have htl : (r.take k).length = k := by rw [List.length_take]; omega
  have hdl : (r.drop k).length = r.toArray.size - k := by rw [List.length_drop, hsz]
  have inv : HeadInv .any r.toArray k (Array.replicate r.toArray.size false) :=
    ⟨by simp, (fun j oj _ e => by rw [getD_replicate_false] at e; cases e), fun t _ ht => getD_in (by simpa using ht) (getD_replicate_false _ _)⟩
  have H := headQ_lex (md := .any) (g := r.toArray.size - k) hsel hs hc hn (r.take k) 0 _ a (fun j hj => by
    rw [htl] at hj
    simp [hj]) (by rw [htl]; omega) inv (by rw [htl]; exact hlex) h
  refine wpIn_region_any hm ?_
  have K := anyIn_of_headQ (l := l) (n := n) (Q' := Q) (g := r.toArray.size - k) (by simpa using hd) (fun s b w' hw' hL => by
    have := anyIn_of_seq (F := Fence.wide.inRound l) (n := n) (md := .any) (Q' := Q) (r.drop k) k s b w' (fun j => by simp [List.getElem?_drop]) (by rw [hdl]; exact hL.1) (hL.2 w' hw')
    rwa [hdl] at this) _ _ _ _ hC H
  rw [htl, show k + (r.toArray.size - k) = r.toArray.size by omega] at K
  exact K
theorem wpIn_round_quiet {id : Nat} {Q : Exit → Act → World → Prop} {a : Act} {w : World} {r : List Oper} (hm : P.follows .mixedOrders = true) (hB : Region.lexB .any r.toArray = true) (hd : noDefer r = true) (hC : C w.drew)
    (h : wpQuiet P r.toArray C (fun a' => ∀ w', C w' → Q .normal a' w') r a) : (Code.region id r.toArray true).wpIn (Fence.wide.inRound l) n P Q a w := by
  simp only [Region.lexB, Bool.and_eq_true] at hB
  refine wpIn_region_any hm (anyIn_of_quiet (Q := fun a' => ∀ w', C w' → Q .normal a' w') (by simpa using hd) (fun _ w' hw' h => h w' hw') _ _ _ _ hC ?_)
  have := wpAnyQ_lex (C := C) (md := .any) hB.1 r 0 (Array.replicate r.toArray.size false) a (by simp) (by simpa using hB.2) h
  simpa using this
end
theorem wpIn_later_tail {P : Program} {l n : Nat} {id : Nat} {Q : Exit → Act → World → Prop} {a : Act} {w1 : World} {r : List Oper} (k : Nat) (hm : P.follows .mixedOrders = true) (hB : Region.lexTailB .any r.toArray k = true) (hd : noDefer r = true)
    (h : wpQuiet P r.toArray (fun w' => ∃ x : Later w1, w' = x.w) (fun a' => ∀ w', (∃ x : Later w1, w' = x.w) → wpListIn (Fence.wide.inRound l) n P r.toArray Q (r.drop k) a' w') (r.take k) a) : (Code.region id r.toArray true).wpIn (Fence.wide.inRound l) n P Q a w1 :=
  wpIn_region_quiet_tail (C := fun w' => ∃ x : Later w1, w' = x.w) k hm hB hd ⟨⟨w1.drew, Below.drew (Below.refl _ _)⟩, rfl⟩ h
theorem wpIn_later {P : Program} {l n : Nat} {id : Nat} {Q : Exit → Act → World → Prop} {a : Act} {w1 : World} {r : List Oper} (hm : P.follows .mixedOrders = true) (hB : Region.lexB .any r.toArray = true) (hd : noDefer r = true)
    (h : wpQuiet P r.toArray (fun w' => ∃ x : Later w1, w' = x.w) (fun a' => ∀ w', (∃ x : Later w1, w' = x.w) → Q .normal a' w') r a) : (Code.region id r.toArray true).wpIn (Fence.wide.inRound l) n P Q a w1 :=
  wpIn_round_quiet (C := fun w' => ∃ x : Later w1, w' = x.w) hm hB hd ⟨⟨w1.drew, Below.drew (Below.refl _ _)⟩, rfl⟩ h
end Go.Proofs.YtmcimfblhpflnaaDoor
