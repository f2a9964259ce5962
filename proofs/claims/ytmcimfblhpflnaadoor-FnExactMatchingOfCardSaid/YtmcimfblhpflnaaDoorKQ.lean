/-
keptParts: a new map that keeps each part of the graph under its least button.
-/
import Derived.Test.YtmcimfblhpflnaaDoorZa
import Derived.Test.YtmcimfblhpflnaaDoorK
import Derived.Test.YtmcimfblhpflnaaDoorEA0
import Derived.Maps.RangeWalk
import Derived.WalkKit
namespace Go.Proofs.YtmcimfblhpflnaaDoor
open Go.RowKit Go.Maps
set_option maxHeartbeats 2000000
theorem law3 : Keyed Tryd.prog 3 := int_keyed Tryd.underlying3
theorem and_small (a b : Nat) (ha : a < 65536) (hb : b < 65536) : bits .and .i64 (a : Int) (b : Int) = ((a &&& b : Nat) : Int) := by
  have hx : a &&& b < 2 ^ 63 := Nat.lt_of_le_of_lt Nat.and_le_left (by omega)
  show IntKind.i64.wrap ((BitVec.ofInt 64 (a : Int) &&& BitVec.ofInt 64 (b : Int)).toNat : Int) = _
  rw [BitVec.toNat_and, ofInt_i64 a (by omega), ofInt_i64 b (by omega), IntKind.wrap_i64]
  omega
theorem meets_iff {F : Nat → Nat} {k p : Nat} (hp : IsPart F k p) : F k &&& p ≠ 0 ↔ Meets F k p := by
  constructor
  · intro h
    obtain ⟨i, hi⟩ := Nat.exists_testBit_of_ne_zero h
    rw [Nat.testBit_and, Bool.and_eq_true] at hi
    exact ⟨i, hp.lt i hi.2, hi.1, hi.2⟩
  · rintro ⟨i, _, h1, h2⟩ h
    have : (F k &&& p).testBit i = true := by rw [Nat.testBit_and, h1, h2]; rfl
    rw [h] at this
    simp at this
theorem jn_low {H : Type} {F : Nat → Nat} {k : Nat} {D0 D : DataW H} {left : Lit → Bool} {J : Nat} (hk : k < 16) (h : JN F k D0 D left J) : J ≠ 0 := by
  have := (h.bits k).2 (.inl rfl)
  rintro rfl
  simp at this
theorem lit_wf (x : Nat) (h : x < 65536) : (Lit.int .i64 (x : Int)).wf = true := by
  simp [Lit.wf, IntKind.min, IntKind.max, IntKind.signed, IntKind.bits]; omega
/-- What keptParts leaves. -/
def Kept (H : Type) (w : World) (n : Nat) (F : Nat → Nat) (e : Ending) (w' : World) : Prop :=
  ∃ (b : Nat) (D : DataW H), e = .returned (.map (some b)) ∧ w.heap.size ≤ b ∧ w'.ownsMap Tryd.prog 3 (plainElem Tryd.prog 3) b n D ∧ PM F n D ∧ Below w.heap.size w w'
set_option maxRecDepth 100000 in
theorem kept_any (H : Type) (g n c : Nat) (F : Nat → Nat) (own : Bool) (w : World) (hn : n ≤ 16) (hF : Sym F n) (hF16 : ∀ j, j < n → F j < 65536) (ha : Arr w 3 g n (iv (nv F))) (hT : Tab w) (hw1 : 1 < w.heap.size) :
    Calls Tryd.prog 51 #[.agg #[.slice (some ⟨g, 0, none⟩) n c, .bool own]] w (Kept H w n F) := by
  have HA := hide ha
  have HF := hide hF
  have HT := hide hT
  have HF16 := hide hF16
  clear ha hF hT hF16
  have hmm := @run_makeMap Tryd.prog
  go_enter Tryd.func51, Tryd.ntmps51
  go_wp2
  go_loopw [13] (fun i wr => ∃ (k : Nat) (D : DataW H), k ≤ n ∧ i = .int .i64 k ∧ Hid (wr.ownsMap Tryd.prog 3 (plainElem Tryd.prog 3) (w.heap.size + 1) k D) ∧ Hid (PM F k D) ∧ Hid (Cov F k) ∧ Below w.heap.size w wr)
    (fun i _ => n - (intOf i).toNat)
  case atStart =>
    refine ⟨0, .map [], Nat.zero_le _, rfl, hide ?_, hide (pm_zero F), hide (cov_zero F), by go_grown⟩
    have := World.ownsMap_made (H := H) (w.alloc (.cells #[.slice (some ⟨g, 0, none⟩) n c, .bool own] 28)) Tryd.prog 3 (plainElem Tryd.prog 3)
    simpa only [World.size_alloc] using this
  case round =>
    obtain ⟨k, D, hk, rfl, HM, HP, HC, hw⟩ := hrel
    have hsz := hw.size
    by_cases hlt : k < n
    · have hcell := ((HA.out.below hw HA.out.lt).cell hlt)
      have hbk : Both F (k + 1) := HF.out.both (by omega)
      have HW := hide hw
      have hFk := HF16.out k hlt
      have e1 := wrap_pow (j := k) (by omega)
      have hmb := HM.out.lt
      clear hw
      simp only [iv, nv] at hcell
      go_wp2_with (first
        | (at_range; refine wpList_range_own _ rfl _ 49 rfl 3 3 law3 Tryd.underlying49 _ (w.heap.size + 1) _ _ rfl HM.out ?_; intro w0 hrg0 hg0 hs0)
        | go_in)
      go_frame
      simp only [e1]
      have HRG := hide hrg0
      have HG := hide hg0
      clear hrg0 hg0
      obtain ⟨wq, hwq⟩ : ∃ wq : World, wq = wr := ⟨_, rfl⟩
      subst hwq
      go_loopw [6] (fun J wi => ∃ (left : Lit → Bool) (cnt : Nat) (D' : DataW H) (J' : Nat), J = .int .i64 J' ∧ Hid (wi.ranges Tryd.prog 3 (plainElem Tryd.prog 3) (w.heap.size + 1) wq.heap.size k D' left cnt) ∧ Hid (JN F k D D' left J') ∧ Hid (wq.grownBy wi (some (w.heap.size + 1))))
        (fun _ wi => wi.rangeLeft (w.heap.size + 1) wq.heap.size)
      case atStart => exact ⟨_, _, D, 2 ^ k, by rw [pow_nat], HRG, hide (jn_start HP.out), hide (HG.out.but _)⟩
      case round =>
        obtain ⟨left, cnt, D', J', rfl, HR, HJ, HGw⟩ := hrel
        have hJ16 := jn_lt (by omega) HJ.out
        go_wp2_with (first
          | (at_next; refine wpList_next_ranges_ii _ rfl _ rfl 3 3 .i64 .i64 law3 Tryd.underlying3 Tryd.underlying3 (w.heap.size + 1) wq.heap.size k _ _ _ rfl HR.out ?_ ?_)
          | go_in)
        · intro _ hl0
          have HL := hide hl0
          clear hl0
          have hJ0 := jn_low (by omega) HJ.out
          have hwu : IntKind.u64.wrap (J' : Int) = (J' : Int) := by rw [IntKind.wrap_u64]; omega
          have HWr : Hid (Below w.heap.size w wr) := hide (HW.out.grown HGw.out HW.out.size (fun j hj => by injection hj; omega))
          have HTr : Hid (Tab wr) := hide (HT.out.below' HWr.out hw1)
          have HM2 := hide HR.out.owns
          have HI := hide HM2.out.isMap
          have hl16 : low J' < 16 := by
            have := (low_bit hJ0 hJ16).1
            apply Nat.lt_of_not_le
            intro h
            rw [Nat.testBit_lt_two_pow (Nat.lt_of_lt_of_le hJ16 (show 2 ^ 16 ≤ 2 ^ low J' from Nat.pow_le_pow_right (by decide) h))] at this
            cases this
          have hwl := lit_wf (low J') (by omega)
          have hwJ := lit_wf J' hJ16
          go_wp2_with (first
            | (go_at_call 77; refine (ctz_any J' (by omega) _ HTr.out).mono ?_; rintro e w3 ⟨rfl, hw3⟩; subst w3)
            | (at_mapUpdate; refine wpList_mapUpdate_own _ rfl _ _ _ 49 rfl 3 3 law3 Tryd.underlying49 _ (w.heap.size + 1) k D' rfl HM2.out (by unfold maxLen; omega) _ _ (ky (low J')) rfl rfl (keyOf_int_mk Tryd.underlying3 hwl) (pt J') [] (plainElem_int Tryd.underlying3 hwJ) ?_; intro w5 hown5 hg5)
            | go_in)
          have HO5 := hide hown5
          have HG5 := hide hg5
          clear hown5 hg5
          go_roundw
          case rel => exact ⟨k + 1, _, by omega, by go_num, HO5, hide (jn_end (by omega) hbk HC.out HP.out HJ.out HL.out HI.out), hide (cov_step hbk HC.out (jn_joined HJ.out HL.out)), HWr.out.grown HG5.out HWr.out.size (fun j hj => by injection hj; omega)⟩
          case measure => simp [intOf]; omega
        · intro x c' w1 cnt1 hwx hwc hlx hat hrg1 hlt1 hg1 hs1 hen
          obtain ⟨p, hp, rfl, rfl⟩ := jn_entry (by omega) HP.out HJ.out hat
          have hp16 := hp.lt16 (by omega)
          have e2 := and_small (F k) p hFk hp16
          have e3 := i64_or_nat J' p (by omega) (by omega)
          have HPP := hide hp
          have HGw1 := hide (HGw.out.andThen hg1 (fun j hj => by cases hj; exact Or.inl (Nat.le_refl _)))
          have HR1 := hide hrg1
          have HWX := hide hwx
          clear hat hrg1 hg1 hp hlx hwc hwx
          by_cases hm : F k &&& p = 0
          · have hz : (((F k &&& p : Nat) : Int) == 0) = true := by rw [hm]; rfl
            go_wp2
            go_roundw
            case rel => exact ⟨_, cnt1, D', J', rfl, HR1, hide (jn_miss (by omega) HJ.out HPP.out (fun h => (meets_iff HPP.out).2 h hm)), HGw1⟩
            case measure => rw [HR1.out.left_eq, HR.out.left_eq]; exact hlt1
          · have hz : (((F k &&& p : Nat) : Int) == 0) = false := by simp; omega
            go_wp2_with (first
              | (at_delete; refine wpList_delete_ranges _ rfl _ _ 49 3 rfl 3 law3 Tryd.underlying49 _ (w.heap.size + 1) wq.heap.size k _ _ _ rfl HR1.out _ _ rfl (keyOf_int_mk Tryd.underlying3 HWX.out) ?_; intro w2 cnt2 hrg2 hle hturn; go_frame)
              | go_in)
            rw [strike_twice] at hrg2
            have HR2 := hide hrg2
            have HT2 := hide hturn
            clear hrg2 hturn
            go_roundw
            case rel => exact ⟨_, cnt2, D'.del (ky (low p)), J' ||| p, by rfl, HR2, hide (jn_meet (by omega) HJ.out HPP.out ((meets_iff HPP.out).1 hm)), hide (HGw1.out.andThen HT2.out.grown (fun j hj => by cases hj; exact Or.inr rfl))⟩
            case measure => rw [HR2.out.left_eq, HR.out.left_eq]; omega
    · have hkn : k = n := by omega
      subst hkn
      have HW := hide hw
      clear hw
      go_wp2
      go_ret
      exact ⟨w.heap.size + 1, D, rfl, by omega, HM.out, HP.out, HW.out⟩
end Go.Proofs.YtmcimfblhpflnaaDoor
