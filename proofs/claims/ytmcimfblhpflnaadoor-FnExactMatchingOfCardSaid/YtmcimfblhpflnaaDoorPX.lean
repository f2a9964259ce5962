/-
PartsOf: both sides.
-/
import Derived.Test.YtmcimfblhpflnaaDoorPW
import Derived.Test.YtmcimfblhpflnaaDoorF
namespace Go.Proofs.YtmcimfblhpflnaaDoor
open Go.RowKit Go.Maps
set_option maxHeartbeats 2000000
def ListOk (w : World) (L : List Nat) (e : Ending) (w' : World) : Prop :=
  ∃ (A : Option Addr) (m d : Nat), e = .returned (.tuple #[.slice A m d, .bool true]) ∧ L.length = m ∧ OL w' w.heap.size (.slice A m d) L ∧ Below w.heap.size w w'
def ListRead (w : World) (L : List Nat) (e : Ending) (w' : World) : Prop :=
  ∃ (A : Option Addr) (m d : Nat), e = .returned (.tuple #[.slice A m d, .bool true]) ∧ L.length = m ∧ Src w' A m (lv L) ∧ Below w.heap.size w w'
theorem partsSpec_no (g n c : Nat) (f : Nat → Int) (own : Bool) (w : World) (hn : n ≤ 1048576) (hno : goodB n f = false) (ha : Arr w 3 g n (iv f)) :
    Calls Tryd.prog 15 #[.agg #[.slice (some ⟨g, 0, none⟩) n c, .bool own]] w fun e w' => e = .returned (.tuple #[.slice none 0 0, .bool false]) ∧ Below w.heap.size w w' := by
  have HA := hide ha
  clear ha
  go_enter Tryd.func15, Tryd.ntmps15
  go_wp2_with fail
  refine (grGood_any _ _ _ f _ _ hn (HA.out.alloc _)).mono ?_
  rintro e w1 ⟨rfl, hb1⟩
  simp only [hno]
  have HB1 := hide ((by go_grown : Below w.heap.size w _).trans (hb1.mono (by simp)))
  clear hb1
  go_wp2
  go_ret2
  exact ⟨rfl, HB1.out⟩
theorem partsSpec_ok (g n c : Nat) (F : Nat → Nat) (own : Bool) (w : World) (hn : n ≤ 16) (hG : goodB n (nv F) = true) (ha : Arr w 3 g n (iv (nv F))) :
    Calls Tryd.prog 15 #[.agg #[.slice (some ⟨g, 0, none⟩) n c, .bool own]] w (ListRead w (partL F n n)) := by
  have hgd := goodB_iff.1 hG
  have HA := hide ha
  clear ha
  go_enter Tryd.func15, Tryd.ntmps15
  go_wp2_with fail
  refine (grGood_any _ _ _ (nv F) _ _ (by omega) (HA.out.alloc _)).mono ?_
  rintro e w1 ⟨rfl, hb1⟩
  simp only [hG]
  have hp := (Arr.box w 28 (.slice (some ⟨g, 0, none⟩) n c) (.bool own)).all hb1
  have c0 : w1.cell? ⟨w.heap.size, 0, none⟩ = some (.slice (some ⟨g, 0, none⟩) n c) := hp.cell (by omega)
  have c1 : w1.cell? ⟨w.heap.size, 1, none⟩ = some (.bool own) := hp.cell (by omega)
  have HAr := hide ((HA.out.alloc _).all hb1)
  have HB1 := hide ((by go_grown : Below w.heap.size w _).trans (hb1.mono (by simp)))
  have HG := hide hgd
  clear hb1 hp hgd
  go_wp2_with fail
  refine (paParts_any _ _ _ F _ _ hn HG.out.sym HG.out.lt16 (by first | exact HAr.out | exact HAr.out.drew)).mono ?_
  rintro e w2 ⟨A, m, d, rfl, hm, ho, hb2⟩
  have hz := HB1.out.size
  have HB2 := hide (HB1.out.trans (hb2.mono hz))
  have HO := hide ho
  have HM := hide hm
  clear hb2 ho hm
  go_wp2
  go_ret2
  exact ⟨A, m, d, rfl, HM.out, HO.out.src HM.out, HB2.out⟩
theorem partsImpl_no (g n c : Nat) (f : Nat → Int) (own : Bool) (w : World) (hn : n ≤ 1048576) (hno : goodB n f = false) (ha : Arr w 3 g n (iv f)) :
    Calls Tryd.prog 17 #[.agg #[.slice (some ⟨g, 0, none⟩) n c, .bool own]] w fun e w' => e = .returned (.tuple #[.slice none 0 0, .bool false]) ∧ Below w.heap.size w w' := by
  have HA := hide ha
  clear ha
  go_enter Tryd.func17, Tryd.ntmps17
  go_wp2_with fail
  refine (isGraph_any _ _ _ f _ _ hn (HA.out.alloc _)).mono ?_
  rintro e w1 ⟨rfl, hb1⟩
  simp only [hno]
  have HB1 := hide ((by go_grown : Below w.heap.size w _).trans (hb1.mono (by simp)))
  clear hb1
  go_wp2
  go_ret2
  exact ⟨rfl, HB1.out⟩
theorem zero3 (w : World) : (zeroValue 3).run Tryd.prog w = .ok (.int .i64 0) w := by kernel_rfl
set_option maxRecDepth 4000 in
theorem partsImpl_ok (g n c : Nat) (F : Nat → Nat) (own : Bool) (w : World) (hn : n ≤ 16) (hG : goodB n (nv F) = true) (ha : Arr w 3 g n (iv (nv F))) (hT : Tab w) (hw1 : 1 < w.heap.size) :
    Calls Tryd.prog 17 #[.agg #[.slice (some ⟨g, 0, none⟩) n c, .bool own]] w (ListOk w (partL F n n)) := by
  have hgd := goodB_iff.1 hG
  have HA := hide ha
  have HT := hide hT
  clear ha hT
  go_enter Tryd.func17, Tryd.ntmps17
  go_wp2_with fail
  refine (isGraph_any _ _ _ (nv F) _ _ (by omega) (HA.out.alloc _)).mono ?_
  rintro e w1 ⟨rfl, hb1⟩
  simp only [hG]
  have hp := (Arr.box w 28 (.slice (some ⟨g, 0, none⟩) n c) (.bool own)).all hb1
  have c0 : w1.cell? ⟨w.heap.size, 0, none⟩ = some (.slice (some ⟨g, 0, none⟩) n c) := hp.cell (by omega)
  have c1 : w1.cell? ⟨w.heap.size, 1, none⟩ = some (.bool own) := hp.cell (by omega)
  have HAr := hide ((HA.out.alloc _).all hb1)
  have HP1 := hide hp
  have HB1 := hide ((by go_grown : Below w.heap.size w _).trans (hb1.mono (by simp)))
  have HT1 := hide (HT.out.below' HB1.out hw1)
  have HG := hide hgd
  have hz1 := HB1.out.size
  clear hb1 hp hgd
  go_wp2_with fail
  refine (kept_any Unit _ _ _ F _ _ hn HG.out.sym HG.out.lt16 (by first | exact HAr.out | exact HAr.out.drew) (by first | exact HT1.out) (by first | omega | (simp; omega))).mono ?_
  rintro e w2 ⟨b, D, rfl, hbl, hmap, hpm, hb2⟩
  have HP2 := hide (HP1.out.all hb2)
  have d0 : w2.cell? ⟨w.heap.size, 0, none⟩ = some (.slice (some ⟨g, 0, none⟩) n c) := HP2.out.cell (by omega)
  have HB2 := hide (HB1.out.trans (hb2.mono hz1))
  have HM := hide hmap
  have HPM := hide hpm
  clear hb2 hmap hpm c0 c1
  go_wp2
  go_loopw [5, 17] (fun P i wr => ∃ (k m d : Nat) (A : Option Addr), k ≤ n ∧ i = .int .i64 k ∧ P = .slice A m d ∧ Hid ((partL F n k).length = m) ∧ Hid (OL wr w2.heap.size (.slice A m d) (partL F n k)) ∧ Below w2.heap.size w2 wr)
    (fun _ i _ => n - (intOf i).toNat)
  case atStart => exact ⟨0, 0, 0, none, Nat.zero_le _, rfl, rfl, hide rfl, hide (OL.nil _ _), Below.refl _ _⟩
  case round =>
    obtain ⟨k, m, d, A, hk, rfl, rfl, HL, HO, hw⟩ := hrel
    have hsz := hw.size
    have hm16 : m ≤ 16 := by have := partL_len F n k; rw [HL.out] at this; omega
    have HMr := hide (HM.out.kept (grownBy_of_below hw none) (by simp))
    have HW := hide hw
    clear hw
    by_cases hlt : k < n
    · have hwk := lit_wf k (by omega)
      have hh := pm_has HG.out.sym hn HPM.out hlt
      have hsu := partL_succ F n k
      cases hr : root F n k
      · rw [hr] at hh hsu
        simp only [Bool.false_eq_true, if_false] at hsu
        go_wp2_with (first
          | (at_lookup; refine wpList_lookup_own_ok _ rfl _ _ 49 rfl 3 3 law3 Tryd.underlying49 _ (zero3 _) (.lit (.int .i64 0)) [] (plainElem_int Tryd.underlying3 (by decide)) b n D rfl HMr.out _ (ky k) rfl (keyOf_int_mk Tryd.underlying3 hwk) ?_; intro v ps hv; rw [hh]; obtain ⟨cv, rfl, hcv, hwc⟩ := plainElem_int_inv Tryd.underlying3 hv)
          | go_in)
        go_roundw
        case rel => exact ⟨k + 1, m, d, A, by omega, by go_num, rfl, hide (by rw [hsu]; exact HL.out), hide (by rw [hsu]; exact HO.out), HW.out⟩
        case measure => simp [intOf]; omega
      · rw [hr] at hh hsu
        simp only [if_true] at hsu
        have hat := pm_at HG.out.sym hn HPM.out hlt hr (.lit (.int .i64 0))
        go_wp2_with (first
          | (at_lookup; refine wpList_lookup_own_ok _ rfl _ _ 49 rfl 3 3 law3 Tryd.underlying49 _ (zero3 _) (.lit (.int .i64 0)) [] (plainElem_int Tryd.underlying3 (by decide)) b n D rfl HMr.out _ (ky k) rfl (keyOf_int_mk Tryd.underlying3 hwk) ?_; intro v ps hv; rw [hh]; rw [hat] at hv; obtain ⟨cv, rfl, hcv, hwc⟩ := plainElem_int_inv Tryd.underlying3 hv; obtain rfl : cv = (comp F n k : Nat) := (by simp only [pt, Prod.mk.injEq, DataW.lit.injEq, Lit.int.injEq, true_and] at hcv; exact hcv.1.symm))
          | (at_builtin; refine wpList_append_nat _ rfl _ _ rfl w2.heap.size A d m (partL F n k) (comp F n k) wr.heap.size rfl (HO.out.alloc _) HL.out rfl (by simp [go_sem]) (by omega) (by simp; omega) ?_; intro A2 c2 w5 ho2 hb2; have HO2 := hide ho2; have HB2 := hide hb2; clear ho2 hb2)
          | go_in)
        go_roundw
        case rel =>
          refine ⟨k + 1, m + 1, c2, A2, by omega, by go_num, rfl, hide (by rw [hsu, List.length_append, HL.out]; rfl), hide (by rw [hsu]; exact HO2.out), ?_⟩
          exact (HW.out.alloc hsz _).trans (HB2.out.mono (by omega))
        case measure => simp [intOf]; omega
    · have hkn : k = n := by omega
      subst hkn
      have hz2 := HB2.out.size
      go_wp2
      go_ret2
      exact ⟨A, m, d, rfl, HL.out, OL.mono HO.out (by omega), HB2.out.trans (HW.out.mono hz2)⟩
end Go.Proofs.YtmcimfblhpflnaaDoor
