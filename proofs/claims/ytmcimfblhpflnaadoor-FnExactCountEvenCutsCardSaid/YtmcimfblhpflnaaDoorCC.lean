/-
CountEvenCuts: the model's side.
-/
import Derived.Test.YtmcimfblhpflnaaDoorCB
import Derived.Test.YtmcimfblhpflnaaDoorEA
import Derived.Deep.RegionHeld3
namespace Go.Proofs.YtmcimfblhpflnaaDoor
open Go.RowKit
set_option maxHeartbeats 4000000
/-- What both sides tell. -/
def ecV (F : Nat → Nat) (n : Nat) : Int := ((2 ^ (qS (spT F (oddN F n)) n n).1.length : Nat) : Int) / 2 ^ (partL F n n).length
def ecOut (F : Nat → Nat) (n : Nat) : Value := if 10 < n then .tuple #[.int .i64 0, .bool false] else .tuple #[.int .i64 (ecV F n), .bool true]
theorem ecOut_two (F : Nat → Nat) (n : Nat) : ∃ (v : Int) (b : Bool), ecOut F n = .tuple #[.int .i64 v, .bool b] := by
  unfold ecOut
  by_cases h : 10 < n
  · rw [if_pos h]; exact ⟨_, _, rfl⟩
  · rw [if_neg h]; exact ⟨_, _, rfl⟩
theorem ecSpec_no (g n c : Nat) (f : Nat → Int) (own : Bool) (w : World) (hn : n ≤ 1048576) (hno : goodB n f = false) (ha : Arr w 3 g n (iv f)) :
    Calls Tryd.prog 44 #[.agg #[.slice (some ⟨g, 0, none⟩) n c, .bool own]] w fun e w' => e = .returned (.tuple #[.int .i64 0, .bool false]) ∧ Below w.heap.size w w' := by
  have HA := hide ha
  clear ha
  go_enter Tryd.func44, Tryd.ntmps44
  go_wp2_with fail
  refine (grGood_any _ _ _ f _ _ hn (HA.out.alloc _)).mono ?_
  rintro e w1 ⟨rfl, hb1⟩
  rw [hno]
  have HB1 := hide ((by go_grown : Below w.heap.size w _).trans (hb1.mono (by simp)))
  clear hb1
  go_wp2
  go_ret2
  exact ⟨rfl, HB1.out⟩
set_option maxRecDepth 4000 in
theorem ecSpec_ok (g n c : Nat) (F : Nat → Nat) (own : Bool) (w : World) (hn : n ≤ 16) (hF : ∀ j, j < n → F j < 2 ^ n) (hG : goodB n (nv F) = true) (ha : Arr w 3 g n (iv (nv F))) :
    Calls Tryd.prog 44 #[.agg #[.slice (some ⟨g, 0, none⟩) n c, .bool own]] w fun e w' => e = .returned (ecOut F n) ∧ Below w.heap.size w w' := by
  have hgd := goodB_iff.1 hG
  have HA := hide ha
  clear ha
  go_enter Tryd.func44, Tryd.ntmps44
  go_wp2_with fail
  refine (grGood_any _ _ _ (nv F) _ _ (by omega) (HA.out.alloc _)).mono ?_
  rintro e w1 ⟨rfl, hb1⟩
  rw [hG]
  have hp := (Arr.box w 28 (.slice (some ⟨g, 0, none⟩) n c) (.bool own)).all hb1
  have c0 : w1.cell? ⟨w.heap.size, 0, none⟩ = some (.slice (some ⟨g, 0, none⟩) n c) := hp.cell (by omega)
  have c1 : w1.cell? ⟨w.heap.size, 1, none⟩ = some (.bool own) := hp.cell (by omega)
  have hbx := hp.lt
  have HAr := hide ((HA.out.alloc (.cells #[.slice (some ⟨g, 0, none⟩) n c, .bool own] 28)).all hb1)
  have HB1 := hide ((by go_grown : Below w.heap.size w _).trans (hb1.mono (by simp)))
  have HG := hide hgd
  have HGB := hide hG
  have HF := hide hF
  clear hb1 hp hgd hG hF
  by_cases hbig : 10 < n
  · have hbig' : (10 : Int) < (n : Int) := by omega
    go_wp2
    go_ret2
    exact ⟨by rw [ecOut, if_pos hbig]; rfl, HB1.out⟩
  · have hbig' : ¬ (10 : Int) < (n : Int) := by omega
    have hp2 : 2 ^ n ≤ 2 ^ 10 := Nat.pow_le_pow_right (by decide) (by omega)
    have hwn : RowKit.wrap64 (2 ^ n) = ((2 ^ n : Nat) : Int) := by rw [wrap_pow (by omega)]; exact (Int.natCast_pow 2 n).symm
    obtain ⟨N, hN⟩ : ∃ N, 2 ^ n = N := ⟨_, rfl⟩
    rw [hN] at hp2
    have HN := hide hN
    have hwN : RowKit.wrap64 (2 ^ n) = (N : Int) := by rw [hwn, hN]
    clear hN hwn
    go_wp2
    go_loopw [4, 5] (fun cv sv wr => ∃ k cnt : Nat, k ≤ N ∧ sv = .int .i64 k ∧ cv = .int .i64 cnt ∧ cnt ≤ k ∧ Hid (evC F n k = cnt) ∧ Hid (Below w1.heap.size w1 wr)) (fun _ sv _ => N - (intOf sv).toNat)
    case atStart => exact ⟨0, 0, Nat.zero_le _, rfl, rfl, Nat.le_refl _, hide rfl, hide (Below.refl _ _)⟩
    case round =>
      obtain ⟨k, cnt, hk, rfl, rfl, hc, HC, HB⟩ := hrel
      have d0 : wr.cell? ⟨w.heap.size, 0, none⟩ = some (.slice (some ⟨g, 0, none⟩) n c) := (HB.out.cell (p := ⟨w.heap.size, 0, none⟩) hbx).trans c0
      have d1 : wr.cell? ⟨w.heap.size, 1, none⟩ = some (.bool own) := (HB.out.cell (p := ⟨w.heap.size, 1, none⟩) hbx).trans c1
      have dl : w.heap.size < wr.heap.size := Nat.lt_of_lt_of_le hbx HB.out.size
      by_cases hlt : k < N
      · have hltI : (k : Int) < (N : Int) := by omega
        have HAw := hide (HAr.out.all HB.out)
        have KK : Hid (wr.drew.cell? ⟨w.heap.size, 0, none⟩ = some (.slice (some ⟨g, 0, none⟩) n c) ∧ wr.drew.cell? ⟨w.heap.size, 1, none⟩ = some (.bool own)) := hide ⟨d0, d1⟩
        have hcut : ∀ s, cutP (allP F n n) s (allP F n n).length = (allP F n n).filter (isCut s) := fun s => by unfold cutP; rw [List.take_length]; rfl
        have hpairs : ∀ e ∈ cutP (allP F n n) k (allP F n n).length, e.1 < e.2 ∧ e.2 < n := fun e he => by
          rw [hcut] at he
          have := allP_mem F n n e (List.mem_filter.1 he).1
          omega
        have HPAIRS := hide hpairs
        have HCUT := hide (hcut k)
        clear hpairs hcut
        go_wp2_with fail
        go_region_held3 (fun w' => w'.cell? ⟨w.heap.size, 0, none⟩ = some (.slice (some ⟨g, 0, none⟩) n c) ∧ w'.cell? ⟨w.heap.size, 1, none⟩ = some (.bool own)) (first | exact KK.out | exact box_later (by assumption) KK.out | exact box_later (by assumption) (box_later (by assumption) KK.out)) (first
          | (go_at_call 69; refine (paCut_any _ _ _ F _ k _ hn (by first | exact HAw.out | exact HAw.out.drew)).mono ?_; rintro e w2 ⟨A2, m2, d2, G2, rfl, hm2, hm272, hss2, hb2⟩; have HM2 := hide hm2; have HSS2 := hide hss2; clear hss2 hm2; simp only [id])
          | (go_at_call 68; refine (paEvenL _ _ _ _ _ _ n _ _ _ _ _ _ hn HM2.out (by omega) HPAIRS.out HSS2.out).mono ?_; rintro e w3 ⟨rfl, hb3⟩))
        have HB3 := hide (HB.out.trans (((by go_grown : Below wr.heap.size wr _).trans (hb2.trans (hb3.mono hb2.size))).mono HB.out.size))
        clear hb2 hb3 KK
        have hev : ∀ b : Bool, (((paE (cutP (allP F n n) k (allP F n n).length) : Nat) : Int) == 0) = b → Hid (evC F n (k + 1) = cnt + (if b = true then 1 else 0)) := fun b hb => hide (by
          rw [evC_succ, HC.out, ← HCUT.out]
          congr 2
          rw [← hb, Bool.eq_iff_iff]
          simp)
        have HEV := hide hev
        clear hev
        cases hb : (((paE (cutP (allP F n n) k (allP F n n).length) : Nat) : Int) == 0)
        · have HN1 := HEV.out false hb
          go_wp2
          go_roundw
          case rel => exact ⟨k + 1, cnt, by omega, by go_num, rfl, by omega, hide (by rw [HN1.out]; simp), HB3⟩
          case measure => simp [intOf]; omega
        · have HN1 := HEV.out true hb
          go_wp2
          go_roundw
          case rel => exact ⟨k + 1, cnt + 1, by omega, by go_num, by go_num, by omega, hide (by rw [HN1.out]; simp), HB3⟩
          case measure => simp [intOf]; omega
      · have hkN : k = N := by omega
        subst hkN
        go_wp2_with fail
        refine (paParts_any _ _ _ F _ _ hn HG.out.sym HG.out.lt16 (HAr.out.all HB.out)).mono ?_
        rintro e w2 ⟨A3, m3, d3, rfl, hm3, ho3, hb2⟩
        have HM3 := hide hm3
        have HB2 := hide ((HB1.out.trans (HB.out.mono HB1.out.size)).trans (hb2.mono (Nat.le_trans HB1.out.size HB.out.size)))
        have hm3n : m3 ≤ 16 := by have := partL_len F n n; rw [hm3] at this; omega
        clear hb2 ho3 hm3
        go_wp2
        go_ret2
        refine ⟨?_, HB2.out⟩
        have h := HC.out
        rw [← HN.out, evC_all HGB.out hn HF.out] at h
        rw [ecOut, if_neg hbig]
        unfold ecV
        rw [h, HM3.out]
        rfl
end Go.Proofs.YtmcimfblhpflnaaDoor
