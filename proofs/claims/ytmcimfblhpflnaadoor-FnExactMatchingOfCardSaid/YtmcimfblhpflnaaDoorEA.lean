/-
CountEvenEdges: both sides.
-/
import Derived.Test.YtmcimfblhpflnaaDoorPX
import Derived.Test.YtmcimfblhpflnaaDoorPV
import Derived.Test.YtmcimfblhpflnaaDoorGI
import Derived.Deep.RegionHeld3
import Derived.Deep.RegionLaw
namespace Go.Proofs.YtmcimfblhpflnaaDoor
open Go.RowKit Go.Maps
set_option maxHeartbeats 2000000
/-- What both sides tell. -/
def evE (F : Nat → Nat) (n : Nat) : Nat := (allP F n n).length + (partL F n n).length - n
theorem evE_eq {F : Nat → Nat} {n : Nat} (hn : n ≤ 16) (hG : Good n (nv F)) : (((allP F n n).length : Nat) : Int) - (n : Nat) + ((partL F n n).length : Nat) = ((evE F n : Nat) : Int) := by
  have := edges_parts hn hG.sym hG.irr
  rw [partL, List.length_map, evE, partL, List.length_map]
  omega
def EvOut (F : Nat → Nat) (n : Nat) : Value := if 60 < evE F n then .tuple #[.int .i64 0, .bool false] else .tuple #[.int .i64 ((2 ^ evE F n : Nat) : Int), .bool true]
theorem box_later {w w' : World} {b : Nat} {u v : Value} (hb : Below w.heap.size w w') (h : w.cell? ⟨b, 0, none⟩ = some u ∧ w.cell? ⟨b, 1, none⟩ = some v) : w'.cell? ⟨b, 0, none⟩ = some u ∧ w'.cell? ⟨b, 1, none⟩ = some v :=
  ⟨(hb.cell (p := ⟨b, 0, none⟩) (World.block_lt_of_cell? w _ h.1)).trans h.1, (hb.cell (p := ⟨b, 1, none⟩) (World.block_lt_of_cell? w _ h.2)).trans h.2⟩
theorem pow60 {K : Nat} (h : K ≤ 60) : RowKit.wrap64 (2 ^ K) = ((2 ^ K : Nat) : Int) := by
  have h1 : 2 ^ K ≤ 2 ^ 60 := Nat.pow_le_pow_right (by decide) h
  rw [← pow_nat]
  generalize 2 ^ K = x at h1
  exact IntWalk.wrap64_in _ (by omega)
theorem evSpec_no (g n c : Nat) (f : Nat → Int) (own : Bool) (w : World) (hn : n ≤ 1048576) (hno : goodB n f = false) (ha : Arr w 3 g n (iv f)) :
    Calls Tryd.prog 27 #[.agg #[.slice (some ⟨g, 0, none⟩) n c, .bool own]] w fun e w' => e = .returned (.tuple #[.int .i64 0, .bool false]) ∧ Below w.heap.size w w' := by
  have HA := hide ha
  clear ha
  go_enter Tryd.func27, Tryd.ntmps27
  go_wp2_with fail
  refine (grGood_any _ _ _ f _ _ hn (HA.out.alloc _)).mono ?_
  rintro e w1 ⟨rfl, hb1⟩
  simp only [hno]
  have HB1 := hide ((by go_grown : Below w.heap.size w _).trans (hb1.mono (by simp)))
  clear hb1
  go_wp2
  go_ret2
  exact ⟨rfl, HB1.out⟩
set_option maxRecDepth 4000 in
theorem evSpec_ok (g n c : Nat) (F : Nat → Nat) (own : Bool) (w : World) (hn : n ≤ 16) (hG : goodB n (nv F) = true) (ha : Arr w 3 g n (iv (nv F))) :
    Calls Tryd.prog 27 #[.agg #[.slice (some ⟨g, 0, none⟩) n c, .bool own]] w fun e w' => e = .returned (EvOut F n) ∧ Below w.heap.size w w' := by
  have hgd := goodB_iff.1 hG
  have HA := hide ha
  clear ha
  go_enter Tryd.func27, Tryd.ntmps27
  go_wp2_with fail
  refine (grGood_any _ _ _ (nv F) _ _ (by omega) (HA.out.alloc _)).mono ?_
  rintro e w1 ⟨rfl, hb1⟩
  simp only [hG]
  have hp := (Arr.box w 28 (.slice (some ⟨g, 0, none⟩) n c) (.bool own)).all hb1
  have c0 : w1.cell? ⟨w.heap.size, 0, none⟩ = some (.slice (some ⟨g, 0, none⟩) n c) := hp.cell (by omega)
  have c1 : w1.cell? ⟨w.heap.size, 1, none⟩ = some (.bool own) := hp.cell (by omega)
  have HAr := hide ((HA.out.alloc _).all hb1)
  have HB1 := hide ((by go_grown : Below w.heap.size w _).trans (hb1.mono (by simp)))
  have HG := hide hgd
  have KK : Hid (w1.drew.cell? ⟨w.heap.size, 0, none⟩ = some (.slice (some ⟨g, 0, none⟩) n c) ∧ w1.drew.cell? ⟨w.heap.size, 1, none⟩ = some (.bool own)) := hide ⟨c0, c1⟩
  clear hb1 hp hgd
  go_wp2_with fail
  go_region_held3 (fun w' => w'.cell? ⟨w.heap.size, 0, none⟩ = some (.slice (some ⟨g, 0, none⟩) n c) ∧ w'.cell? ⟨w.heap.size, 1, none⟩ = some (.bool own)) (first | exact KK.out | exact box_later (by assumption) KK.out | exact box_later (by assumption) (box_later (by assumption) KK.out)) (first
    | (go_at_call 56; refine (grEdges_any _ _ _ F _ _ hn (by first | exact HAr.out | exact HAr.out.drew)).mono ?_; rintro e w2 ⟨A2, m2, d2, G2, rfl, hm2, hm272, hss2, hb2⟩; have HM2 := hide hm2; clear hss2 hm2)
    | (go_at_call 48; refine (paParts_any _ _ _ F _ _ hn HG.out.sym HG.out.lt16 (by first | exact (HAr.out.all hb2) | exact ((HAr.out.drew).all hb2))).mono ?_; rintro e w3 ⟨A3, m3, d3, rfl, hm3, ho3, hb3⟩; have HM3 := hide hm3; clear ho3 hm3))
  have HB3 := hide (HB1.out.trans ((by go_grown : Below w1.heap.size w1 _).trans (hb2.trans (hb3.mono hb2.size)) |>.mono HB1.out.size))
  clear hb2 hb3 KK
  obtain ⟨K, hK⟩ : ∃ K, evE F n = K := ⟨_, rfl⟩
  have hm3n : m3 ≤ 16 := by have := partL_len F n n; rw [HM3.out] at this; omega
  have hv : IntKind.i64.wrap (IntKind.i64.wrap ((m2 : Int) - (n : Int)) + (m3 : Int)) = (K : Int) := by
    have h1 := evE_eq hn HG.out
    rw [HM3.out, ← HM2.out, hK] at h1
    rw [IntKind.wrap_i64, IntKind.wrap_i64]
    omega
  simp only [hv]
  by_cases hbig : 60 < K
  · have hbig' : (60 : Int) < (K : Int) := by omega
    go_wp2
    go_ret2
    exact ⟨by rw [EvOut, hK, if_pos hbig]; rfl, HB3.out⟩
  · have hbig' : ¬ (60 : Int) < (K : Int) := by omega
    have hK60 : K ≤ 60 := by omega
    have e1 := pow60 hK60
    go_wp2
    go_ret2
    exact ⟨by rw [EvOut, hK, if_neg hbig]; simp [e1], HB3.out⟩
theorem evImpl_no (g n c : Nat) (f : Nat → Int) (own : Bool) (w : World) (hn : n ≤ 1048576) (hno : goodB n f = false) (ha : Arr w 3 g n (iv f)) :
    Calls Tryd.prog 28 #[.agg #[.slice (some ⟨g, 0, none⟩) n c, .bool own]] w fun e w' => e = .returned (.tuple #[.int .i64 0, .bool false]) ∧ Below w.heap.size w w' := by
  have HA := hide ha
  clear ha
  go_enter Tryd.func28, Tryd.ntmps28
  go_wp2_with fail
  refine (edgesImpl_no _ _ _ f _ _ hn hno (HA.out.alloc _)).mono ?_
  rintro e w1 ⟨rfl, hb1⟩
  have HB1 := hide ((by go_grown : Below w.heap.size w _).trans (hb1.mono (by simp)))
  clear hb1
  go_wp2
  go_ret2
  exact ⟨rfl, HB1.out⟩
set_option maxRecDepth 4000 in
theorem evImpl_ok (g n c : Nat) (F : Nat → Nat) (own : Bool) (w : World) (hn : n ≤ 16) (hG : goodB n (nv F) = true) (ha : Arr w 3 g n (iv (nv F))) (hT : Tab w) (hw1 : 1 < w.heap.size) :
    Calls Tryd.prog 28 #[.agg #[.slice (some ⟨g, 0, none⟩) n c, .bool own]] w fun e w' => e = .returned (EvOut F n) ∧ Below w.heap.size w w' := by
  have hgd := goodB_iff.1 hG
  have HA := hide ha
  have HT := hide hT
  clear ha hT
  go_enter Tryd.func28, Tryd.ntmps28
  go_wp2_with fail
  refine (edgesImpl_ok _ _ _ F _ _ hn hG (HA.out.alloc _)).mono ?_
  rintro e w1 ⟨A2, m2, d2, G2, rfl, hm2, hm272, hss2, hb1⟩
  have hp := (Arr.box w 28 (.slice (some ⟨g, 0, none⟩) n c) (.bool own)).all hb1
  have c0 : w1.cell? ⟨w.heap.size, 0, none⟩ = some (.slice (some ⟨g, 0, none⟩) n c) := hp.cell (by omega)
  have c1 : w1.cell? ⟨w.heap.size, 1, none⟩ = some (.bool own) := hp.cell (by omega)
  have HAr := hide ((HA.out.alloc _).all hb1)
  have HB1 := hide ((by go_grown : Below w.heap.size w _).trans (hb1.mono (by simp)))
  have HT1 := hide (HT.out.below' HB1.out hw1)
  have hz1 := HB1.out.size
  have HG := hide hgd
  have HM2 := hide hm2
  have KK : Hid (w1.drew.cell? ⟨w.heap.size, 0, none⟩ = some (.slice (some ⟨g, 0, none⟩) n c) ∧ w1.drew.cell? ⟨w.heap.size, 1, none⟩ = some (.bool own)) := hide ⟨c0, c1⟩
  clear hb1 hp hgd hss2 hm2
  go_wp2_with fail
  go_region_law (first
    | (go_simp; go_at_call 51; refine (kept_any Unit _ _ _ F _ _ hn HG.out.sym HG.out.lt16 (by first | exact HAr.out | exact HAr.out.drew) (by exact HT1.out) (by first | omega | (simp; omega))).mono ?_; rintro e w2 ⟨b, D, rfl, hbl, hmap, hpm, hb2⟩; have HL : ∀ ty, (Builtin.len_ #[49] ty #[.map (some b)]).run Tryd.prog w2 = .ok (.int .i64 (size D)) w2 := fun ty => hmap.len Tryd.underlying49 ty; have HM := hide hmap; have HPM := hide hpm; have q0 := (box_later hb2 KK.out).1; have q1 := (box_later hb2 KK.out).2; clear hmap hpm; go_simp))
  all_goals
    have HB2 := hide (HB1.out.trans ((by go_grown : Below w1.heap.size w1 _).trans hb2 |>.mono HB1.out.size))
    have HSZ : Hid (size D = (partL F n n).length) := hide (by rw [pm_size HG.out.sym hn (HM.out.canon law3) HPM.out, partL, List.length_map])
    clear hb2 KK HL q0 q1
    obtain ⟨K, hK⟩ : ∃ K, evE F n = K := ⟨_, rfl⟩
    obtain ⟨m3, hm3⟩ : ∃ m3, size D = m3 := ⟨_, rfl⟩
    have hm3n : m3 ≤ 16 := by have := partL_len F n n; rw [← HSZ.out] at this; omega
    rw [hm3]
    have hv : IntKind.i64.wrap (IntKind.i64.wrap ((m2 : Int) - (n : Int)) + (m3 : Int)) = (K : Int) := by
      have h1 := evE_eq hn HG.out
      rw [← HSZ.out, hm3, ← HM2.out, hK] at h1
      rw [IntKind.wrap_i64, IntKind.wrap_i64]
      omega
    simp only [hv]
    by_cases hbig : 60 < K
    · have hbig' : (60 : Int) < (K : Int) := by omega
      go_wp2
      go_ret2
      exact ⟨by rw [EvOut, hK, if_pos hbig]; rfl, HB2.out⟩
    · have hbig' : ¬ (60 : Int) < (K : Int) := by omega
      have hK60 : K ≤ 60 := by omega
      have e1 := pow60 hK60
      go_wp2
      go_ret2
      exact ⟨by rw [EvOut, hK, if_neg hbig]; simp [e1], HB2.out⟩
theorem evSpec_v (g n c : Nat) (F : Nat → Nat) (own : Bool) (v : Int) (b : Bool) (w : World) (hv : EvOut F n = .tuple #[.int .i64 v, .bool b]) (hn : n ≤ 16) (hG : goodB n (nv F) = true) (ha : Arr w 3 g n (iv (nv F))) :
    Calls Tryd.prog 27 #[.agg #[.slice (some ⟨g, 0, none⟩) n c, .bool own]] w fun e w' => e = .returned (.tuple #[.int .i64 v, .bool b]) ∧ Below w.heap.size w w' := by
  rw [← hv]; exact evSpec_ok g n c F own w hn hG ha
theorem evImpl_v (g n c : Nat) (F : Nat → Nat) (own : Bool) (v : Int) (b : Bool) (w : World) (hv : EvOut F n = .tuple #[.int .i64 v, .bool b]) (hn : n ≤ 16) (hG : goodB n (nv F) = true) (ha : Arr w 3 g n (iv (nv F))) (hT : Tab w) (hw1 : 1 < w.heap.size) :
    Calls Tryd.prog 28 #[.agg #[.slice (some ⟨g, 0, none⟩) n c, .bool own]] w fun e w' => e = .returned (.tuple #[.int .i64 v, .bool b]) ∧ Below w.heap.size w w' := by
  rw [← hv]; exact evImpl_ok g n c F own w hn hG ha hT hw1
theorem evOut_two (F : Nat → Nat) (n : Nat) : ∃ (v : Int) (b : Bool), EvOut F n = .tuple #[.int .i64 v, .bool b] := by
  unfold EvOut
  split
  · exact ⟨_, _, rfl⟩
  · exact ⟨_, _, rfl⟩
end Go.Proofs.YtmcimfblhpflnaaDoor
