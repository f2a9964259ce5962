/-
The powers of a map.
-/
import Derived.Test.YtdpoceijnbbmgaaDoorOM
namespace Go.Proofs.YtdpoceijnbbmgaaDoor
open Go.RowKit
set_option maxHeartbeats 4000000
theorem idF_any (n i : Nat) (w : World) (hi : i < n) (hn : n ≤ 40) :
    Calls Tryd.prog 118 #[.int .i64 i] w fun e w' => e = .returned (.int .i64 (2 ^ i : Nat)) ∧ Below w.heap.size w w' := by
  have hp : (2 : Nat) ^ i ≤ 1099511627776 := Nat.pow_le_pow_right (n := 2) (j := 40) (by decide) (by omega)
  have e1 : RowKit.wrap64 ((2 : Int) ^ i) = ((2 ^ i : Nat) : Int) := by
    rw [pow_i]
    generalize 2 ^ i = P at *
    exact IntWalk.wrap64_in _ (by omega)
  clear hp
  go_enter Tryd.func118, Tryd.ntmps118
  go_wp2
  go_ret
  exact ⟨by first | rfl | rw [← e1]; rfl, Below.refl _ _⟩
theorem setMapOf_id (n : Nat) (S : Nat → Nat) (w : World) (hn : n ≤ 65536)
    (hs : ∀ i wr, i < n → Below w.heap.size w wr → Calls Tryd.prog 118 #[.int .i64 i] wr fun e w' => e = .returned (.int .i64 (S i : Nat)) ∧ Below wr.heap.size wr w') :
    Calls Tryd.prog 86 #[.int .i64 n, .func (.func 118) #[] #[]] w (NewMap w n S) := by
  have hmk := run_make_row' (P := Tryd.prog) 59 57 (.int .i64 0) 8 Tryd.underlying59 sub_info rfl .i64 .i64 n (by omega) (by omega)
  have HS := hide hs
  clear hs
  go_enter Tryd.func86, Tryd.ntmps86
  go_wp2
  go_loopw [13] (fun i wr => ∃ k : Nat, k ≤ n ∧ i = .int .i64 k ∧ Arr wr 57 (w.heap.size + 1) n (fun j => if j < k then iv (nv S) j else .int .i64 0) ∧ Blk wr 61 (w.heap.size + 1 + 1) #[.slice (some ⟨w.heap.size + 1, 0, none⟩) n n] ∧ Blk wr 61 w.heap.size #[.slice none 0 0] ∧ Below w.heap.size w wr) (fun i _ => n - (intOf i).toNat)
  case atStart => exact ⟨0, Nat.zero_le _, rfl, (Arr.made_at (w.alloc _) _ n 57 (by simp) (fun k hk => by simp)).alloc _, Blk.new _ _ _ (by simp), ((Blk.new w _ _ rfl).alloc _).alloc _, by go_grown⟩
  case round =>
    obtain ⟨k, hk, rfl, ha, hx, hr, hb⟩ := hrel
    have HA := hide ha
    have HX := hide hx
    have HR := hide hr
    have HB := hide hb
    have c0 : wr.cell? ⟨w.heap.size + 1 + 1, 0, none⟩ = some (.slice (some ⟨w.heap.size + 1, 0, none⟩) n n) := hx.cell 0
    have r0 : wr.cell? ⟨w.heap.size, 0, none⟩ = some (.slice none 0 0) := hr.cell 0
    have z0 := hr.frozen 0
    have hsz := hb.size
    have hxl := hx.lt
    have hrl := hr.lt
    have hal := ha.lt
    clear ha hx hr hb
    by_cases hlt : k < n
    · have HC := hide (HS.out k wr.drew hlt (Below.drew HB.out))
      obtain ⟨y, hy⟩ : ∃ y, S k = y := ⟨_, rfl⟩
      rw [hy] at HC
      have HY := hide hy
      clear hy
      have hki : (k : Int) < n := by omega
      go_wp2_with fail
      go_region_held3 (fun w' => w'.cell? ⟨w.heap.size + 1 + 1, 0, none⟩ = some (.slice (some ⟨w.heap.size + 1, 0, none⟩) n n)) (first | exact c0 | exact cell_below (by assumption) hxl c0 | exact cell_far (by omega) (cell_below (by assumption) hxl c0)) (first | (go_at_call 118; refine HC.out.mono ?_; rintro e w3 ⟨rfl, hb3⟩; have hb3 := (below_drewN (Below.refl _ wr) 1).trans hb3; have ha3 := HA.out.all hb3; have hw := ha3.cell hlt; have hz := ha3.frozen k; have hl3 := ha3.lt; clear ha3))
      have HA3 := hide (HA.out.all hb3)
      have HX3 := hide (HX.out.all hb3)
      have HR3 := hide (HR.out.all hb3)
      have HB3 := hide (HB.out.trans (hb3.mono hsz))
      clear hb3 hw hz
      go_wp2
      go_roundw
      case rel =>
        refine ⟨k + 1, by omega, by go_num, (HA3.out.set k _).congr (fun j hj => ?_), HX3.out.far (by simp) _, HR3.out.far (by simp) _, HB3.out.setCell (by simp) _⟩
        by_cases hjk : j = k
        · subst hjk; simp [iv, nv, HY.out]
        · simp only [hjk, if_false]
          by_cases h2 : j < k
          · rw [if_pos h2, if_pos (by omega)]
          · rw [if_neg h2, if_neg (by omega)]
      case measure => simp [intOf]; omega
    · have hkn : k = n := by omega
      subst hkn
      have HA2 := hide (HA.out.congr (f' := iv (nv S)) (fun j hj => by simp [hj]))
      go_wp2
      refine bodyPost_ret (v := .agg #[.slice (some ⟨w.heap.size + 1, 0, none⟩) k k]) (by simp [results, Tryd.results86, go_sem, r0]) rfl ?_
      exact ⟨w.heap.size + 1, rfl, by omega, HA2.out.far (by simp) _, HB.out.setCell (Nat.le_refl _) _⟩
theorem identity_any (n : Nat) (w : World) (hn : n ≤ 40) : Calls Tryd.prog 94 #[.int .i64 n] w (NewMap w n fun i => 2 ^ i) := by
  go_enter Tryd.func94, Tryd.ntmps94
  go_wp2_with fail
  refine (setMapOf_id n (fun i => 2 ^ i) _ (by omega) (fun i wr hi hb => idF_any n i wr hi hn)).mono ?_
  rintro e w2 ⟨g, rfl, hlo, ha, hb⟩
  have HA := hide ha
  have HB := hide hb
  have hr := (Blk.new w 61 #[.slice none 0 0] (b := w.heap.size) rfl).all hb
  have r0 : w2.cell? ⟨w.heap.size, 0, none⟩ = some (.slice none 0 0) := hr.cell 0
  have z0 := hr.frozen 0
  have hl := hr.lt
  clear ha hb hr
  go_wp2
  refine bodyPost_ret (v := .agg #[.slice (some ⟨g, 0, none⟩) n n]) (by simp [results, Tryd.results94, go_sem, r0]) rfl ?_
  simp at hlo
  exact ⟨g, rfl, by omega, HA.out.far (by simp; omega) _, ((by go_grown : Below w.heap.size w _).trans (HB.out.mono (by simp))).setCell (by simp) _⟩
theorem patternM_any (b n K : Nat) (x : Int) (A : Option Addr) (c g0 : Nat) (M : Nat → Nat) (w : World) (h1' : 1 ≤ n) (hn : n ≤ 40) (hK : K ≤ 1000) (hx : ∀ k : Nat, (k : Int) < x ↔ k < K) (hT : Tab w) (hb : w.cell? ⟨b, 0, none⟩ = some (.slice A n c)) (hs : Src w A n (iv (nv M))) (hg : Arr w 57 g0 n (iv (nv (pw n M 0)))) (hM : ∀ i, i < n → M i < 2 ^ n) :
    Calls Tryd.prog 93 #[.agg #[.slice (some ⟨g0, 0, none⟩) n n], .int .i64 x, .func (.func 96) #[] #[.pointer (some ⟨b, 0, none⟩)]] w fun e w' =>
      ∃ A' d G, e = .returned (.slice A' (K + 1) d) ∧ ML w' (w.heap.size + 1) (.slice A' (K + 1) d) n G (pw n M) (K + 1) ∧ Below w.heap.size w w' := by
  have hbl := World.block_lt_of_cell? w _ hb
  have HT := hide hT
  have HS := hide hs
  have HG := hide hg
  have HM := hide hM
  have HCB := hide hb
  have HXK := hide hx
  clear hT hs hg hM hb hx
  go_enter Tryd.func93, Tryd.ntmps93
  go_wp2
  go_loopw [7, 13] (fun v i wr => ∃ (k d c' n' : Nat) (A' B' : Option Addr) (G : Nat → Nat), k ≤ K ∧ i = .int .i64 k ∧ v = .slice A' (k + 1) d ∧ Hid (ML wr (w.heap.size + 1) (.slice A' (k + 1) d) n G (pw n M) (k + 1)) ∧ Hid (Blk wr 61 w.heap.size #[.slice (some ⟨G k, 0, none⟩) n n]) ∧ Hid (Blk wr 61 (w.heap.size + 1 + 1) #[.slice B' n' c']) ∧ Hid (ob A' ≠ some (w.heap.size + 1 + 1)) ∧ Hid (Below w.heap.size w wr)) (fun _ i _ => K - (intOf i).toNat)
  case atStart =>
    refine ⟨0, 1, 0, 0, some ⟨w.heap.size + 1, 0, none⟩, none, fun _ => g0, by omega, rfl, rfl, hide ⟨?_, fun k hk => ?_⟩, hide (((Blk.new w _ _ rfl).alloc _).alloc _), hide (Blk.new _ _ _ (by simp)), hide (by simp [ob]), hide (by go_grown)⟩
    · have h0 : ((w.alloc (.cells #[.slice (some ⟨g0, 0, none⟩) n n] 61)).alloc (.cells #[.slice (some ⟨g0, 0, none⟩) n n] 61)).ownsRow (w.heap.size + 1) 61 1 (.slice (some ⟨(w.alloc (.cells #[.slice (some ⟨g0, 0, none⟩) n n] 61)).heap.size, 0, none⟩) 1 1) 1 [.slice (some ⟨g0, 0, none⟩) n n] :=
        ⟨rfl, .inr ⟨_, 1, #[.slice (some ⟨g0, 0, none⟩) n n], rfl, by simp, heap_alloc_new _ _, Nat.le_refl _, by decide, rfl, rfl⟩⟩
      exact own_below (by simpa [rowL, List.range_succ] using h0) ((Below.refl _ _).alloc (Nat.le_refl _) _)
    · have : k = 0 := by omega
      subst this
      exact ((HG.out.alloc _).alloc _).alloc _
  case round =>
    obtain ⟨k, d, c', n', A', B', G, hk, rfl, rfl, HL, HX, HY, HSep, HB⟩ := hrel
    have hsz := HB.out.size
    have c3 : wr.cell? ⟨w.heap.size, 0, none⟩ = some (.slice (some ⟨G k, 0, none⟩) n n) := HX.out.cell 0
    have c8 : wr.cell? ⟨w.heap.size + 1 + 1, 0, none⟩ = some (.slice B' n' c') := HY.out.cell 0
    have z3 := HX.out.frozen 0
    have z8 := HY.out.frozen 0
    have hxl := HX.out.lt
    have hyl := HY.out.lt
    by_cases hlt : k < K
    · have hkx : (k : Int) < x := (HXK.out k).2 hlt
      have HO := hide (ofPolyF_any b n A B' c (G k) n' c' k M (pw n M k) wr.drew h1' hn (HT.out.below (Below.drew HB.out)) ((HB.out.cell (p := ⟨b, 0, none⟩) hbl).trans HCB.out) (HS.out.below (Below.drew HB.out)) (HL.out.2 k (by omega)) HM.out (fun i hi => pw_lt HM.out k i hi))
      go_wp2_with fail
      go_region_law (first | (go_simp; go_at_call 96; refine HO.out.mono ?_; rintro e w3 ⟨g3, rfl, hlo3, ha3, hb3⟩; have hlo4 : wr.heap.size ≤ g3 := hlo3; have hb3 := (below_drewN (Below.refl _ wr) 1).trans hb3; have x3 : w3.cell? ⟨w.heap.size, 0, none⟩ = some (.slice (some ⟨G k, 0, none⟩) n n) := cell_below hb3 hxl c3; have x8 : w3.cell? ⟨w.heap.size + 1 + 1, 0, none⟩ = some (.slice B' n' c') := cell_below hb3 hyl c8; have y3 := (HX.out.all hb3).frozen 0; have y8 := (HY.out.all hb3).frozen 0; go_simp))
      all_goals
        have hw3 := hb3.size
        have HL3 := hide (((HL.out.all hb3).fars (HY.out.all hb3) HSep.out (.slice (some ⟨G k, 0, none⟩) n n)).fars ((HX.out.all hb3).far (by simp; omega) _) (by rw [← ob_eq A' (k + 1) d]; exact fun e => own_blk (HL.out.1) (Nat.lt_succ_self _) e.symm) (.slice (some ⟨g3, 0, none⟩) n n))
        have HX3 : Hid (Blk ((w3.setCell ⟨w.heap.size + 1 + 1, 0, none⟩ (.slice (some ⟨G k, 0, none⟩) n n)).setCell ⟨w.heap.size, 0, none⟩ (.slice (some ⟨g3, 0, none⟩) n n)) 61 w.heap.size #[.slice (some ⟨g3, 0, none⟩) n n]) := hide (by have := ((HX.out.all hb3).far (p := ⟨w.heap.size + 1 + 1, 0, none⟩) (by simp; omega) (.slice (some ⟨G k, 0, none⟩) n n)).set 0 (.slice (some ⟨g3, 0, none⟩) n n); simpa using this)
        have HY3 : Hid (Blk ((w3.setCell ⟨w.heap.size + 1 + 1, 0, none⟩ (.slice (some ⟨G k, 0, none⟩) n n)).setCell ⟨w.heap.size, 0, none⟩ (.slice (some ⟨g3, 0, none⟩) n n)) 61 (w.heap.size + 1 + 1) #[.slice (some ⟨G k, 0, none⟩) n n]) := hide (by have := ((HY.out.all hb3).set 0 (.slice (some ⟨G k, 0, none⟩) n n)).far (p := ⟨w.heap.size, 0, none⟩) (by simp; omega) (.slice (some ⟨g3, 0, none⟩) n n); simpa using this)
        have HA3 := hide ((ha3.far (p := ⟨w.heap.size + 1 + 1, 0, none⟩) (by simp; omega) (.slice (some ⟨G k, 0, none⟩) n n)).far (p := ⟨w.heap.size, 0, none⟩) (by simp; omega) (.slice (some ⟨g3, 0, none⟩) n n))
        have HB3 := hide (((HB.out.trans (hb3.mono hsz)).setCell (p := ⟨w.heap.size + 1 + 1, 0, none⟩) (by simp; omega) (.slice (some ⟨G k, 0, none⟩) n n)).setCell (p := ⟨w.heap.size, 0, none⟩) (Nat.le_refl _) (.slice (some ⟨g3, 0, none⟩) n n))
        have hyl3 : w.heap.size + 1 + 1 < w3.heap.size := by omega
        clear hb3 ha3 x3 x8 y3 y8 c3 c8 z3 z8
        have hsz3 : ((w3.setCell ⟨w.heap.size + 1 + 1, 0, none⟩ (.slice (some ⟨G k, 0, none⟩) n n)).setCell ⟨w.heap.size, 0, none⟩ (.slice (some ⟨g3, 0, none⟩) n n)).heap.size = w3.heap.size := by simp [World.setCell]
        generalize hW : (w3.setCell ⟨w.heap.size + 1 + 1, 0, none⟩ (.slice (some ⟨G k, 0, none⟩) n n)).setCell ⟨w.heap.size, 0, none⟩ (.slice (some ⟨g3, 0, none⟩) n n) = W4 at *
        have hz4 : w.heap.size + 1 + 1 < W4.heap.size := by omega
        have d3 : W4.cell? ⟨w.heap.size, 0, none⟩ = some (.slice (some ⟨g3, 0, none⟩) n n) := HX3.out.cell 0
        have d9 : W4.drew.cell? ⟨w.heap.size, 0, none⟩ = some (.slice (some ⟨g3, 0, none⟩) n n) := d3
        clear hW hsz3 hyl3 hw3
        go_wp2_with (at_builtin; refine wpList_append_map _ rfl _ _ rfl (w.heap.size + 1) A' d n (k + 1) G (pw n M) W4.heap.size g3 rfl (by first | exact HL3.out.alloc _ | exact (HL3.out.drewN 1).alloc _) rfl (by simp [go_sem]) (by first | exact HA3.out.alloc _ | exact (Arr.drewN HA3.out 1).alloc _) (by omega) (by simp; omega) ?_; intro A2 c2 w5 hl5 hg5 hob5; have HL5 := hide hl5; have HG5 := hide hg5; have HOB5 := hide hob5; clear hl5 hg5 hob5)
        have hne : ob A' ≠ some w.heap.size := by rw [← ob_eq A' (k + 1) d]; exact fun e => own_blk (HL.out.1) (Nat.lt_succ_self _) e.symm
        have HXn : Blk w5 61 w.heap.size #[.slice (some ⟨g3, 0, none⟩) n n] := by first | exact (HX3.out.alloc _).kept HG5.out hne | exact ((HX3.out.drewN 1).alloc _).kept HG5.out hne
        have HYn : Blk w5 61 (w.heap.size + 1 + 1) #[.slice (some ⟨G k, 0, none⟩) n n] := by first | exact (HY3.out.alloc _).kept HG5.out HSep.out | exact ((HY3.out.drewN 1).alloc _).kept HG5.out HSep.out
        refine ⟨⟨k + 1, c2, n, n, A2, some ⟨G k, 0, none⟩, fun j => if j = k + 1 then g3 else G j, by omega, by go_num, rfl, HL5, hide (by simpa using HXn), hide HYn, hide ?_, hide ?_⟩, by simp [intOf]; omega⟩
        · rcases HOB5.out with e | e
          · rw [e]; exact HSep.out
          · rw [e]; intro e2; injection e2 with e2; simp at e2; omega
        · have hb4 := HB3.out
          exact Below.grown (by go_grown) HG5.out (by simp; omega) (fun j hj => by have := (World.ownsRow.lt HL.out.1 j (by rw [ob_eq]; exact hj)).1; omega)
    · have hkx : ¬ (k : Int) < x := fun h => hlt ((HXK.out k).1 h)
      have hkn : k = K := by omega
      subst hkn
      go_wp2
      go_ret
      first | exact ⟨A', d, G, rfl, HL.out, HB.out⟩ | exact ⟨A', d, rfl, ⟨G, HL.out⟩, HB.out⟩
end Go.Proofs.YtdpoceijnbbmgaaDoor
