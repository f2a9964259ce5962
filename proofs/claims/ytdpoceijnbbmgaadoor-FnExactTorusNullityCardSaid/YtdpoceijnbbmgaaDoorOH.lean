/-
Maps done one after the other.
-/
import Derived.Test.YtdpoceijnbbmgaaDoorOG
namespace Go.Proofs.YtdpoceijnbbmgaaDoor
open Go.RowKit
set_option maxHeartbeats 2000000
theorem three_below {W w' : World} {a b g o p q : Nat} {u v x : Value} (hb : Below W.heap.size W w') (h : W.cell? ⟨a, o, none⟩ = some u ∧ W.cell? ⟨b, p, none⟩ = some v ∧ W.cell? ⟨g, q, none⟩ = some x) : w'.cell? ⟨a, o, none⟩ = some u ∧ w'.cell? ⟨b, p, none⟩ = some v ∧ w'.cell? ⟨g, q, none⟩ = some x :=
  ⟨cell_below hb (World.block_lt_of_cell? W _ h.1) h.1, cell_below hb (World.block_lt_of_cell? W _ h.2.1) h.2.1, cell_below hb (World.block_lt_of_cell? W _ h.2.2) h.2.2⟩
theorem afterF_any (b1 b2 n i : Nat) (A1 A2 : Option Addr) (c1 c2 : Nat) (F G : Nat → Nat) (w : World) (h1' : 1 ≤ n) (hn : n ≤ 40) (hi : i < n) (hT : Tab w) (h1 : w.cell? ⟨b1, 0, none⟩ = some (.slice A1 n c1)) (h2 : w.cell? ⟨b2, 0, none⟩ = some (.slice A2 n c2))
    (hs1 : Src w A1 n (iv (nv F))) (hs2 : Src w A2 n (iv (nv G))) (hF : ∀ k, k < n → F k < 2 ^ n) (hG : G i < 2 ^ n) :
    Calls Tryd.prog 89 #[.int .i64 i, .pointer (some ⟨b1, 0, none⟩), .pointer (some ⟨b2, 0, none⟩)] w fun e w' => e = .returned (.int .i64 (effN F (G i) n : Nat)) ∧ Below w.heap.size w w' := by
  obtain ⟨g2, o2, hA2, hb2, hc2⟩ := hs2 i hi
  have k2 : w.cell? ⟨g2, o2 + i, none⟩ = some (.int .i64 (G i : Nat)) := hc2
  have hki : (i : Int) < n := by omega
  have HO := hide (of_any A1 n c1 (G i) F w.drew h1' hn hG hT hs1 hF)
  clear hc2 hs1 hs2 hT hF
  subst hA2
  go_enter Tryd.func89, Tryd.ntmps89
  go_wp2_with fail
  go_region_held3 (fun w' => w'.cell? ⟨b1, 0, none⟩ = some (.slice A1 n c1) ∧ w'.cell? ⟨b2, 0, none⟩ = some (.slice (some ⟨g2, o2, none⟩) n c2) ∧ w'.cell? ⟨g2, o2 + i, none⟩ = some (.int .i64 (G i : Nat))) (first | exact ⟨h1, h2, k2⟩ | exact three_below (by assumption) ⟨h1, h2, k2⟩) (first | (go_at_call 51; refine HO.out.mono ?_; rintro e w3 ⟨rfl, hb3⟩; have hb3 := (below_drewN (Below.refl _ w) 1).trans hb3))
  all_goals
    go_wp2
    go_ret
    exact ⟨rfl, hb3⟩
theorem setMapOf_after (b1 b2 n : Nat) (S : Nat → Nat) (w : World) (hn : n ≤ 65536)
    (hs : ∀ i wr, i < n → Below w.heap.size w wr → Calls Tryd.prog 89 #[.int .i64 i, .pointer (some ⟨b1, 0, none⟩), .pointer (some ⟨b2, 0, none⟩)] wr fun e w' => e = .returned (.int .i64 (S i : Nat)) ∧ Below wr.heap.size wr w') :
    Calls Tryd.prog 86 #[.int .i64 n, .func (.func 89) #[] #[.pointer (some ⟨b1, 0, none⟩), .pointer (some ⟨b2, 0, none⟩)]] w (NewMap w n S) := by
  have hmk := run_make_row' (P := Tryd.prog) 59 57 (.int .i64 0) 8 Tryd.underlying59 sub_info rfl .i64 .i64 n (by omega) (by omega)
  have HS := hide hs
  clear hs
  go_enter Tryd.func86, Tryd.ntmps86
  go_wp2
  go_loopw [13] (fun i wr => ∃ k : Nat, k ≤ n ∧ i = .int .i64 k ∧ Arr wr 57 (w.heap.size + 1) n (fun j => if j < k then iv (nv S) j else .int .i64 0) ∧ Blk wr 61 (w.heap.size + 1 + 1) #[.slice (some ⟨w.heap.size + 1, 0, none⟩) n n] ∧ Blk wr 61 w.heap.size #[.slice none 0 0] ∧ Below w.heap.size w wr) (fun i _ => n - (intOf i).toNat)
  case atStart => exact ⟨0, Nat.zero_le _, rfl, (Arr.made_at (w.alloc _) _ n 57 (by simp) (fun k hk => by simp)).alloc _, Blk.new _ _ _ (by simp), ((Blk.new w _ _ rfl).alloc _).alloc _, by go_grown⟩
  case round =>
    obtain ⟨k, hk, rfl, ha, hx, hr, hb⟩ := hrel
    have HA := hide ha
    have HX := hide hx
    have HR := hide hr
    have HB := hide hb
    have c0 : wr.cell? ⟨w.heap.size + 1 + 1, 0, none⟩ = some (.slice (some ⟨w.heap.size + 1, 0, none⟩) n n) := hx.cell 0
    have r0 : wr.cell? ⟨w.heap.size, 0, none⟩ = some (.slice none 0 0) := hr.cell 0
    have z0 := hr.frozen 0
    have hsz := hb.size
    have hxl := hx.lt
    have hrl := hr.lt
    have hal := ha.lt
    clear ha hx hr hb
    by_cases hlt : k < n
    · have HC := hide (HS.out k wr.drew hlt (Below.drew HB.out))
      obtain ⟨y, hy⟩ : ∃ y, S k = y := ⟨_, rfl⟩
      rw [hy] at HC
      have HY := hide hy
      clear hy
      have hki : (k : Int) < n := by omega
      go_wp2_with fail
      go_region_held3 (fun w' => w'.cell? ⟨w.heap.size + 1 + 1, 0, none⟩ = some (.slice (some ⟨w.heap.size + 1, 0, none⟩) n n)) (first | exact c0 | exact cell_below (by assumption) hxl c0 | exact cell_far (by omega) (cell_below (by assumption) hxl c0)) (first | (go_at_call 89; refine HC.out.mono ?_; rintro e w3 ⟨rfl, hb3⟩; have hb3 := (below_drewN (Below.refl _ wr) 1).trans hb3; have ha3 := HA.out.all hb3; have hw := ha3.cell hlt; have hz := ha3.frozen k; have hl3 := ha3.lt; clear ha3))
      have HA3 := hide (HA.out.all hb3)
      have HX3 := hide (HX.out.all hb3)
      have HR3 := hide (HR.out.all hb3)
      have HB3 := hide (HB.out.trans (hb3.mono hsz))
      clear hb3 hw hz
      go_wp2
      go_roundw
      case rel =>
        refine ⟨k + 1, by omega, by go_num, (HA3.out.set k _).congr (fun j hj => ?_), HX3.out.far (by simp) _, HR3.out.far (by simp) _, HB3.out.setCell (by simp) _⟩
        by_cases hjk : j = k
        · subst hjk; simp [iv, nv, HY.out]
        · simp only [hjk, if_false]
          by_cases h2 : j < k
          · rw [if_pos h2, if_pos (by omega)]
          · rw [if_neg h2, if_neg (by omega)]
      case measure => simp [intOf]; omega
    · have hkn : k = n := by omega
      subst hkn
      have HA2 := hide (HA.out.congr (f' := iv (nv S)) (fun j hj => by simp [hj]))
      go_wp2
      refine bodyPost_ret (v := .agg #[.slice (some ⟨w.heap.size + 1, 0, none⟩) k k]) (by simp [results, Tryd.results86, go_sem, r0]) rfl ?_
      exact ⟨w.heap.size + 1, rfl, by omega, HA2.out.far (by simp) _, HB.out.setCell (Nat.le_refl _) _⟩
theorem mapAfter_any (A1 A2 : Option Addr) (n c1 c2 : Nat) (F G : Nat → Nat) (w : World) (h1' : 1 ≤ n) (hn : n ≤ 40) (hT : Tab w) (hs1 : Src w A1 n (iv (nv F))) (hs2 : Src w A2 n (iv (nv G))) (hF : ∀ i, i < n → F i < 2 ^ n) (hG : ∀ i, i < n → G i < 2 ^ n) :
    Calls Tryd.prog 54 #[.agg #[.slice A1 n c1], .agg #[.slice A2 n c2]] w (NewMap w n fun i => effN F (G i) n) := by
  have HS1 := hide hs1
  have HS2 := hide hs2
  have HF := hide hF
  have HT := hide hT
  have HG := hide hG
  have hmf : ∀ (fn : Fn) (first cap : Array Value) (w : World), (Instr.makeFunc fn first cap).run Tryd.prog w = .ok (.func fn first cap) w := fun _ _ _ _ => rfl
  clear hs1 hs2 hF hG hT
  go_enter Tryd.func54, Tryd.ntmps54
  go_wp2_with fail
  refine (setMapOf_after w.heap.size (w.heap.size + 1) n (fun i => effN F (G i) n) _ (by omega) (fun i wr hi hb => afterF_any _ _ n i A1 A2 c1 c2 F G wr h1' hn hi ((HT.out.below (by go_grown : Below w.heap.size w _)).below hb) ((hb.cell (p := ⟨w.heap.size, 0, none⟩) (by simp; omega)).trans (by simp [go_sem])) ((hb.cell (p := ⟨w.heap.size + 1, 0, none⟩) (by simp)).trans (by simp [go_sem])) ((((HS1.out.alloc _).alloc _).alloc _).below hb) ((((HS2.out.alloc _).alloc _).alloc _).below hb) HF.out (HG.out i hi))).mono ?_
  rintro e w2 ⟨g, rfl, hlo, ha, hb⟩
  have HA := hide ha
  have HB := hide hb
  have hr := ((Blk.new ((w.alloc (.cells #[.slice A1 n c1] 61)).alloc (.cells #[.slice A2 n c2] 61)) 61 #[.slice none 0 0] (b := w.heap.size + 1 + 1) (by simp))).all hb
  have r0 : w2.cell? ⟨w.heap.size + 1 + 1, 0, none⟩ = some (.slice none 0 0) := hr.cell 0
  have z0 := hr.frozen 0
  have hl := hr.lt
  clear ha hb hr
  go_wp2
  refine bodyPost_ret (v := .agg #[.slice (some ⟨g, 0, none⟩) n n]) (by simp [results, Tryd.results54, go_sem, r0]) rfl ?_
  simp at hlo
  exact ⟨g, rfl, by omega, HA.out.far (by simp; omega) _, ((by go_grown : Below w.heap.size w _).trans (HB.out.mono (by simp; omega))).setCell (by simp; omega) _⟩
end Go.Proofs.YtdpoceijnbbmgaaDoor
