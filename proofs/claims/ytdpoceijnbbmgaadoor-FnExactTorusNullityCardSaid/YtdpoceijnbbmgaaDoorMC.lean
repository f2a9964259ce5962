/-
The program's maps: made by a function of the index, read from a list, added, and listed.
-/
import Derived.Test.YtdpoceijnbbmgaaDoorMA
import Derived.Test.YtdpoceijnbbmgaaDoorZa
import Derived.Test.YtdpoceijnbbmgaaDoorBD
import Derived.Deep.RegionHeld3
import Derived.Handy
namespace Go.Proofs.YtdpoceijnbbmgaaDoor
open Go.RowKit
set_option maxHeartbeats 2000000
theorem cell_below {W w' : World} {a o : Nat} {v : Value} (hb : Below W.heap.size W w') (hl : a < W.heap.size) (h : W.cell? ⟨a, o, none⟩ = some v) : w'.cell? ⟨a, o, none⟩ = some v := (hb.cell (p := ⟨a, o, none⟩) hl).trans h
theorem cell_far {W : World} {a o g k : Nat} {v u : Value} (hne : a ≠ g) (h : W.cell? ⟨a, o, none⟩ = some v) : (W.setCell ⟨g, k, none⟩ u).cell? ⟨a, o, none⟩ = some v := (World.cell?_of_block (Below.heap_setCell W ⟨g, k, none⟩ u a hne)).trans h
theorem subPlus_any (a b : Nat) (w : World) (ha : a < 4611686018427387904) (hb : b < 4611686018427387904) :
    Calls Tryd.prog 156 #[.int .i64 a, .int .i64 b] w fun e w' => e = .returned (.int .i64 (a ^^^ b : Nat)) ∧ w' = w := by
  have e1 := i64_xor_nat a b (by omega) (by omega)
  go_enter Tryd.func156, Tryd.ntmps156
  go_wp2
  go_ret
  exact ⟨rfl, rfl⟩
theorem withF_any (b n : Nat) (A : Option Addr) (c i : Nat) (F : Nat → Nat) (w : World) (hi : i < n) (hb : w.cell? ⟨b, 0, none⟩ = some (.slice A n c)) (hs : Src w A n (iv (nv F))) :
    Calls Tryd.prog 87 #[.int .i64 i, .pointer (some ⟨b, 0, none⟩)] w fun e w' => e = .returned (.int .i64 (F i : Nat)) ∧ Below w.heap.size w w' := by
  obtain ⟨b2, off, hA, hbl, hc0⟩ := hs i hi
  have hc : w.cell? ⟨b2, off + i, none⟩ = some (.int .i64 (F i : Nat)) := hc0
  clear hc0 hs
  subst hA
  go_enter Tryd.func87, Tryd.ntmps87
  go_wp2
  go_ret
  exact ⟨rfl, Below.refl _ _⟩
/-- What a call leaves that hands back a map: n sets in a block of its own. -/
def NewMap (w : World) (n : Nat) (S : Nat → Nat) (e : Ending) (w' : World) : Prop :=
  ∃ g, e = .returned (.agg #[.slice (some ⟨g, 0, none⟩) n n]) ∧ w.heap.size ≤ g ∧ Arr w' 57 g n (iv (nv S)) ∧ Below w.heap.size w w'
theorem setMapOf_with (b n : Nat) (S : Nat → Nat) (w : World) (hn : n ≤ 65536)
    (hs : ∀ i wr, i < n → Below w.heap.size w wr → Calls Tryd.prog 87 #[.int .i64 i, .pointer (some ⟨b, 0, none⟩)] wr fun e w' => e = .returned (.int .i64 (S i : Nat)) ∧ Below wr.heap.size wr w') :
    Calls Tryd.prog 86 #[.int .i64 n, .func (.func 87) #[] #[.pointer (some ⟨b, 0, none⟩)]] w (NewMap w n S) := by
  have hmk := run_make_row' (P := Tryd.prog) 59 57 (.int .i64 0) 8 Tryd.underlying59 sub_info rfl .i64 .i64 n (by omega) (by omega)
  have HS := hide hs
  clear hs
  go_enter Tryd.func86, Tryd.ntmps86
  go_wp2
  go_loopw [13] (fun i wr => ∃ k : Nat, k ≤ n ∧ i = .int .i64 k ∧ Arr wr 57 (w.heap.size + 1) n (fun j => if j < k then iv (nv S) j else .int .i64 0) ∧ Blk wr 61 (w.heap.size + 1 + 1) #[.slice (some ⟨w.heap.size + 1, 0, none⟩) n n] ∧ Blk wr 61 w.heap.size #[.slice none 0 0] ∧ Below w.heap.size w wr) (fun i _ => n - (intOf i).toNat)
  case atStart => exact ⟨0, Nat.zero_le _, rfl, (Arr.made_at (w.alloc _) _ n 57 (by simp) (fun k hk => by simp)).alloc _, Blk.new _ _ _ (by simp), ((Blk.new w _ _ rfl).alloc _).alloc _, by go_grown⟩
  case round =>
    obtain ⟨k, hk, rfl, ha, hx, hr, hb⟩ := hrel
    have HA := hide ha
    have HX := hide hx
    have HR := hide hr
    have HB := hide hb
    have c0 : wr.cell? ⟨w.heap.size + 1 + 1, 0, none⟩ = some (.slice (some ⟨w.heap.size + 1, 0, none⟩) n n) := hx.cell 0
    have r0 : wr.cell? ⟨w.heap.size, 0, none⟩ = some (.slice none 0 0) := hr.cell 0
    have z0 := hr.frozen 0
    have hsz := hb.size
    have hxl := hx.lt
    have hrl := hr.lt
    have hal := ha.lt
    clear ha hx hr hb
    by_cases hlt : k < n
    · have HC := hide (HS.out k wr.drew hlt (Below.drew HB.out))
      obtain ⟨y, hy⟩ : ∃ y, S k = y := ⟨_, rfl⟩
      rw [hy] at HC
      have HY := hide hy
      clear hy
      have hki : (k : Int) < n := by omega
      go_wp2_with fail
      go_region_held3 (fun w' => w'.cell? ⟨w.heap.size + 1 + 1, 0, none⟩ = some (.slice (some ⟨w.heap.size + 1, 0, none⟩) n n)) (first | exact c0 | exact cell_below (by assumption) hxl c0 | exact cell_far (by omega) (cell_below (by assumption) hxl c0)) (first | (go_at_call 87; refine HC.out.mono ?_; rintro e w3 ⟨rfl, hb3⟩; have hb3 := (below_drewN (Below.refl _ wr) 1).trans hb3; have ha3 := HA.out.all hb3; have hw := ha3.cell hlt; have hz := ha3.frozen k; have hl3 := ha3.lt; clear ha3))
      have HA3 := hide (HA.out.all hb3)
      have HX3 := hide (HX.out.all hb3)
      have HR3 := hide (HR.out.all hb3)
      have HB3 := hide (HB.out.trans (hb3.mono hsz))
      clear hb3 hw hz
      go_wp2
      go_roundw
      case rel =>
        refine ⟨k + 1, by omega, by go_num, (HA3.out.set k _).congr (fun j hj => ?_), HX3.out.far (by simp) _, HR3.out.far (by simp) _, HB3.out.setCell (by simp) _⟩
        by_cases hjk : j = k
        · subst hjk; simp [iv, nv, HY.out]
        · simp only [hjk, if_false]
          by_cases h2 : j < k
          · rw [if_pos h2, if_pos (by omega)]
          · rw [if_neg h2, if_neg (by omega)]
      case measure => simp [intOf]; omega
    · have hkn : k = n := by omega
      subst hkn
      have HA2 := hide (HA.out.congr (f' := iv (nv S)) (fun j hj => by simp [hj]))
      go_wp2
      refine bodyPost_ret (v := .agg #[.slice (some ⟨w.heap.size + 1, 0, none⟩) k k]) (by simp [results, Tryd.results86, go_sem, r0]) rfl ?_
      exact ⟨w.heap.size + 1, rfl, by omega, HA2.out.far (by simp) _, HB.out.setCell (Nat.le_refl _) _⟩
end Go.Proofs.YtdpoceijnbbmgaaDoor
