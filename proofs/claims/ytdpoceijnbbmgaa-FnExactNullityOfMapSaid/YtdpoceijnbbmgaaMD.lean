/-
The program's maps: a list as a map, two maps added, a map as a list.
-/
import Derived.Test.YtdpoceijnbbmgaaMC
import Derived.Deep.QuietTactic
namespace Go.Proofs.Ytdpoceijnbbmgaa
open Go.RowKit
set_option maxHeartbeats 2000000
theorem setMapWith_any (A : Option Addr) (n c : Nat) (F : Nat → Nat) (w : World) (hn : n ≤ 65536) (hs : Src w A n (iv (nv F))) :
    Calls Try.prog 34 #[.slice A n c] w (NewMap w n F) := by
  have HS := hide hs
  have hmf : ∀ (fn : Fn) (first cap : Array Value) (w : World), (Instr.makeFunc fn first cap).run Try.prog w = .ok (.func fn first cap) w := fun _ _ _ _ => rfl
  clear hs
  go_enter Try.func34, Try.ntmps34
  go_wp2_with fail
  refine (setMapOf_with w.heap.size n F _ hn (fun i wr hi hb => withF_any _ n A c i F wr hi ((hb.cell (p := ⟨w.heap.size, 0, none⟩) (by simp; omega)).trans (by simp [go_sem])) (((HS.out.alloc _).alloc _).below hb))).mono ?_
  rintro e w2 ⟨g, rfl, hlo, ha, hb⟩
  have HA := hide ha
  have HB := hide hb
  have hr := ((Blk.new (w.alloc (.cells #[.slice A n c] 22)) 50 #[.slice none 0 0] (b := w.heap.size + 1) (by simp))).all hb
  have r0 : w2.cell? ⟨w.heap.size + 1, 0, none⟩ = some (.slice none 0 0) := hr.cell 0
  have z0 := hr.frozen 0
  have hl := hr.lt
  clear ha hb hr
  go_wp2
  refine bodyPost_ret (v := .agg #[.slice (some ⟨g, 0, none⟩) n n]) (by simp [results, Try.results34, go_sem, r0]) rfl ?_
  simp at hlo
  exact ⟨g, rfl, by omega, HA.out.far (by simp; omega) _, ((by go_grown : Below w.heap.size w _).trans (HB.out.mono (by simp; omega))).setCell (by simp) _⟩
theorem plusF_any (b1 b2 n i : Nat) (A1 A2 : Option Addr) (c1 c2 : Nat) (F G : Nat → Nat) (w : World) (hi : i < n) (h1 : w.cell? ⟨b1, 0, none⟩ = some (.slice A1 n c1)) (h2 : w.cell? ⟨b2, 0, none⟩ = some (.slice A2 n c2))
    (hs1 : Src w A1 n (iv (nv F))) (hs2 : Src w A2 n (iv (nv G))) (hF : F i < 4611686018427387904) (hG : G i < 4611686018427387904) :
    Calls Try.prog 59 #[.int .i64 i, .pointer (some ⟨b1, 0, none⟩), .pointer (some ⟨b2, 0, none⟩)] w fun e w' => e = .returned (.int .i64 (F i ^^^ G i : Nat)) ∧ Below w.heap.size w w' := by
  obtain ⟨g1, o1, hA1, hb1, hc1⟩ := hs1 i hi
  obtain ⟨g2, o2, hA2, hb2, hc2⟩ := hs2 i hi
  have k1 : w.cell? ⟨g1, o1 + i, none⟩ = some (.int .i64 (F i : Nat)) := hc1
  have k2 : w.cell? ⟨g2, o2 + i, none⟩ = some (.int .i64 (G i : Nat)) := hc2
  have hki : (i : Int) < n := by omega
  clear hc1 hc2 hs1 hs2
  subst hA1 hA2
  go_enter Try.func59, Try.ntmps59
  go_wp2_with fail
  go_region_held3 (fun w' => w' = w.drew) (first | rfl | assumption) (first | (go_at_call 60; refine (subPlus_any _ _ _ hF hG).mono ?_; rintro e w' ⟨rfl, rfl⟩))
  go_wp2
  go_ret
  exact ⟨rfl, (Below.refl _ _).drew⟩
theorem setMapOf_plus (b1 b2 n : Nat) (S : Nat → Nat) (w : World) (hn : n ≤ 65536)
    (hs : ∀ i wr, i < n → Below w.heap.size w wr → Calls Try.prog 59 #[.int .i64 i, .pointer (some ⟨b1, 0, none⟩), .pointer (some ⟨b2, 0, none⟩)] wr fun e w' => e = .returned (.int .i64 (S i : Nat)) ∧ Below wr.heap.size wr w') :
    Calls Try.prog 57 #[.int .i64 n, .func (.func 59) #[] #[.pointer (some ⟨b1, 0, none⟩), .pointer (some ⟨b2, 0, none⟩)]] w (NewMap w n S) := by
  have hmk := run_make_row' (P := Try.prog) 48 65 (.int .i64 0) 8 Try.underlying48 sub_info rfl .i64 .i64 n (by omega) (by omega)
  have HS := hide hs
  clear hs
  go_enter Try.func57, Try.ntmps57
  go_wp2
  go_loopw [13] (fun i wr => ∃ k : Nat, k ≤ n ∧ i = .int .i64 k ∧ Arr wr 65 (w.heap.size + 1) n (fun j => if j < k then iv (nv S) j else .int .i64 0) ∧ Blk wr 50 (w.heap.size + 1 + 1) #[.slice (some ⟨w.heap.size + 1, 0, none⟩) n n] ∧ Blk wr 50 w.heap.size #[.slice none 0 0] ∧ Below w.heap.size w wr) (fun i _ => n - (intOf i).toNat)
  case atStart => exact ⟨0, Nat.zero_le _, rfl, (Arr.made_at (w.alloc _) _ n 65 (by simp) (fun k hk => by simp)).alloc _, Blk.new _ _ _ (by simp), ((Blk.new w _ _ rfl).alloc _).alloc _, by go_grown⟩
  case round =>
    obtain ⟨k, hk, rfl, ha, hx, hr, hb⟩ := hrel
    have HA := hide ha
    have HX := hide hx
    have HR := hide hr
    have HB := hide hb
    have c0 : wr.cell? ⟨w.heap.size + 1 + 1, 0, none⟩ = some (.slice (some ⟨w.heap.size + 1, 0, none⟩) n n) := hx.cell 0
    have r0 : wr.cell? ⟨w.heap.size, 0, none⟩ = some (.slice none 0 0) := hr.cell 0
    have z0 := hr.frozen 0
    have hsz := hb.size
    have hxl := hx.lt
    have hrl := hr.lt
    have hal := ha.lt
    clear ha hx hr hb
    by_cases hlt : k < n
    · have HC := hide (HS.out k wr.drew hlt (Below.drew HB.out))
      obtain ⟨y, hy⟩ : ∃ y, S k = y := ⟨_, rfl⟩
      rw [hy] at HC
      have HY := hide hy
      clear hy
      have hki : (k : Int) < n := by omega
      go_wp2_with fail
      go_region_held3 (fun w' => w'.cell? ⟨w.heap.size + 1 + 1, 0, none⟩ = some (.slice (some ⟨w.heap.size + 1, 0, none⟩) n n)) (first | exact c0 | exact cell_below (by assumption) hxl c0 | exact cell_far (by omega) (cell_below (by assumption) hxl c0)) (first | (go_at_call 59; refine HC.out.mono ?_; rintro e w3 ⟨rfl, hb3⟩; have hb3 := (below_drewN (Below.refl _ wr) 1).trans hb3; have ha3 := HA.out.all hb3; have hw := ha3.cell hlt; have hz := ha3.frozen k; have hl3 := ha3.lt; clear ha3))
      have HA3 := hide (HA.out.all hb3)
      have HX3 := hide (HX.out.all hb3)
      have HR3 := hide (HR.out.all hb3)
      have HB3 := hide (HB.out.trans (hb3.mono hsz))
      clear hb3 hw hz
      go_wp2
      go_roundw
      case rel =>
        refine ⟨k + 1, by omega, by go_num, (HA3.out.set k _).congr (fun j hj => ?_), HX3.out.far (by simp) _, HR3.out.far (by simp) _, HB3.out.setCell (by simp) _⟩
        by_cases hjk : j = k
        · subst hjk; simp [iv, nv, HY.out]
        · simp only [hjk, if_false]
          by_cases h2 : j < k
          · rw [if_pos h2, if_pos (by omega)]
          · rw [if_neg h2, if_neg (by omega)]
      case measure => simp [intOf]; omega
    · have hkn : k = n := by omega
      subst hkn
      have HA2 := hide (HA.out.congr (f' := iv (nv S)) (fun j hj => by simp [hj]))
      go_wp2
      refine bodyPost_ret (v := .agg #[.slice (some ⟨w.heap.size + 1, 0, none⟩) k k]) (by simp [results, Try.results57, go_sem, r0]) rfl ?_
      exact ⟨w.heap.size + 1, rfl, by omega, HA2.out.far (by simp) _, HB.out.setCell (Nat.le_refl _) _⟩
theorem mapPlus_any (A1 A2 : Option Addr) (n c1 c2 : Nat) (F G : Nat → Nat) (w : World) (hn : n ≤ 65536) (hs1 : Src w A1 n (iv (nv F))) (hs2 : Src w A2 n (iv (nv G))) (hF : ∀ i, i < n → F i < 4611686018427387904) (hG : ∀ i, i < n → G i < 4611686018427387904) :
    Calls Try.prog 35 #[.agg #[.slice A1 n c1], .agg #[.slice A2 n c2]] w (NewMap w n fun i => F i ^^^ G i) := by
  have HS1 := hide hs1
  have HS2 := hide hs2
  have HF := hide hF
  have HG := hide hG
  have hmf : ∀ (fn : Fn) (first cap : Array Value) (w : World), (Instr.makeFunc fn first cap).run Try.prog w = .ok (.func fn first cap) w := fun _ _ _ _ => rfl
  clear hs1 hs2 hF hG
  go_enter Try.func35, Try.ntmps35
  go_wp2_with fail
  refine (setMapOf_plus w.heap.size (w.heap.size + 1) n (fun i => F i ^^^ G i) _ hn (fun i wr hi hb => plusF_any _ _ n i A1 A2 c1 c2 F G wr hi ((hb.cell (p := ⟨w.heap.size, 0, none⟩) (by simp; omega)).trans (by simp [go_sem])) ((hb.cell (p := ⟨w.heap.size + 1, 0, none⟩) (by simp)).trans (by simp [go_sem])) ((((HS1.out.alloc _).alloc _).alloc _).below hb) ((((HS2.out.alloc _).alloc _).alloc _).below hb) (HF.out i hi) (HG.out i hi))).mono ?_
  rintro e w2 ⟨g, rfl, hlo, ha, hb⟩
  have HA := hide ha
  have HB := hide hb
  have hr := ((Blk.new ((w.alloc (.cells #[.slice A1 n c1] 50)).alloc (.cells #[.slice A2 n c2] 50)) 50 #[.slice none 0 0] (b := w.heap.size + 1 + 1) (by simp))).all hb
  have r0 : w2.cell? ⟨w.heap.size + 1 + 1, 0, none⟩ = some (.slice none 0 0) := hr.cell 0
  have z0 := hr.frozen 0
  have hl := hr.lt
  clear ha hb hr
  go_wp2
  refine bodyPost_ret (v := .agg #[.slice (some ⟨g, 0, none⟩) n n]) (by simp [results, Try.results35, go_sem, r0]) rfl ?_
  simp at hlo
  exact ⟨g, rfl, by omega, HA.out.far (by simp; omega) _, ((by go_grown : Below w.heap.size w _).trans (HB.out.mono (by simp; omega))).setCell (by simp; omega) _⟩
/-- What a call leaves that hands back a list of n > 0 numbers. -/
def NewList (w : World) (n : Nat) (S : Nat → Nat) (e : Ending) (w' : World) : Prop :=
  ∃ g, e = .returned (.slice (some ⟨g, 0, none⟩) n n) ∧ w.heap.size ≤ g ∧ Arr w' 3 g n (iv (nv S)) ∧ Below w.heap.size w w'
theorem mapList_any (A : Option Addr) (n c : Nat) (F : Nat → Nat) (w : World) (hn : n ≤ 65536) (hs : Src w A n (iv (nv F))) :
    Calls Try.prog 36 #[.agg #[.slice A n c]] w (NewList w n F) := by
  have hmk := run_make_row' (P := Try.prog) 22 3 (.int .i64 0) 8 Try.underlying22 int_info rfl .i64 .i64 n (by omega) (by omega)
  have HS := hide (hs.alloc (.cells #[.slice A n c] 50))
  clear hs
  go_enter Try.func36, Try.ntmps36
  go_wp2
  go_loopw [13] (fun i wr => ∃ k : Nat, k ≤ n ∧ i = .int .i64 k ∧ Arr wr 3 (w.heap.size + 1) n (fun j => if j < k then iv (nv F) j else .int .i64 0) ∧ Below (w.heap.size + 1) (w.alloc (.cells #[.slice A n c] 50)) wr) (fun i _ => n - (intOf i).toNat)
  case atStart => exact ⟨0, Nat.zero_le _, rfl, Arr.made_at (w.alloc _) _ n 3 (by simp) (fun k hk => by simp), by go_grown⟩
  case round =>
    obtain ⟨k, hk, rfl, ha, hb⟩ := hrel
    have HA := hide ha
    have HB := hide hb
    have hal := ha.lt
    by_cases hlt : k < n
    · obtain ⟨b, off, hA, hbl, hc0⟩ := HS.out k hlt
      have hbl2 : b < w.heap.size + 1 := by simpa using hbl
      have hc : wr.cell? ⟨b, off + k, none⟩ = some (.int .i64 (F k : Nat)) := (hb.cell (p := ⟨b, off + k, none⟩) hbl2).trans hc0
      have hw := ha.cell hlt
      have hz := ha.frozen k
      clear ha hb hc0 hbl hbl2
      subst hA
      go_wp2
      go_roundw
      case rel =>
        refine ⟨k + 1, by omega, by go_num, (HA.out.set k _).congr (fun j hj => ?_), HB.out.setCell (Nat.le_refl _) _⟩
        by_cases hjk : j = k
        · subst hjk; simp [iv, nv]
        · simp only [hjk, if_false]
          by_cases h2 : j < k
          · rw [if_pos h2, if_pos (by omega)]
          · rw [if_neg h2, if_neg (by omega)]
      case measure => simp [intOf]; omega
    · have hkn : k = n := by omega
      subst hkn
      clear ha hb
      go_wp2
      go_ret
      exact ⟨w.heap.size + 1, rfl, by omega, HA.out.congr (fun j hj => by simp [hj]), (by go_grown : Below w.heap.size w _).trans (HB.out.mono (by simp))⟩
end Go.Proofs.Ytdpoceijnbbmgaa
