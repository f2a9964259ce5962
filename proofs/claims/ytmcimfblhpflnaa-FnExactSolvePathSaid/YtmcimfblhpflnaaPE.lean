/-
The path as a graph, and what presses do to it: the model's side.
-/
import Derived.Test.YtmcimfblhpflnaaPS
import Derived.Test.YtmcimfblhpflnaaJ
import Derived.Test.YtmcimfblhpflnaaMB
namespace Go.Proofs.Ytmcimfblhpflnaa
open Go.RowKit
set_option maxHeartbeats 1000000
theorem pathF_lt (m : Nat) (hm : m < 16) : ∀ k, k < 16 → pathF m k < 65536 := by
  induction m with
  | zero => intro k _; simp [pathF]
  | succ m ih => exact lk_lt (by omega) hm (ih (by omega))
theorem grPath_any (n : Nat) (own : Bool) (w : World) (h1 : 1 ≤ n) (hn : n ≤ 16) :
    Calls Try.prog 36 #[.int .i64 n, .bool own] w (GraphVal w n (nv (pathF (n - 1))) own) := by
  have hmk := run_make_row' (P := Try.prog) 25 3 (.int .i64 0) 8 Try.underlying25 int_info rfl .i64 .i64 n (by omega) (by omega)
  go_enter Try.func36, Try.ntmps36
  go_wp2
  go_loopw [6] (fun i wr => ∃ k : Nat, 1 ≤ k ∧ k ≤ n ∧ i = .int .i64 k ∧ Arr wr 3 (w.heap.size + 1) n (iv (nv (pathF (k - 1)))) ∧ Arr wr 27 w.heap.size 2 (bx (.slice none 0 0) (.bool false)) ∧ Arr wr 27 (w.heap.size + 1 + 1) 2 (bx (.slice (some ⟨w.heap.size + 1, 0, none⟩) n n) (.bool own)) ∧ Below w.heap.size w wr)
    (fun i _ => n - (intOf i).toNat)
  case atStart => 
    refine ⟨1, Nat.le_refl _, h1, rfl, ?_, ?_, ?_, by go_grown⟩
    · exact (Arr.made_at (w.alloc _) _ n 3 (by simp) (fun k hk => rfl)).alloc _
    · exact ((Arr.box w 27 _ _).alloc _).alloc _
    · exact Arr.box_at ((w.alloc _).alloc _) 27 _ _ (by simp)
  case round =>
    obtain ⟨k, hk1, hk, rfl, ha, hr, hb, hw⟩ := hrel
    have c0 : wr.cell? ⟨w.heap.size + 1 + 1, 0, none⟩ = some (.slice (some ⟨w.heap.size + 1, 0, none⟩) n n) := hb.cell (by omega)
    have c1 : wr.cell? ⟨w.heap.size + 1 + 1, 1, none⟩ = some (.bool own) := hb.cell (by omega)
    by_cases hlt : k < n
    · have HA := hide ha
      have HR := hide hr
      have HB := hide hb
      have HW := hide hw
      clear ha hr hb hw
      go_wp2_with (go_at_call 29; refine (grAdd_at _ _ _ _ _ (k - 1) k _ _ _ hn (by omega) hlt (by omega) rfl (fun j hj => pathF_lt _ (by omega) j (by omega)) HA.out).mono ?_; rintro e w1 ⟨rfl, ha1, hg1⟩)
      have hz1 := hg1.size
      go_roundw
      case rel => 
        refine ⟨k + 1, by omega, by omega, by go_num, ?_, HR.out.grown hg1 (by omega), HB.out.grown hg1 (by omega), HW.out.grown hg1 HW.out.size (fun j hj => by injection hj; omega)⟩
        have e : pathF (k + 1 - 1) = lk (k - 1) k (pathF (k - 1)) := by
          obtain ⟨m, rfl⟩ : ∃ m, k = m + 1 := ⟨k - 1, by omega⟩
          rfl
        rw [e]; exact ha1
      case measure => simp [intOf]; omega
    · have r0 := hr.cell (k := 0) (by omega)
      have r1 := hr.cell (k := 1) (by omega)
      have z0 := hr.frozen 0
      have z1 := hr.frozen 1
      have HA := hide ha
      have HW := hide hw
      clear ha hr hb hw
      go_wp2
      refine bodyPost_ret (v := .agg #[.slice (some ⟨w.heap.size + 1, 0, none⟩) n n, .bool own]) (by simp [results, Try.results36, go_sem, r0, r1]) rfl ?_
      have hkn : k = n := by omega
      subst hkn
      have hsz := HW.out.size
      exact ⟨_, _, rfl, by omega, (HA.out.far (by simp) _).far (by simp) _, by have h := HW.out; go_grown⟩
theorem tog_lt {F : Nat → Nat} {own : Bool} {i : Nat} (hi : i < 16) (h : F i < 65536) : tog F own i < 65536 := by
  unfold tog
  split
  · exact or_lt16 h (pow_lt16 hi)
  · exact h
theorem grToggles_any (g n c : Nat) (F : Nat → Nat) (own : Bool) (i : Nat) (w : World) (hn : n ≤ 16) (hi : i < n) (hF : F i < 65536) (ha : Arr w 3 g n (iv (nv F))) :
    Calls Try.prog 40 #[.agg #[.slice (some ⟨g, 0, none⟩) n c, .bool own], .int .i64 i] w fun e w' => e = .returned (.int .i64 (tog F own i : Nat)) ∧ Below w.heap.size w w' := by
  have hgl := ha.lt
  have h1 : w.cell? ⟨g, i, none⟩ = some (.int .i64 (F i : Nat)) := ha.cell hi
  have e1 := or_wrap (F i) i hF (by omega)
  clear ha
  cases own
  · go_enter Try.func40, Try.ntmps40
    go_wp2
    go_ret
    exact ⟨rfl, by go_grown⟩
  · go_enter Try.func40, Try.ntmps40
    go_wp2
    go_region
    all_goals
      go_wp2
      go_ret
      exact ⟨rfl, by go_grown⟩
theorem grEffect_any (g n c : Nat) (F : Nat → Nat) (own : Bool) (p : Nat) (w : World) (hn : n ≤ 16) (hp : p < 65536) (hF : ∀ i, i < n → F i < 65536) (ha : Arr w 3 g n (iv (nv F))) :
    Calls Try.prog 38 #[.agg #[.slice (some ⟨g, 0, none⟩) n c, .bool own], .int .i64 p] w fun e w' => e = .returned (.int .i64 (effN (tog F own) p n : Nat)) ∧ Below w.heap.size w w' := by
  have hgl := ha.lt
  have HA := hide ha
  have HF := hide hF
  have HE : Hid (∀ k, k ≤ n → effN (tog F own) p k < 65536) := hide fun k hk => by
    have h : ∀ k, k ≤ n → effN (tog F own) p k < 2 ^ 16 := by
      intro k
      induction k with
      | zero => intro _; simp [effN]
      | succ k ih =>
        intro hk
        simp only [effN]
        split
        · exact Nat.xor_lt_two_pow (ih (by omega)) (tog_lt (by omega) (hF k (by omega)))
        · exact ih (by omega)
    exact h k hk
  clear ha hF
  go_enter Try.func38, Try.ntmps38
  go_wp2
  go_loopw [5, 10] (fun o i wr => ∃ k : Nat, k ≤ n ∧ i = .int .i64 k ∧ o = .int .i64 (effN (tog F own) p k : Nat) ∧ Arr wr 27 w.heap.size 2 (bx (.slice (some ⟨g, 0, none⟩) n c) (.bool own)) ∧ Below w.heap.size w wr) (fun _ i _ => n - (intOf i).toNat)
  case atStart => exact ⟨0, by omega, rfl, rfl, Arr.box w 27 _ _, by go_grown⟩
  case round =>
    obtain ⟨k, hk, rfl, rfl, hbx, hb⟩ := hrel
    have c0 : wr.cell? ⟨w.heap.size, 0, none⟩ = some (.slice (some ⟨g, 0, none⟩) n c) := hbx.cell (by omega)
    have c1 : wr.cell? ⟨w.heap.size, 1, none⟩ = some (.bool own) := hbx.cell (by omega)
    have HB := hide hb
    have HX := hide hbx
    clear hb hbx
    by_cases hlt : k < n
    · have he := HE.out k hk
      have ht := tog_lt (F := F) (own := own) (by omega : k < 16) (HF.out k hlt)
      have hx : bits .xor .i64 (effN (tog F own) p k : Nat) (tog F own k : Nat) = ((effN (tog F own) p k ^^^ tog F own k : Nat) : Int) := i64_xor_nat _ _ (by omega) (by omega)
      cases hbit : p.testBit k
      · go_wp2_with (first | (go_at_call 37; refine (grInG_any _ _ (by omega) (by omega) (by omega) _).mono ?_; rintro e w3 ⟨rfl, rfl⟩; simp only [Int.toNat_natCast, bt_nat, hbit]))
        go_roundw
        case rel => exact ⟨k + 1, by omega, by go_num, by simp [effN, hbit], HX.out, HB.out⟩
        case measure => simp [intOf]; omega
      · go_wp2_with (first | (go_at_call 37; refine (grInG_any _ _ (by omega) (by omega) (by omega) _).mono ?_; rintro e w3 ⟨rfl, rfl⟩; simp only [Int.toNat_natCast, bt_nat, hbit]) | (go_at_call 40; refine (grToggles_any _ _ _ F _ _ _ hn hlt (HF.out k hlt) (HA.out.below HB.out hgl)).mono ?_; rintro e w4 ⟨rfl, hb4⟩))
        go_roundw
        case rel => exact ⟨k + 1, by omega, by go_num, by simp [effN, hbit], HX.out.all hb4, HB.out.trans (hb4.mono HB.out.size)⟩
        case measure => simp [intOf]; omega
    · have hkn : k = n := by omega
      subst hkn
      go_wp2
      go_ret
      exact ⟨rfl, HB.out⟩
end Go.Proofs.Ytmcimfblhpflnaa
