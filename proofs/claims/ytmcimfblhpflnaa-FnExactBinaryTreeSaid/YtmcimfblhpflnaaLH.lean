import Derived.Test.YtmcimfblhpflnaaLG
namespace Go.Proofs.Ytmcimfblhpflnaa
open Go.RowKit
set_option maxHeartbeats 2000000
theorem lev_pow {l : Nat} (h : l ≤ 4) : RowKit.wrap64 (2 ^ l) = 2 ^ l := wrap_pow (by omega)
theorem lev_n {l n : Nat} (hl : l ≤ 4) (hn : 2 ^ l = n + 1) : RowKit.wrap64 (2 ^ l - 1) = (n : Int) := by
  have h := pow_nat l
  rw [hn] at h
  have h16 := pow_lt16 (show l < 16 by omega)
  rw [← h]
  exact (IntWalk.wrap64_in _ (by omega)).trans (by omega)
theorem binSpec_no (a : Int) (own : Bool) (w : World) (h : inB a 1 4 = false) : Calls Try.prog 23 #[.int .i64 a, .bool own] w (GraphNo w) := by
  go_enter Try.func23, Try.ntmps23
  go_wp2_with (go_at_call 27; refine (l1InG_any _ _ _ _).mono ?_; rintro e w' ⟨rfl, rfl⟩; rw [h])
  refine bodyPost_ret (v := .tuple #[.agg #[.slice none 0 0, .bool false], .bool false]) (by simp [results, Try.results23, go_sem]) rfl ?_
  exact ⟨rfl, by go_grown⟩
theorem binImpl_no (a : Int) (own : Bool) (w : World) (h : inB a 1 4 = false) : Calls Try.prog 24 #[.int .i64 a, .bool own] w (GraphNo w) := by
  have h2 : a < 1 ∨ (¬ a < 1 ∧ 4 < a) := by simp only [inB, decide_eq_false_iff_not] at h; omega
  clear h
  rcases h2 with h1 | ⟨h1, h2⟩
  all_goals
    go_enter Try.func24, Try.ntmps24
    go_wp2
    refine bodyPost_ret (v := .tuple #[.agg #[.slice none 0 0, .bool false], .bool false]) (by simp [results, Try.results24, go_sem]) rfl ?_
    exact ⟨rfl, by go_grown⟩
theorem binImpl_ok (l n : Nat) (hnn : 2 ^ l = n + 1) (own : Bool) (w : World) (h1 : 1 ≤ l) (h2 : l ≤ 4) (hc : inB n 1 16 = true) : Calls Try.prog 24 #[.int .i64 l, .bool own] w (GraphOk w n (nv (fpF binf n)) own) := by
  have e1 := lev_pow h2
  have e2 := lev_n h2 hnn
  go_enter Try.func24, Try.ntmps24
  go_wp2_with (simp only [e1, e2])
  refine (tree_bin _ _ _ hc).mono ?_
  rintro e w1 ⟨g, cp, rfl, hg, ha, hb⟩
  simp only [World.size_alloc] at hg
  obtain ⟨hc, hf⟩ := bcell hb
  have hz := hb.size
  simp only [World.size_alloc] at hc hf hz
  have HA := hide ha
  have HB := hide (hb.mono (show w.heap.size ≤ _ by simp))
  clear ha hb
  go_wp2
  refine bodyPost_ret (v := .tuple #[.agg #[.slice (some ⟨g, 0, none⟩) n cp, .bool own], .bool true]) (by simp [results, Try.results24, go_sem, hc]) rfl ?_
  exact ⟨g, cp, rfl, by omega, (HA.out.far (by simp; omega) _).far (by simp; omega) _, by have h := (by go_grown : Below w.heap.size w _).trans HB.out; go_grown⟩
theorem binSpec_ok (l n : Nat) (hnn : 2 ^ l = n + 1) (own : Bool) (w : World) (h1 : 1 ≤ l) (h2 : l ≤ 4) (hc : inB n 1 16 = true) : Calls Try.prog 23 #[.int .i64 l, .bool own] w (GraphOk w n (nv (fpF binf n)) own) := by
  have hn : n ≤ 16 := by simp only [inB, decide_eq_true_eq] at hc; omega
  have hn1 : 1 ≤ n := by simp only [inB, decide_eq_true_eq] at hc; omega
  have h : inB (l : Int) 1 4 = true := by simp only [inB, decide_eq_true_eq]; omega
  have e1 := lev_pow h2
  have e2 := lev_n h2 hnn
  have hmk := run_make_row' (P := Try.prog) 25 3 (.int .i64 0) 8 Try.underlying25 int_info rfl .i64 .i64 n (by omega) (by omega)
  go_enter Try.func23, Try.ntmps23
  go_wp2_with (first | (go_at_call 27; refine (l1InG_any _ _ _ _).mono ?_; rintro e w' ⟨rfl, rfl⟩; rw [h]) | (simp only [e1, e2]))
  go_loopw [8] (fun i wr => ∃ k : Nat, 1 ≤ k ∧ k ≤ n ∧ i = .int .i64 k ∧ Arr wr 3 (w.heap.size + 1) n (iv (nv (fpF binf k))) ∧ Arr wr 27 w.heap.size 2 (bx (.slice none 0 0) (.bool false)) ∧ Arr wr 27 (w.heap.size + 1 + 1) 2 (bx (.slice (some ⟨w.heap.size + 1, 0, none⟩) n n) (.bool own)) ∧ Below w.heap.size w wr)
    (fun i _ => n - (intOf i).toNat)
  case atStart =>
    refine ⟨1, Nat.le_refl _, hn1, rfl, ?_, ?_, ?_, by go_grown⟩
    · exact (Arr.made_at (w.alloc _) _ n 3 (by simp) (fun k hk => rfl)).alloc _
    · exact ((Arr.box w 27 _ _).alloc _).alloc _
    · exact Arr.box_at ((w.alloc _).alloc _) 27 _ _ (by simp)
  case round =>
    obtain ⟨k, hk1, hk, rfl, ha, hr, hb, hw⟩ := hrel
    have c0 : wr.cell? ⟨w.heap.size + 1 + 1, 0, none⟩ = some (.slice (some ⟨w.heap.size + 1, 0, none⟩) n n) := hb.cell (by omega)
    have c1 : wr.cell? ⟨w.heap.size + 1 + 1, 1, none⟩ = some (.bool own) := hb.cell (by omega)
    by_cases hlt : k < n
    · have HA := hide ha
      have HR := hide hr
      have HB := hide hb
      have HW := hide hw
      clear ha hr hb hw
      go_wp2_with (go_at_call 29; refine (grAdd_at _ _ _ _ _ ((k - 1) / 2) k _ _ _ hn (by omega) hlt (by first | omega | (rw [Int.tdiv_eq_ediv_of_nonneg (by omega)]; omega) | (simp; omega)) rfl (binF_lt n k hn (by omega)) HA.out).mono ?_; rintro e w1 ⟨rfl, ha1, hg1⟩)
      have hz1 := hg1.size
      go_roundw
      case rel =>
        refine ⟨k + 1, by omega, by omega, by go_num, ?_, HR.out.grown hg1 (by omega), HB.out.grown hg1 (by omega), HW.out.grown hg1 HW.out.size (fun j hj => by injection hj; omega)⟩
        rw [binF_succ k hk1]; exact ha1
      case measure => simp [intOf]; omega
    · have r0 := hr.cell (k := 0) (by omega)
      have r1 := hr.cell (k := 1) (by omega)
      have z0 := hr.frozen 0
      have z1 := hr.frozen 1
      have HA := hide ha
      have HW := hide hw
      have hkn : k = n := by omega
      clear ha hr hb hw
      go_wp2
      refine bodyPost_ret (v := .tuple #[.agg #[.slice (some ⟨w.heap.size + 1, 0, none⟩) n n, .bool own], .bool true]) (by simp [results, Try.results23, go_sem, r0, r1]) rfl ?_
      subst hkn
      have hsz := HW.out.size
      exact ⟨_, _, rfl, by omega, (HA.out.far (by simp) _).far (by simp) _, by have h := HW.out; go_grown⟩
theorem lawBinary (a : Int) (own : Bool) (w : World) : Calls Try.prog 7 #[.int .i64 a, .bool own] w fun e w' => e = .returned (.bool true) ∧ Below w.heap.size w w' := by
  cases h : inB a 1 4
  · exact lawBinary_no a own w (fun w => binSpec_no a own w h) (fun w => binImpl_no a own w h)
  · obtain ⟨l, rfl⟩ : ∃ n : Nat, a = n := ⟨a.toNat, by simp only [inB, decide_eq_true_eq] at h; omega⟩
    have h1 : 1 ≤ l := by simp only [inB, decide_eq_true_eq] at h; omega
    have h2 : l ≤ 4 := by simp only [inB, decide_eq_true_eq] at h; omega
    have hp1 : 2 ^ 1 ≤ 2 ^ l := Nat.pow_le_pow_right (by decide) h1
    have hp2 : 2 ^ l ≤ 2 ^ 4 := Nat.pow_le_pow_right (by decide) h2
    obtain ⟨n, hn⟩ : ∃ n, 2 ^ l = n + 1 := ⟨2 ^ l - 1, by omega⟩
    have hc : inB (n : Int) 1 16 = true := by simp only [inB, decide_eq_true_eq]; omega
    exact lawBinary_ok l own n _ own w (by omega) (fun w => binSpec_ok l n hn own w h1 h2 hc) (fun w => binImpl_ok l n hn own w h1 h2 hc)
end Go.Proofs.Ytmcimfblhpflnaa
