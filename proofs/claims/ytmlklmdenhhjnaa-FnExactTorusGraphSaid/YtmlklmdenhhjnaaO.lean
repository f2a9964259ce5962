import Derived.Test.YtmlklmdenhhjnaaL
namespace Go.Proofs.Ytmlklmdenhhjnaa
open Go.RowKit
set_option maxHeartbeats 400000
theorem placesF_lt (c n p : Nat) (hn : n ≤ 16) (hc : 1 ≤ c) (hd : ∃ r, n = r * c) (hp : p ≤ n) : ∀ k, k < n → placesF c n p k < 65536 := by
  induction p with
  | zero => intro k _; simp [placesF]
  | succ p ih =>
    have h1 := ih (by omega)
    have h2 : ∀ k, k < n → rightF c p (placesF c n p) k < 65536 := by
      unfold rightF
      split
      · exact h1
      · refine lk_lt (by omega) ?_ h1
        by_cases hpn : p + 1 < n
        · omega
        · exfalso
          obtain ⟨r, rfl⟩ := hd
          rename_i hne
          apply hne
          have hpe : p + 1 = r * c := by omega
          have h3 : (p + 1) % c = 0 := by rw [hpe]; exact Nat.mul_mod_left r c
          have h4 := Nat.mod_lt p (show c > 0 by omega)
          have h5 := Nat.div_add_mod p c
          rcases Nat.lt_or_ge (p % c) (c - 1) with h | h
          · have : (p + 1) % c = p % c + 1 := by
              have e : p + 1 = c * (p / c) + (p % c + 1) := by omega
              rw [e, Nat.mul_add_mod, Nat.mod_eq_of_lt (by omega)]
            omega
          · omega
    show ∀ k, k < n → placeF c n p (placesF c n p) k < 65536
    unfold placeF
    split
    · exact lk_lt (by omega) (by omega) h2
    · exact h2
theorem place_next {c n p r : Nat} (hc : 1 ≤ c) (hn : n = r * c) (hp : p < n) (hne : ¬ p % c = c - 1) : p + 1 < n := by
  by_cases hpn : p + 1 < n
  · exact hpn
  · exfalso
    subst hn
    apply hne
    have hpe : p + 1 = r * c := by omega
    have h3 : (p + 1) % c = 0 := by rw [hpe]; exact Nat.mul_mod_left r c
    have h4 := Nat.mod_lt p (show c > 0 by omega)
    have h5 := Nat.div_add_mod p c
    rcases Nat.lt_or_ge (p % c) (c - 1) with h | h
    · have : (p + 1) % c = p % c + 1 := by
        have e : p + 1 = c * (p / c) + (p % c + 1) := by omega
        rw [e, Nat.mul_add_mod, Nat.mod_eq_of_lt (by omega)]
      omega
    · omega

theorem gridImpl_no (r c : Int) (own : Bool) (w : World) (h : sidesB r c 1 = false) : Calls Try.prog 46 #[.int .i64 r, .int .i64 c, .bool own] w (GraphNo w) := by
  go_enter Try.func46, Try.ntmps46
  go_wp2_with (go_at_call 85; refine (isGrid_any _ _ _).mono ?_; rintro e w' ⟨rfl, rfl⟩)
  refine bodyPost_ret (v := .tuple #[.agg #[.slice none 0 0, .bool false], .bool false]) (by simp [results, Try.results46, go_sem]) rfl ?_
  exact ⟨rfl, by go_grown⟩

theorem gridImpl_ok (r c n : Nat) (own : Bool) (w : World) (hrn : n = r * c) (h1 : 1 ≤ r) (h2 : 1 ≤ c) (h3 : n ≤ 16) : Calls Try.prog 46 #[.int .i64 r, .int .i64 c, .bool own] w (GraphOk w n (nv (placesF c n n)) own) := by
  have hr16 : r ≤ n := by rw [hrn]; exact Nat.le_mul_of_pos_right r (by omega)
  have hc16 : c ≤ n := by rw [hrn]; exact Nat.le_mul_of_pos_left c (by omega)
  have hmk := run_make_row' (P := Try.prog) 22 3 (.int .i64 0) 8 Try.underlying22 int_info rfl .i64 .i64 n (by omega) (by omega)
  have hrc : (r : Int) * (c : Int) = (n : Int) := by rw [hrn]; exact (Int.natCast_mul r c).symm
  have hs : sidesB r c 1 = true := by
    simp only [sidesB, decide_eq_true_eq, hrc]
    omega
  have HN := hide hrn
  clear hrn
  go_enter Try.func46, Try.ntmps46
  go_wp2_with (go_at_call 85; refine (isGrid_any _ _ _).mono ?_; rintro e w' ⟨rfl, rfl⟩)
  go_loopw [21] (fun i wr => ∃ k : Nat, k ≤ n ∧ i = .int .i64 k ∧ Arr wr 3 (w.heap.size + 1) n (iv (nv (placesF c n k))) ∧ Arr wr 27 w.heap.size 2 (bx (.slice none 0 0) (.bool false)) ∧ Below w.heap.size w wr)
    (fun i _ => n - (intOf i).toNat)
  case atStart => 
    refine ⟨0, by omega, rfl, ?_, ?_, by go_grown⟩
    · exact Arr.made_at (w.alloc _) _ n 3 (by simp) (fun k hk => rfl)
    · exact (Arr.box w 27 _ _).alloc _
  case round =>
    obtain ⟨k, hk, rfl, ha, hr, hw⟩ := hrel
    by_cases hlt : k < n
    · obtain ⟨q, hq⟩ : ∃ q, k % c = q := ⟨_, rfl⟩
      have hkc : (k : Int) % (c : Int) = (q : Int) := by rw [← hq]; exact (Int.natCast_emod k c).symm
      have hkl := Nat.mod_lt k (show c > 0 by omega)
      rw [hq] at hkl
      have HQ := hide hq
      clear hq
      have HA := hide ha
      have HR := hide hr
      have HW := hide hw
      clear ha hr hw
      have hF : ∀ k, k ≤ n → ∀ j, j < n → placesF c n k j < 65536 := fun k hk => placesF_lt c n k h3 h2 ⟨r, HN.out⟩ hk
      have HF := hide hF
      clear hF
      by_cases hm : q = c - 1
      · have hmz : ((q : Int) == (c : Int) - 1) = true := by rw [beq_iff_eq]; omega
        have er : rightF c k (placesF c n k) = placesF c n k := by rw [rightF, if_pos (HQ.out.trans hm)]
        have HM := hide hm
        have HE := hide er
        clear hm er
        by_cases hd : k + c < n
        · go_wp2_with fail
          refine (link_at _ _ _ _ k (k + c) _ _ _ h3 hlt hd rfl (by simp) (HF.out k (by omega)) HA.out).mono ?_
          rintro e w1 ⟨rfl, ha1, hg1⟩
          have hz1 := hg1.size
          go_wp2
          go_roundw
          case rel =>
            refine ⟨k + 1, by omega, by go_num, ?_, HR.out.grown hg1 (by omega), HW.out.grown hg1 HW.out.size (fun j hj => by injection hj; omega)⟩
            have e : placesF c n (k + 1) = lk k (k + c) (placesF c n k) := by
              show placeF c n k (placesF c n k) = _
              rw [placeF, if_pos hd, HE.out]
            rw [e]; exact ha1
          case measure => simp [intOf]; omega
        · go_wp2
          go_roundw
          case rel =>
            refine ⟨k + 1, by omega, by go_num, ?_, HR.out, HW.out⟩
            have e : placesF c n (k + 1) = placesF c n k := by
              show placeF c n k (placesF c n k) = _
              rw [placeF, if_neg hd, HE.out]
            rw [e]; exact HA.out
          case measure => simp [intOf]; omega
      · have hmz : ((q : Int) == (c : Int) - 1) = false := by rw [beq_eq_false_iff_ne]; omega
        have hnx := place_next h2 HN.out hlt (by rw [HQ.out]; exact hm)
        have er : rightF c k (placesF c n k) = lk k (k + 1) (placesF c n k) := by rw [rightF, if_neg (by rw [HQ.out]; exact hm)]
        have HM := hide hm
        have HE := hide er
        clear hm er
        have HF1 : Hid (∀ j, j < n → lk k (k + 1) (placesF c n k) j < 65536) := hide (lk_lt (by omega) (by omega) (HF.out k (by omega)))
        by_cases hd : k + c < n
        · go_wp2_with fail
          refine (link_at _ _ _ _ k (k + 1) _ _ _ h3 hlt hnx rfl (by simp) (HF.out k (by omega)) HA.out).mono ?_
          rintro e w1 ⟨rfl, ha1, hg1⟩
          have HA1 := hide ha1
          have HG1 := hide hg1
          have hz1 := hg1.size
          clear ha1 hg1
          go_wp2_with fail
          refine (link_at _ _ _ _ k (k + c) _ _ _ h3 hlt hd rfl (by simp) HF1.out HA1.out).mono ?_
          rintro e w2 ⟨rfl, ha2, hg2⟩
          have hg12 := grownBy_trans HG1.out hg2
          have hz2 := hg12.size
          clear hg2
          go_wp2
          go_roundw
          case rel =>
            refine ⟨k + 1, by omega, by go_num, ?_, HR.out.grown hg12 (by omega), HW.out.grown hg12 HW.out.size (fun j hj => by injection hj; omega)⟩
            have e : placesF c n (k + 1) = lk k (k + c) (lk k (k + 1) (placesF c n k)) := by
              show placeF c n k (placesF c n k) = _
              rw [placeF, if_pos hd, HE.out]
            rw [e]; exact ha2
          case measure => simp [intOf]; omega
        · go_wp2_with fail
          refine (link_at _ _ _ _ k (k + 1) _ _ _ h3 hlt hnx rfl (by simp) (HF.out k (by omega)) HA.out).mono ?_
          rintro e w1 ⟨rfl, ha1, hg1⟩
          have hz1 := hg1.size
          go_wp2
          go_roundw
          case rel =>
            refine ⟨k + 1, by omega, by go_num, ?_, HR.out.grown hg1 (by omega), HW.out.grown hg1 HW.out.size (fun j hj => by injection hj; omega)⟩
            have e : placesF c n (k + 1) = lk k (k + 1) (placesF c n k) := by
              show placeF c n k (placesF c n k) = _
              rw [placeF, if_neg hd, HE.out]
            rw [e]; exact ha1
          case measure => simp [intOf]; omega
    · have r0 := hr.cell (k := 0) (by omega)
      have r1 := hr.cell (k := 1) (by omega)
      have z0 := hr.frozen 0
      have z1 := hr.frozen 1
      have HA := hide ha
      have HW := hide hw
      clear ha hr hw
      go_wp2
      refine bodyPost_ret (v := .tuple #[.agg #[.slice (some ⟨w.heap.size + 1, 0, none⟩) n n, .bool own], .bool true]) (by simp [results, Try.results46, go_sem, r0, r1]) rfl ?_
      have hkn : k = n := by omega
      subst hkn
      have hsz := HW.out.size
      exact ⟨_, _, rfl, by omega, (HA.out.far (by simp) _).far (by simp) _, by have h := HW.out; go_grown⟩
theorem gridImpl_at (r c n : Nat) (a b : Int) (own : Bool) (w : World) (ea : a = (r : Int)) (eb : b = (c : Int)) (hrn : n = r * c) (h1 : 1 ≤ r) (h2 : 1 ≤ c) (h3 : n ≤ 16) : Calls Try.prog 46 #[.int .i64 a, .int .i64 b, .bool own] w (GraphOk w n (nv (placesF c n n)) own) := by
  subst ea eb; exact gridImpl_ok r c n own w hrn h1 h2 h3
end Go.Proofs.Ytmlklmdenhhjnaa
