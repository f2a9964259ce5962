import Derived.Test.YtmlklmdenhhjnaaR
namespace Go.Proofs.Ytmlklmdenhhjnaa
open Go.RowKit
set_option maxHeartbeats 400000
theorem endsF_lt {c r n : Nat} {F : Nat → Nat} (hn : n ≤ 16) (hF : ∀ j, j < n → F j < 65536) : ∀ k, c * (r - 1) + k ≤ n → ∀ j, j < n → endsF c r k F j < 65536 := by
  intro k
  induction k with
  | zero => intro _; exact hF
  | succ k ih => intro hk; exact lk_lt (by omega) (by omega) (ih (by omega))
theorem sidesF_lt {c n : Nat} {F : Nat → Nat} (hn : n ≤ 16) (hc : 1 ≤ c) (hF : ∀ j, j < n → F j < 65536) : ∀ k, c * k ≤ n → ∀ j, j < n → sidesF c k F j < 65536 := by
  intro k
  induction k with
  | zero => intro _; exact hF
  | succ k ih => intro hk; rw [Nat.mul_succ] at hk; exact lk_lt (by omega) (by omega) (ih (by omega))
theorem torusSpec_no (r c : Int) (own : Bool) (w : World) (h : sidesB r c 3 = false) : Calls Try.prog 47 #[.int .i64 r, .int .i64 c, .bool own] w (GraphNo w) := by
  go_enter Try.func47, Try.ntmps47
  go_wp2_with (go_at_call 83; refine (grSides_any _ _ _ _ (by omega)).mono ?_; rintro e w' ⟨rfl, rfl⟩)
  refine bodyPost_ret (v := .tuple #[.agg #[.slice none 0 0, .bool false], .bool false]) (by simp [results, Try.results47, go_sem]) rfl ?_
  exact ⟨rfl, by go_grown⟩
theorem torusSpec_ok (r c n : Nat) (own : Bool) (w : World) (hrn : n = r * c) (h1 : 3 ≤ r) (h2 : 3 ≤ c) (h3 : n ≤ 16) : Calls Try.prog 47 #[.int .i64 r, .int .i64 c, .bool own] w (GraphOk w n (nv (sidesF c r (endsF c r c (gridF c r)))) own) := by
  have hr16 : r ≤ n := by rw [hrn]; exact Nat.le_mul_of_pos_right r (by omega)
  have hc16 : c ≤ n := by rw [hrn]; exact Nat.le_mul_of_pos_left c (by omega)
  have hrc : (r : Int) * (c : Int) = (n : Int) := by rw [hrn]; exact (Int.natCast_mul r c).symm
  have hs : sidesB r c 3 = true := by
    simp only [sidesB, decide_eq_true_eq, hrc]
    omega
  have hgl0 : Hid (∀ j, j < n → gridF c r j < 65536) := hide (gridF_lt h3 r (by rw [hrn, Nat.mul_comm]; exact Nat.le_refl _))
  obtain ⟨q, hq⟩ : ∃ q, c * (r - 1) = q := ⟨_, rfl⟩
  have hqc : (c : Int) * ((r : Int) - 1) = (q : Int) := by rw [← hq, Int.natCast_mul]; congr 1; omega
  have hqn : q + c ≤ n := by
    rw [hrn, ← hq]
    obtain ⟨t, rfl⟩ : ∃ t, r = t + 1 := ⟨r - 1, by omega⟩
    rw [Nat.mul_comm (t + 1) c, Nat.mul_succ]
    exact Nat.le_refl _
  have HQ := hide hq
  have HN := hide hrn
  clear hq hrn
  go_enter Try.func47, Try.ntmps47
  go_wp2_with fail
  refine (grSides_any _ _ _ _ (by omega)).mono ?_
  rintro e w' ⟨rfl, rfl⟩
  go_wp2_with fail
  refine (grGrid_ok r c n own _ HN.out (by omega) (by omega) h3).mono ?_
  rintro e w1 ⟨g, cp, rfl, hg, ha, hb⟩
  simp only [World.size_alloc] at hg
  have hgl := ha.lt
  have hz := hb.size
  simp only [World.size_alloc] at hz
  have hl : w.heap.size < w1.heap.size := by omega
  have HA := hide ha
  have HR := hide ((Arr.box w 27 _ _).all hb)
  have HW := hide ((by go_grown : Below w.heap.size w _).trans (hb.mono (show w.heap.size ≤ _ by simp)))
  clear ha hb
  go_wp2
  go_loopw [9] (fun i wr => ∃ k : Nat, k ≤ c ∧ i = .int .i64 k ∧ Arr wr 3 g n (iv (nv (endsF c r k (gridF c r)))) ∧ Arr wr 27 w.heap.size 2 (bx (.slice none 0 0) (.bool false)) ∧ Arr wr 27 w1.heap.size 2 (bx (.slice (some ⟨g, 0, none⟩) n cp) (.bool own)) ∧ Below w.heap.size w wr)
    (fun i _ => c - (intOf i).toNat)
  case atStart => exact ⟨0, by omega, rfl, HA.out.alloc _, HR.out.alloc _, Arr.box w1 27 _ _, by have h := HW.out; go_grown⟩
  case round =>
    obtain ⟨k, hk, rfl, ha, hr, hb, hw⟩ := hrel
    have c0 : wr.cell? ⟨w1.heap.size, 0, none⟩ = some (.slice (some ⟨g, 0, none⟩) n cp) := hb.cell (by omega)
    have c1 : wr.cell? ⟨w1.heap.size, 1, none⟩ = some (.bool own) := hb.cell (by omega)
    have HA2 := hide ha
    have HR2 := hide hr
    have HB2 := hide hb
    have HW2 := hide hw
    clear ha hr hb hw
    by_cases hlt : k < c
    · go_wp2_with fail
      refine (grAdd_at _ _ _ _ _ k (q + k) _ _ _ h3 (by omega) (by omega) rfl (by simp) (endsF_lt h3 hgl0.out k (by rw [HQ.out]; omega)) HA2.out).mono ?_
      rintro e w2 ⟨rfl, ha2, hg2⟩
      have hz2 := hg2.size
      go_wp2
      go_roundw
      case rel =>
        refine ⟨k + 1, by omega, by go_num, ?_, HR2.out.grown hg2 (by omega), HB2.out.grown hg2 (by omega), HW2.out.grown hg2 HW2.out.size (fun j hj => by injection hj; omega)⟩
        have e : endsF c r (k + 1) (gridF c r) = lk k (q + k) (endsF c r k (gridF c r)) := by
          show lk k (c * (r - 1) + k) _ = _
          rw [HQ.out]
        rw [e]; exact ha2
      case measure => simp [intOf]; omega
    · have hkc : k = c := by omega
      subst hkc
      have HF : Hid (∀ j, j < n → endsF k r k (gridF k r) j < 65536) := hide (endsF_lt h3 hgl0.out k (by rw [HQ.out]; omega))
      obtain ⟨wo, rfl⟩ : ∃ wo : World, wo = wr := ⟨_, rfl⟩
      clear c0 c1
      go_wp2
      go_loopw [10] (fun i wr => ∃ m : Nat, m ≤ r ∧ i = .int .i64 m ∧ Arr wr 3 g n (iv (nv (sidesF k m (endsF k r k (gridF k r))))) ∧ Arr wr 27 w.heap.size 2 (bx (.slice none 0 0) (.bool false)) ∧ Arr wr 27 w1.heap.size 2 (bx (.slice (some ⟨g, 0, none⟩) n cp) (.bool own)) ∧ Below w.heap.size w wr)
        (fun i _ => r - (intOf i).toNat)
      case atStart => exact ⟨0, by omega, rfl, HA2.out, HR2.out, HB2.out, HW2.out⟩
      case round =>
        obtain ⟨m, hm, rfl, ha, hr, hb, hw⟩ := hrel
        have c0 : wr.cell? ⟨w1.heap.size, 0, none⟩ = some (.slice (some ⟨g, 0, none⟩) n cp) := hb.cell (by omega)
        have c1 : wr.cell? ⟨w1.heap.size, 1, none⟩ = some (.bool own) := hb.cell (by omega)
        by_cases hltm : m < r
        · obtain ⟨p, hp⟩ : ∃ p, k * m = p := ⟨_, rfl⟩
          have hpc : (k : Int) * (m : Int) = (p : Int) := by rw [← hp]; exact (Int.natCast_mul k m).symm
          have hpn : p + k ≤ n := by
            rw [HN.out, ← hp]
            have := Nat.mul_le_mul_right k (show m + 1 ≤ r by omega)
            rw [Nat.succ_mul] at this
            rw [Nat.mul_comm k m]; omega
          have HP := hide hp
          clear hp
          have HA3 := hide ha
          have HR3 := hide hr
          have HB3 := hide hb
          have HW3 := hide hw
          clear ha hr hb hw
          go_wp2_with fail
          refine (grAdd_at _ _ _ _ _ p (p + k - 1) _ _ _ h3 (by omega) (by omega) rfl (by omega) (sidesF_lt h3 (by omega) HF.out m (by rw [HP.out]; omega)) HA3.out).mono ?_
          rintro e w2 ⟨rfl, ha2, hg2⟩
          have hz2 := hg2.size
          go_wp2
          go_roundw
          case rel =>
            refine ⟨m + 1, by omega, by go_num, ?_, HR3.out.grown hg2 (by omega), HB3.out.grown hg2 (by omega), HW3.out.grown hg2 HW3.out.size (fun j hj => by injection hj; omega)⟩
            have e : sidesF k (m + 1) (endsF k r k (gridF k r)) = lk p (p + k - 1) (sidesF k m (endsF k r k (gridF k r))) := by
              show lk (k * m) (k * m + k - 1) _ = _
              rw [HP.out]
            rw [e]; exact ha2
          case measure => simp [intOf]; omega
        · have hmr : m = r := by omega
          subst hmr
          have r0 := hr.cell (k := 0) (by omega)
          have r1 := hr.cell (k := 1) (by omega)
          have z0 := hr.frozen 0
          have z1 := hr.frozen 1
          have HA3 := hide ha
          have HW3 := hide hw
          clear ha hr hb hw
          go_wp2
          refine bodyPost_ret (v := .tuple #[.agg #[.slice (some ⟨g, 0, none⟩) n cp, .bool own], .bool true]) (by simp [results, Try.results47, go_sem, r0, r1]) rfl ?_
          have hsz := HW3.out.size
          exact ⟨g, cp, rfl, by omega, (HA3.out.far (by simp; omega) _).far (by simp; omega) _, by have h := HW3.out; go_grown⟩
theorem torusImpl_no (r c : Int) (own : Bool) (w : World) (h : sidesB r c 3 = false) : Calls Try.prog 48 #[.int .i64 r, .int .i64 c, .bool own] w (GraphNo w) := by
  cases h1 : sidesB r c 1
  · go_enter Try.func48, Try.ntmps48
    go_wp2_with fail
    refine (gridImpl_no _ _ _ _ h1).mono ?_
    rintro e w1 ⟨rfl, hb⟩
    have hr2 := (Arr.box w 27 _ _).all hb
    have hz := hb.size
    simp only [World.size_alloc] at hz
    have hl : w.heap.size < w1.heap.size := by omega
    have r0 := hr2.cell (k := 0) (by omega)
    have r1 := hr2.cell (k := 1) (by omega)
    have z0 := hr2.frozen 0
    have z1 := hr2.frozen 1
    have HB := hide ((by go_grown : Below w.heap.size w _).trans (hb.mono (show w.heap.size ≤ _ by simp)))
    clear hb hr2
    go_wp2
    refine bodyPost_ret (v := .tuple #[.agg #[.slice none 0 0, .bool false], .bool false]) (by simp [results, Try.results48, go_sem, r0, r1, hl]) rfl ?_
    exact ⟨rfl, by have h := HB.out; go_grown⟩
  · simp only [sidesB, decide_eq_true_eq, decide_eq_false_iff_not] at h1 h
    obtain ⟨R, rfl⟩ : ∃ n : Nat, r = n := ⟨r.toNat, by omega⟩
    obtain ⟨C, rfl⟩ : ∃ n : Nat, c = n := ⟨c.toNat, by omega⟩
    have h16 : R * C ≤ 16 := by
      have := h1.2.2.2.2
      rw [← Int.natCast_mul] at this
      omega
    have hlt : R < 3 ∨ (3 ≤ R ∧ C < 3) := by
      rcases Nat.lt_or_ge R 3 with h3 | h3
      · exact .inl h3
      · refine .inr ⟨h3, ?_⟩
        rcases Nat.lt_or_ge C 3 with h4 | h4
        · exact h4
        · exact absurd ⟨by omega, h1.2.1, by omega, h1.2.2.2.1, h1.2.2.2.2⟩ h
    have hR1 : 1 ≤ R := by omega
    have hC1 : 1 ≤ C := by omega
    clear h h1
    rcases hlt with hlt | ⟨hge, hlt⟩
    all_goals
      go_enter Try.func48, Try.ntmps48
      go_wp2_with fail
      refine (gridImpl_ok R C (R * C) own _ rfl hR1 hC1 h16).mono ?_
      rintro e w1 ⟨g, cp, rfl, hg, ha, hb⟩
      have hr2 := (Arr.box w 27 _ _).all hb
      have hz := hb.size
      simp only [World.size_alloc] at hz
      have hl : w.heap.size < w1.heap.size := by omega
      have r0 := hr2.cell (k := 0) (by omega)
      have r1 := hr2.cell (k := 1) (by omega)
      have z0 := hr2.frozen 0
      have z1 := hr2.frozen 1
      have HB := hide ((by go_grown : Below w.heap.size w _).trans (hb.mono (show w.heap.size ≤ _ by simp)))
      clear hb hr2 ha hg
      go_wp2
      refine bodyPost_ret (v := .tuple #[.agg #[.slice none 0 0, .bool false], .bool false]) (by simp [results, Try.results48, go_sem, r0, r1, hl]) rfl ?_
      exact ⟨rfl, by have h := HB.out; go_grown⟩
theorem torusImpl_ok (r c n : Nat) (own : Bool) (w : World) (hrn : n = r * c) (h1 : 3 ≤ r) (h2 : 3 ≤ c) (h3 : n ≤ 16) : Calls Try.prog 48 #[.int .i64 r, .int .i64 c, .bool own] w (GraphOk w n (nv (endsF c r c (sidesF c r (placesF c n n)))) own) := by
  have hr16 : r ≤ n := by rw [hrn]; exact Nat.le_mul_of_pos_right r (by omega)
  have hc16 : c ≤ n := by rw [hrn]; exact Nat.le_mul_of_pos_left c (by omega)
  have hgl0 : Hid (∀ j, j < n → placesF c n n j < 65536) := hide (placesF_lt c n n h3 (by omega) ⟨r, hrn⟩ (Nat.le_refl _))
  obtain ⟨q, hq⟩ : ∃ q, c * (r - 1) = q := ⟨_, rfl⟩
  have hqc : ((r : Int) - 1) * (c : Int) = (q : Int) := by rw [Int.mul_comm, ← hq, Int.natCast_mul]; congr 1; omega
  have hqn : q + c ≤ n := by
    rw [hrn, ← hq]
    obtain ⟨t, rfl⟩ : ∃ t, r = t + 1 := ⟨r - 1, by omega⟩
    rw [Nat.mul_comm (t + 1) c, Nat.mul_succ]
    exact Nat.le_refl _
  have HQ := hide hq
  have HN := hide hrn
  clear hq hrn
  go_enter Try.func48, Try.ntmps48
  go_wp2_with fail
  refine (gridImpl_ok r c n own _ HN.out (by omega) (by omega) h3).mono ?_
  rintro e w1 ⟨g, cp, rfl, hg, ha, hb⟩
  simp only [World.size_alloc] at hg
  have hgl := ha.lt
  have hz := hb.size
  simp only [World.size_alloc] at hz
  have hl : w.heap.size < w1.heap.size := by omega
  have HA := hide ha
  have HR := hide ((Arr.box w 27 _ _).all hb)
  have HW := hide ((by go_grown : Below w.heap.size w _).trans (hb.mono (show w.heap.size ≤ _ by simp)))
  clear ha hb
  go_wp2
  go_loopw [31] (fun i wr => ∃ k : Nat, k ≤ r ∧ i = .int .i64 k ∧ Arr wr 3 g n (iv (nv (sidesF c k (placesF c n n)))) ∧ Arr wr 27 w.heap.size 2 (bx (.slice none 0 0) (.bool false)) ∧ Arr wr 27 w1.heap.size 2 (bx (.slice (some ⟨g, 0, none⟩) n cp) (.bool own)) ∧ Below w.heap.size w wr)
    (fun i _ => r - (intOf i).toNat)
  case atStart => exact ⟨0, by omega, rfl, HA.out.alloc _, HR.out.alloc _, Arr.box w1 27 _ _, by have h := HW.out; go_grown⟩
  case round =>
    obtain ⟨k, hk, rfl, ha, hr, hb, hw⟩ := hrel
    have c0 : wr.cell? ⟨w1.heap.size, 0, none⟩ = some (.slice (some ⟨g, 0, none⟩) n cp) := hb.cell (by omega)
    have c1 : wr.cell? ⟨w1.heap.size, 1, none⟩ = some (.bool own) := hb.cell (by omega)
    have HA2 := hide ha
    have HR2 := hide hr
    have HB2 := hide hb
    have HW2 := hide hw
    clear ha hr hb hw
    by_cases hlt : k < r
    · obtain ⟨p, hp⟩ : ∃ p, c * k = p := ⟨_, rfl⟩
      have hpc : (k : Int) * (c : Int) = (p : Int) := by rw [Int.mul_comm, ← hp]; exact (Int.natCast_mul c k).symm
      have hpn : p + c ≤ n := by
        rw [HN.out, ← hp]
        have := Nat.mul_le_mul_right c (show k + 1 ≤ r by omega)
        rw [Nat.succ_mul] at this
        rw [Nat.mul_comm c k]; omega
      have HP := hide hp
      clear hp
      go_wp2_with fail
      refine (link_at _ _ _ _ p (p + c - 1) _ _ _ h3 (by omega) (by omega) rfl (by omega) (sidesF_lt h3 (by omega) hgl0.out k (by rw [HP.out]; omega)) HA2.out).mono ?_
      rintro e w2 ⟨rfl, ha2, hg2⟩
      have hz2 := hg2.size
      go_wp2
      go_roundw
      case rel =>
        refine ⟨k + 1, by omega, by go_num, ?_, HR2.out.grown hg2 (by omega), HB2.out.grown hg2 (by omega), HW2.out.grown hg2 HW2.out.size (fun j hj => by injection hj; omega)⟩
        have e : sidesF c (k + 1) (placesF c n n) = lk p (p + c - 1) (sidesF c k (placesF c n n)) := by
          show lk (c * k) (c * k + c - 1) _ = _
          rw [HP.out]
        rw [e]; exact ha2
      case measure => simp [intOf]; omega
    · have hkc : k = r := by omega
      subst hkc
      have HF : Hid (∀ j, j < n → sidesF c k (placesF c n n) j < 65536) := hide (sidesF_lt h3 (by omega) hgl0.out k (by rw [HN.out, Nat.mul_comm]; exact Nat.le_refl _))
      obtain ⟨wo, rfl⟩ : ∃ wo : World, wo = wr := ⟨_, rfl⟩
      clear c0 c1
      go_wp2
      go_loopw [48] (fun i wr => ∃ m : Nat, m ≤ c ∧ i = .int .i64 m ∧ Arr wr 3 g n (iv (nv (endsF c k m (sidesF c k (placesF c n n))))) ∧ Arr wr 27 w.heap.size 2 (bx (.slice none 0 0) (.bool false)) ∧ Arr wr 27 w1.heap.size 2 (bx (.slice (some ⟨g, 0, none⟩) n cp) (.bool own)) ∧ Below w.heap.size w wr)
        (fun i _ => c - (intOf i).toNat)
      case atStart => exact ⟨0, by omega, rfl, HA2.out, HR2.out, HB2.out, HW2.out⟩
      case round =>
        obtain ⟨m, hm, rfl, ha, hr, hb, hw⟩ := hrel
        have c0 : wr.cell? ⟨w1.heap.size, 0, none⟩ = some (.slice (some ⟨g, 0, none⟩) n cp) := hb.cell (by omega)
        have c1 : wr.cell? ⟨w1.heap.size, 1, none⟩ = some (.bool own) := hb.cell (by omega)
        by_cases hltm : m < c
        · have HA3 := hide ha
          have HR3 := hide hr
          have HB3 := hide hb
          have HW3 := hide hw
          clear ha hr hb hw
          go_wp2_with fail
          refine (link_at _ _ _ _ m (q + m) _ _ _ h3 (by omega) (by omega) rfl (by simp) (endsF_lt h3 HF.out m (by rw [HQ.out]; omega)) HA3.out).mono ?_
          rintro e w2 ⟨rfl, ha2, hg2⟩
          have hz2 := hg2.size
          go_wp2
          go_roundw
          case rel =>
            refine ⟨m + 1, by omega, by go_num, ?_, HR3.out.grown hg2 (by omega), HB3.out.grown hg2 (by omega), HW3.out.grown hg2 HW3.out.size (fun j hj => by injection hj; omega)⟩
            have e : endsF c k (m + 1) (sidesF c k (placesF c n n)) = lk m (q + m) (endsF c k m (sidesF c k (placesF c n n))) := by
              show lk m (c * (k - 1) + m) _ = _
              rw [HQ.out]
            rw [e]; exact ha2
          case measure => simp [intOf]; omega
        · have hmr : m = c := by omega
          subst hmr
          have r0 := hr.cell (k := 0) (by omega)
          have r1 := hr.cell (k := 1) (by omega)
          have z0 := hr.frozen 0
          have z1 := hr.frozen 1
          have HA3 := hide ha
          have HW3 := hide hw
          clear ha hr hb hw
          go_wp2
          refine bodyPost_ret (v := .tuple #[.agg #[.slice (some ⟨g, 0, none⟩) n cp, .bool own], .bool true]) (by simp [results, Try.results48, go_sem, r0, r1]) rfl ?_
          have hsz := HW3.out.size
          exact ⟨g, cp, rfl, by omega, (HA3.out.far (by simp; omega) _).far (by simp; omega) _, by have h := HW3.out; go_grown⟩
theorem lawTorus (a b : Int) (own : Bool) (w : World) : Calls Try.prog 12 #[.int .i64 a, .int .i64 b, .bool own] w fun e w' => e = .returned (.bool true) ∧ Below w.heap.size w w' := by
  cases h : sidesB a b 3
  · exact lawTorus_no a b own w (fun w => torusSpec_no a b own w h) (fun w => torusImpl_no a b own w h)
  · simp only [sidesB, decide_eq_true_eq] at h
    obtain ⟨r, rfl⟩ : ∃ n : Nat, a = n := ⟨a.toNat, by omega⟩
    obtain ⟨c, rfl⟩ : ∃ n : Nat, b = n := ⟨b.toNat, by omega⟩
    have h16 : r * c ≤ 16 := by
      have := h.2.2.2.2
      rw [← Int.natCast_mul] at this
      omega
    have hr6 : r < 6 := by
      rcases Nat.lt_or_ge r 6 with h6 | h6
      · exact h6
      · have := Nat.mul_le_mul h6 (show 3 ≤ c by omega); omega
    have hc6 : c < 6 := by
      rcases Nat.lt_or_ge c 6 with h6 | h6
      · exact h6
      · have := Nat.mul_le_mul (show 3 ≤ r by omega) h6; omega
    exact lawTorus_ok r c own (r * c) _ own w (by omega) (fun w => torusSpec_ok r c (r * c) own w rfl (by omega) (by omega) h16)
      (fun w => (torusImpl_ok r c (r * c) own w rfl (by omega) (by omega) h16).mono fun e w' hh => GraphOk.congr hh (fun k hk => by simp only [nv]; rw [torus_same r hr6 c hc6 ⟨by omega, by omega, h16⟩ k hk]))
end Go.Proofs.Ytmlklmdenhhjnaa
