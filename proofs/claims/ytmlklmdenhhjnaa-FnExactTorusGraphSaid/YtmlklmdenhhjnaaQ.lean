import Derived.Test.YtmlklmdenhhjnaaO
namespace Go.Proofs.Ytmlklmdenhhjnaa
open Go.RowKit
set_option maxHeartbeats 400000
theorem upF_lt {c r n k : Nat} {F : Nat → Nat} (hn : n ≤ 16) (hk : c * r + k < n) (hF : ∀ j, j < n → F j < 65536) : ∀ j, j < n → upF c r k F j < 65536 := by
  unfold upF
  split
  · have : c * (r - 1) ≤ c * r := Nat.mul_le_mul_left c (by omega)
    exact lk_lt (by omega) (by omega) hF
  · exact hF
theorem cellF_lt {c r n k : Nat} {F : Nat → Nat} (hn : n ≤ 16) (hk : c * r + k < n) (hF : ∀ j, j < n → F j < 65536) : ∀ j, j < n → cellF c r k F j < 65536 := by
  have h := upF_lt hn hk hF
  unfold cellF
  split
  · exact lk_lt (by omega) (by omega) h
  · exact h
theorem rowF_lt {c r n : Nat} {F : Nat → Nat} (hn : n ≤ 16) (hF : ∀ j, j < n → F j < 65536) : ∀ k, c * r + k ≤ n → ∀ j, j < n → rowF c r k F j < 65536 := by
  intro k
  induction k with
  | zero => intro _; exact hF
  | succ k ih => intro hk; exact cellF_lt hn (by omega) (ih (by omega))
theorem gridF_lt {c n : Nat} (hn : n ≤ 16) : ∀ r, c * r ≤ n → ∀ j, j < n → gridF c r j < 65536 := by
  intro r
  induction r with
  | zero => intro _ j _; simp [gridF]
  | succ r ih => intro hr; exact rowF_lt hn (ih (by rw [Nat.mul_succ] at hr; omega)) c (by rw [Nat.mul_succ] at hr; omega)

theorem grGrid_ok (r c n : Nat) (own : Bool) (w : World) (hrn : n = r * c) (h1 : 1 ≤ r) (h2 : 1 ≤ c) (h3 : n ≤ 16) : Calls Try.prog 84 #[.int .i64 r, .int .i64 c, .bool own] w (GraphVal w n (nv (gridF c r)) own) := by
  have hr16 : r ≤ n := by rw [hrn]; exact Nat.le_mul_of_pos_right r (by omega)
  have hc16 : c ≤ n := by rw [hrn]; exact Nat.le_mul_of_pos_left c (by omega)
  have hmk := run_make_row' (P := Try.prog) 22 3 (.int .i64 0) 8 Try.underlying22 int_info rfl .i64 .i64 n (by omega) (by omega)
  have hrc : (r : Int) * (c : Int) = (n : Int) := by rw [hrn]; exact (Int.natCast_mul r c).symm
  have HN := hide hrn
  clear hrn
  go_enter Try.func84, Try.ntmps84
  go_wp2
  go_loopw [8, 9] (fun i _ wr => ∃ k : Nat, k ≤ r ∧ i = .int .i64 k ∧ Arr wr 3 (w.heap.size + 1) n (iv (nv (gridF c k))) ∧ Arr wr 27 w.heap.size 2 (bx (.slice none 0 0) (.bool false)) ∧ Arr wr 27 (w.heap.size + 1 + 1) 2 (bx (.slice (some ⟨w.heap.size + 1, 0, none⟩) n n) (.bool own)) ∧ Below w.heap.size w wr)
    (fun i _ _ => r - (intOf i).toNat)
  case atStart =>
    refine ⟨0, by omega, rfl, ?_, ?_, ?_, by go_grown⟩
    · exact (Arr.made_at (w.alloc _) _ n 3 (by simp) (fun k hk => rfl)).alloc _
    · exact ((Arr.box w 27 _ _).alloc _).alloc _
    · exact Arr.box_at ((w.alloc _).alloc _) 27 _ _ (by simp)
  case round =>
    obtain ⟨i, hi, rfl, ha, hr, hb, hw⟩ := hrel
    by_cases hlt : i < r
    · obtain ⟨p, hp⟩ : ∃ p, c * i = p := ⟨_, rfl⟩
      have hpc : (c : Int) * (i : Int) = (p : Int) := by rw [← hp]; exact (Int.natCast_mul c i).symm
      have hpn : p + c ≤ n := by
        rw [HN.out, ← hp]
        have := Nat.mul_le_mul_right c (show i + 1 ≤ r by omega)
        rw [Nat.succ_mul] at this
        rw [Nat.mul_comm c i]; omega
      have HG : Hid (∀ j, j < n → gridF c i j < 65536) := hide (gridF_lt h3 i (by omega))
      have HP := hide hp
      clear hp
      obtain ⟨wo, rfl⟩ : ∃ wo : World, wo = wr := ⟨_, rfl⟩
      have HA := hide ha
      have HR := hide hr
      have HB := hide hb
      have HW := hide hw
      clear ha hr hb hw
      go_wp2
      go_loopw [9] (fun k wr => ∃ m : Nat, m ≤ c ∧ k = .int .i64 m ∧ Arr wr 3 (w.heap.size + 1) n (iv (nv (rowF c i m (gridF c i)))) ∧ Arr wr 27 w.heap.size 2 (bx (.slice none 0 0) (.bool false)) ∧ Arr wr 27 (w.heap.size + 1 + 1) 2 (bx (.slice (some ⟨w.heap.size + 1, 0, none⟩) n n) (.bool own)) ∧ Below w.heap.size w wr)
        (fun k _ => c - (intOf k).toNat)
      case atStart => exact ⟨0, by omega, rfl, HA.out, HR.out, HB.out, HW.out⟩
      case round =>
        obtain ⟨m, hm, rfl, ha, hr, hb, hw⟩ := hrel
        have c0 : wr.cell? ⟨w.heap.size + 1 + 1, 0, none⟩ = some (.slice (some ⟨w.heap.size + 1, 0, none⟩) n n) := hb.cell (by omega)
        have c1 : wr.cell? ⟨w.heap.size + 1 + 1, 1, none⟩ = some (.bool own) := hb.cell (by omega)
        have HA2 := hide ha
        have HR2 := hide hr
        have HB2 := hide hb
        have HW2 := hide hw
        clear ha hr hb hw
        by_cases hltm : m < c
        · have HF : Hid (∀ j, j < n → rowF c i m (gridF c i) j < 65536) := hide (rowF_lt h3 HG.out m (by rw [HP.out]; omega))
          have hstep : Hid (rowF c i (m + 1) (gridF c i) = cellF c i m (rowF c i m (gridF c i))) := hide rfl
          by_cases hi0 : 0 < i
          · obtain ⟨q, hq⟩ : ∃ q, c * (i - 1) = q := ⟨_, rfl⟩
            have hqc : (c : Int) * ((i : Int) - 1) = (q : Int) := by rw [← hq, Int.natCast_mul]; congr 1; omega
            have hqp : q + c = p := by
              rw [← HP.out, ← hq]
              obtain ⟨t, rfl⟩ : ∃ t, i = t + 1 := ⟨i - 1, by omega⟩
              simp [Nat.mul_succ]
            have HQ := hide hq
            have HQP := hide hqp
            have hqle : q + c ≤ p := by omega
            clear hq hqp
            have HU : Hid (upF c i m (rowF c i m (gridF c i)) = lk (q + m) (p + m) (rowF c i m (gridF c i))) := hide (by rw [upF, if_pos hi0, HQ.out, HP.out])
            have HF2 : Hid (∀ j, j < n → lk (q + m) (p + m) (rowF c i m (gridF c i)) j < 65536) := hide (lk_lt (by omega) (by omega) HF.out)
            by_cases hm0 : 0 < m
            · go_wp2_with fail
              refine (grAdd_at _ _ _ _ _ (q + m) (p + m) _ _ _ h3 (by omega) (by omega) (by simp) (by simp) HF.out HA2.out).mono ?_
              rintro e w1 ⟨rfl, ha1, hg1⟩
              have hz1 := hg1.size
              have HA3 := hide ha1
              have HR3 := hide (HR2.out.grown hg1 (by omega))
              have HB3 := hide (HB2.out.grown hg1 (by omega))
              have HW3 := hide (HW2.out.grown hg1 HW2.out.size (fun j hj => by injection hj; omega))
              have d0 : w1.cell? ⟨w.heap.size + 1 + 1, 0, none⟩ = some (.slice (some ⟨w.heap.size + 1, 0, none⟩) n n) := HB3.out.cell (by omega)
              have d1 : w1.cell? ⟨w.heap.size + 1 + 1, 1, none⟩ = some (.bool own) := HB3.out.cell (by omega)
              clear ha1 hg1 c0 c1
              go_wp2_with fail
              refine (grAdd_at _ _ _ _ _ (p + m - 1) (p + m) _ _ _ h3 (by omega) (by omega) (by omega) (by simp) HF2.out HA3.out).mono ?_
              rintro e w2 ⟨rfl, ha2, hg2⟩
              have hz2 := hg2.size
              go_wp2
              go_roundw
              case rel =>
                refine ⟨m + 1, by omega, by go_num, ?_, HR3.out.grown hg2 (by omega), HB3.out.grown hg2 (by omega), HW3.out.grown hg2 HW3.out.size (fun j hj => by injection hj; omega)⟩
                rw [hstep.out, cellF, if_pos hm0, HU.out, HP.out]; exact ha2
              case measure => simp [intOf]; omega
            · go_wp2_with fail
              refine (grAdd_at _ _ _ _ _ (q + m) (p + m) _ _ _ h3 (by omega) (by omega) (by simp) (by simp) HF.out HA2.out).mono ?_
              rintro e w1 ⟨rfl, ha1, hg1⟩
              have hz1 := hg1.size
              go_wp2
              go_roundw
              case rel =>
                refine ⟨m + 1, by omega, by go_num, ?_, HR2.out.grown hg1 (by omega), HB2.out.grown hg1 (by omega), HW2.out.grown hg1 HW2.out.size (fun j hj => by injection hj; omega)⟩
                rw [hstep.out, cellF, if_neg hm0, HU.out]; exact ha1
              case measure => simp [intOf]; omega
          · have HU : Hid (upF c i m (rowF c i m (gridF c i)) = rowF c i m (gridF c i)) := hide (by rw [upF, if_neg hi0])
            by_cases hm0 : 0 < m
            · go_wp2_with fail
              refine (grAdd_at _ _ _ _ _ (p + m - 1) (p + m) _ _ _ h3 (by omega) (by omega) (by omega) (by simp) HF.out HA2.out).mono ?_
              rintro e w1 ⟨rfl, ha1, hg1⟩
              have hz1 := hg1.size
              go_wp2
              go_roundw
              case rel =>
                refine ⟨m + 1, by omega, by go_num, ?_, HR2.out.grown hg1 (by omega), HB2.out.grown hg1 (by omega), HW2.out.grown hg1 HW2.out.size (fun j hj => by injection hj; omega)⟩
                rw [hstep.out, cellF, if_pos hm0, HU.out, HP.out]; exact ha1
              case measure => simp [intOf]; omega
            · go_wp2
              go_roundw
              case rel =>
                refine ⟨m + 1, by omega, by go_num, ?_, HR2.out, HB2.out, HW2.out⟩
                rw [hstep.out, cellF, if_neg hm0, HU.out]; exact HA2.out
              case measure => simp [intOf]; omega
        · have hmc : m = c := by omega
          subst hmc
          go_wp2
          go_roundw
          case rel => exact ⟨i + 1, by omega, by go_num, HA2.out, HR2.out, HB2.out, HW2.out⟩
          case measure => simp [intOf]; omega
    · have c0 : wr.cell? ⟨w.heap.size + 1 + 1, 0, none⟩ = some (.slice (some ⟨w.heap.size + 1, 0, none⟩) n n) := hb.cell (by omega)
      have c1 : wr.cell? ⟨w.heap.size + 1 + 1, 1, none⟩ = some (.bool own) := hb.cell (by omega)
      have r0 := hr.cell (k := 0) (by omega)
      have r1 := hr.cell (k := 1) (by omega)
      have z0 := hr.frozen 0
      have z1 := hr.frozen 1
      have HA := hide ha
      have HW := hide hw
      clear ha hr hb hw
      go_wp2
      refine bodyPost_ret (v := .agg #[.slice (some ⟨w.heap.size + 1, 0, none⟩) n n, .bool own]) (by simp [results, Try.results84, go_sem, r0, r1]) rfl ?_
      have hkn : i = r := by omega
      subst hkn
      have hsz := HW.out.size
      exact ⟨_, _, rfl, by omega, (HA.out.far (by simp) _).far (by simp) _, by have h := HW.out; go_grown⟩
theorem grGrid_at (r c n : Nat) (a b : Int) (own : Bool) (w : World) (ea : a = (r : Int)) (eb : b = (c : Int)) (hrn : n = r * c) (h1 : 1 ≤ r) (h2 : 1 ≤ c) (h3 : n ≤ 16) : Calls Try.prog 84 #[.int .i64 a, .int .i64 b, .bool own] w (GraphVal w n (nv (gridF c r)) own) := by
  subst ea eb; exact grGrid_ok r c n own w hrn h1 h2 h3
end Go.Proofs.Ytmlklmdenhhjnaa
