/-
Paths, grids and circles as graphs: both sides.
-/
import Derived.Test.YtibikoajejfdeaaK
import Derived.Test.YtibikoajejfdeaaZB
import Derived.Test.YtibikoajejfdeaaMB
import Derived.Test.YtibikoajejfdeaaTG8
import Derived.ChangeAlike
import Derived.Handy
import Derived.RegionTactic
namespace Go.Proofs.Ytibikoajejfdeaa
open Go.RowKit
set_option maxHeartbeats 1000000
/-- What a call leaves that hands back a graph. -/
def GraphOk (w : World) (n : Nat) (f : Nat → Int) (own : Bool) (e : Ending) (w' : World) : Prop :=
  ∃ g c, e = .returned (.tuple #[.agg #[.slice (some ⟨g, 0, none⟩) n c, .bool own], .bool true]) ∧ w.heap.size ≤ g ∧ Arr w' 3 g n (iv f) ∧ Below w.heap.size w w'
/-- .. that refuses. -/
def GraphNo (w : World) (e : Ending) (w' : World) : Prop :=
  e = .returned (.tuple #[.agg #[.slice none 0 0, .bool false], .bool false]) ∧ Below w.heap.size w w'
/-- The path up to the element m. -/
def pathF : Nat → Nat → Nat
  | 0 => fun _ => 0
  | m + 1 => lk m (m + 1) (pathF m)
/-- A place of a grid with c columns, row by row: its neighbours above and to the left. -/
def upF (c r : Nat) (k : Nat) (F : Nat → Nat) : Nat → Nat := if 0 < r then lk (c * (r - 1) + k) (c * r + k) F else F
def cellF (c r : Nat) (k : Nat) (F : Nat → Nat) : Nat → Nat := if 0 < k then lk (c * r + k - 1) (c * r + k) (upF c r k F) else upF c r k F
def rowF (c r : Nat) : Nat → (Nat → Nat) → Nat → Nat
  | 0, F => F
  | k + 1, F => cellF c r k (rowF c r k F)
def gridF (c : Nat) : Nat → Nat → Nat
  | 0 => fun _ => 0
  | r + 1 => rowF c r c (gridF c r)
/-- The same place by place: its neighbours to the right and below. -/
def rightF (c p : Nat) (F : Nat → Nat) : Nat → Nat := if p % c = c - 1 then F else lk p (p + 1) F
def placeF (c n p : Nat) (F : Nat → Nat) : Nat → Nat := if p + c < n then lk p (p + c) (rightF c p F) else rightF c p F
def placesF (c n : Nat) : Nat → Nat → Nat
  | 0 => fun _ => 0
  | p + 1 => placeF c n p (placesF c n p)
/-- The last row joined to the first, and the last column to the first. -/
def endsF (c r : Nat) : Nat → (Nat → Nat) → Nat → Nat
  | 0, F => F
  | k + 1, F => lk k (c * (r - 1) + k) (endsF c r k F)
def sidesF (c : Nat) : Nat → (Nat → Nat) → Nat → Nat
  | 0, F => F
  | k + 1, F => lk (c * k) (c * k + c - 1) (sidesF c k F)
set_option maxRecDepth 100000 in
theorem grid_same : ∀ r, r < 17 → ∀ c, c < 17 → r * c ≤ 16 → ∀ k, k < r * c → gridF c r k = placesF c (r * c) (r * c) k := by decide +kernel
set_option maxRecDepth 100000 in
theorem path_same : ∀ n, n < 17 → ∀ k, k < n → pathF (n - 1) k = placesF n n n k := by decide +kernel
set_option maxRecDepth 100000 in
theorem torus_same : ∀ r, r < 6 → ∀ c, c < 6 → (3 ≤ r ∧ 3 ≤ c ∧ r * c ≤ 16) → ∀ k, k < r * c → sidesF c r (endsF c r c (gridF c r)) k = endsF c r c (sidesF c r (placesF c (r * c) (r * c))) k := by decide +kernel
theorem link_any (g n c : Nat) (F : Nat → Nat) (i j : Nat) (w : World) (hn : n ≤ 16) (hi : i < n) (hj : j < n) (hF : ∀ k, k < n → F k < 65536) (ha : Arr w 3 g n (iv (nv F))) :
    Calls Try.prog 19 #[.slice (some ⟨g, 0, none⟩) n c, .int .i64 i, .int .i64 j] w fun e w' => e = .returned (.tuple #[]) ∧ Arr w' 3 g n (iv (nv (lk i j F))) ∧ w.grownBy w' (some g) := by
  have hFi := hF i hi
  have hFj := hF j hj
  have h1 : w.cell? ⟨g, i, none⟩ = some (.int .i64 (F i : Nat)) := ha.cell hi
  have hz1 := ha.frozen i
  have hz2 := ha.frozen j
  have e1 := or_wrap (F i) j hFi (by omega)
  by_cases hij : j = i
  · subst hij
    have e2 := or_wrap (F j ||| 2 ^ j) j (or_lt16 hFi (pow_lt16 (by omega))) (by omega)
    have ha1 : Arr (w.setCell ⟨g, j, none⟩ (.int .i64 (F j ||| 2 ^ j : Nat))).drew 3 g n _ := (ha.set j _).drew
    have ha2 : Arr ((w.setCell ⟨g, j, none⟩ (.int .i64 (F j ||| 2 ^ j : Nat))).setCell ⟨g, j, none⟩ (.int .i64 (F j ||| 2 ^ j ||| 2 ^ j : Nat))).drew 3 g n _ := ((ha.set j _).set j _).drew
    have h3 : (w.setCell ⟨g, j, none⟩ (.int .i64 (F j ||| 2 ^ j : Nat))).drew.cell? ⟨g, j, none⟩ = some (.int .i64 (F j ||| 2 ^ j : Nat)) := by
      have := ha1.cell hj
      simpa using this
    have HA2 := hide ha2
    clear ha ha1 ha2 hF
    go_enter Try.func19, Try.ntmps19
    go_wp2
    go_region
    go_wp2
    go_region
    go_end0
    refine ⟨rfl, HA2.out.congr (fun k hk => ?_), ?_⟩
    · by_cases hkj : k = j
      · simp [hkj, iv, nv, lk]
      · simp [hkj, iv, nv, lk]
    · exact grownBy_drewN (grownBy_setCell (grownBy_setCell (World.grownBy.refl _ _) _) _) 2
  · have e2 := or_wrap (F j) i hFj (by omega)
    have ha1 : Arr (w.setCell ⟨g, i, none⟩ (.int .i64 (F i ||| 2 ^ j : Nat))).drew 3 g n _ := (ha.set i _).drew
    have ha2 : Arr ((w.setCell ⟨g, i, none⟩ (.int .i64 (F i ||| 2 ^ j : Nat))).setCell ⟨g, j, none⟩ (.int .i64 (F j ||| 2 ^ i : Nat))).drew 3 g n _ := ((ha.set i _).set j _).drew
    have h3 : (w.setCell ⟨g, i, none⟩ (.int .i64 (F i ||| 2 ^ j : Nat))).drew.cell? ⟨g, j, none⟩ = some (.int .i64 (F j : Nat)) := by
      have := ha1.cell hj
      simpa [hij, iv, nv] using this
    have HA2 := hide ha2
    clear ha ha1 ha2 hF
    go_enter Try.func19, Try.ntmps19
    go_wp2
    go_region
    go_wp2
    go_region
    go_end0
    refine ⟨rfl, HA2.out.congr (fun k hk => ?_), ?_⟩
    · by_cases hkj : k = j
      · subst hkj
        simp [iv, nv, lk, hij]
      · by_cases hki : k = i
        · subst hki
          simp [iv, nv, lk, hkj]
        · simp [iv, nv, lk, hkj, hki]
    · exact grownBy_drewN (grownBy_setCell (grownBy_setCell (World.grownBy.refl _ _) _) _) 2
theorem link_at (g n c : Nat) (F : Nat → Nat) (i j : Nat) (a b : Int) (w : World) (hn : n ≤ 16) (hi : i < n) (hj : j < n) (ea : a = (i : Int)) (eb : b = (j : Int)) (hF : ∀ k, k < n → F k < 65536) (ha : Arr w 3 g n (iv (nv F))) :
    Calls Try.prog 19 #[.slice (some ⟨g, 0, none⟩) n c, .int .i64 a, .int .i64 b] w fun e w' => e = .returned (.tuple #[]) ∧ Arr w' 3 g n (iv (nv (lk i j F))) ∧ w.grownBy w' (some g) := by
  subst ea eb; exact link_any g n c F i j w hn hi hj hF ha
theorem pathF_lt (m : Nat) (hm : m < 16) : ∀ k, k < 16 → pathF m k < 65536 := by
  induction m with
  | zero => intro k _; simp [pathF]
  | succ m ih => exact lk_lt (by omega) hm (ih (by omega))
/-- Rows and columns of a grid, at least l of each. -/
def sidesB (r c l : Int) : Bool := decide (l ≤ r ∧ r ≤ 16 ∧ l ≤ c ∧ c ≤ 16 ∧ r * c ≤ 16)
theorem isGrid_any (r c : Int) (w : World) : Calls Try.prog 31 #[.int .i64 r, .int .i64 c] w fun e w' => e = .returned (.bool (sidesB r c 1)) ∧ w' = w := by
  cases h1 : inB r 1 16
  · go_enter Try.func31, Try.ntmps31
    go_wp2_with (go_at_call 38; refine (isCount_any _ _).mono ?_; rintro e w' ⟨rfl, rfl⟩)
    go_ret
    have : sidesB r c 1 = false := by
      simp only [inB, decide_eq_false_iff_not] at h1
      simp only [sidesB, decide_eq_false_iff_not]
      exact fun h => h1 ⟨h.1, h.2.1⟩
    rw [this]; exact ⟨rfl, rfl⟩
  · cases h2 : inB c 1 16
    · go_enter Try.func31, Try.ntmps31
      go_wp2_with (go_at_call 38; refine (isCount_any _ _).mono ?_; rintro e w' ⟨rfl, rfl⟩)
      go_ret
      have : sidesB r c 1 = false := by
        simp only [inB, decide_eq_false_iff_not] at h2
        simp only [sidesB, decide_eq_false_iff_not]
        exact fun h => h2 ⟨h.2.2.1, h.2.2.2.1⟩
      rw [this]; exact ⟨rfl, rfl⟩
    · simp only [inB, decide_eq_true_eq] at h1 h2
      have hp : (1 : Int) ≤ r * c := by have := Int.mul_le_mul h1.1 h2.1 (by omega) (by omega); omega
      have hq : r * c ≤ 256 := by have := Int.mul_le_mul h1.2 h2.2 (by omega) (by omega); omega
      have H1 : inB r 1 16 = true := by simp [inB, h1]
      have H2 : inB c 1 16 = true := by simp [inB, h2]
      go_enter Try.func31, Try.ntmps31
      go_wp2_with (go_at_call 38; refine (isCount_any _ _).mono ?_; rintro e w' ⟨rfl, rfl⟩)
      go_ret
      refine ⟨?_, rfl⟩
      have : sidesB r c 1 = inB (r * c) 1 16 := by
        simp only [sidesB, inB, decide_eq_decide]
        omega
      rw [this]
      rfl
theorem placesF_lt (c n p : Nat) (hn : n ≤ 16) (hc : 1 ≤ c) (hd : ∃ r, n = r * c) (hp : p ≤ n) : ∀ k, k < n → placesF c n p k < 65536 := by
  induction p with
  | zero => intro k _; simp [placesF]
  | succ p ih =>
    have h1 := ih (by omega)
    have h2 : ∀ k, k < n → rightF c p (placesF c n p) k < 65536 := by
      unfold rightF
      split
      · exact h1
      · refine lk_lt (by omega) ?_ h1
        by_cases hpn : p + 1 < n
        · omega
        · exfalso
          obtain ⟨r, rfl⟩ := hd
          rename_i hne
          apply hne
          have hpe : p + 1 = r * c := by omega
          have h3 : (p + 1) % c = 0 := by rw [hpe]; exact Nat.mul_mod_left r c
          have h4 := Nat.mod_lt p (show c > 0 by omega)
          have h5 := Nat.div_add_mod p c
          rcases Nat.lt_or_ge (p % c) (c - 1) with h | h
          · have : (p + 1) % c = p % c + 1 := by
              have e : p + 1 = c * (p / c) + (p % c + 1) := by omega
              rw [e, Nat.mul_add_mod, Nat.mod_eq_of_lt (by omega)]
            omega
          · omega
    show ∀ k, k < n → placeF c n p (placesF c n p) k < 65536
    unfold placeF
    split
    · exact lk_lt (by omega) (by omega) h2
    · exact h2
theorem place_next {c n p r : Nat} (hc : 1 ≤ c) (hn : n = r * c) (hp : p < n) (hne : ¬ p % c = c - 1) : p + 1 < n := by
  by_cases hpn : p + 1 < n
  · exact hpn
  · exfalso
    subst hn
    apply hne
    have hpe : p + 1 = r * c := by omega
    have h3 : (p + 1) % c = 0 := by rw [hpe]; exact Nat.mul_mod_left r c
    have h4 := Nat.mod_lt p (show c > 0 by omega)
    have h5 := Nat.div_add_mod p c
    rcases Nat.lt_or_ge (p % c) (c - 1) with h | h
    · have : (p + 1) % c = p % c + 1 := by
        have e : p + 1 = c * (p / c) + (p % c + 1) := by omega
        rw [e, Nat.mul_add_mod, Nat.mod_eq_of_lt (by omega)]
      omega
    · omega

theorem gridImpl_no (r c : Int) (own : Bool) (w : World) (h : sidesB r c 1 = false) : Calls Try.prog 21 #[.int .i64 r, .int .i64 c, .bool own] w (GraphNo w) := by
  go_enter Try.func21, Try.ntmps21
  go_wp2_with (go_at_call 31; refine (isGrid_any _ _ _).mono ?_; rintro e w' ⟨rfl, rfl⟩)
  refine bodyPost_ret (v := .tuple #[.agg #[.slice none 0 0, .bool false], .bool false]) (by simp [results, Try.results21, go_sem]) rfl ?_
  exact ⟨rfl, by go_grown⟩

theorem gridImpl_ok (r c n : Nat) (own : Bool) (w : World) (hrn : n = r * c) (h1 : 1 ≤ r) (h2 : 1 ≤ c) (h3 : n ≤ 16) : Calls Try.prog 21 #[.int .i64 r, .int .i64 c, .bool own] w (GraphOk w n (nv (placesF c n n)) own) := by
  have hr16 : r ≤ n := by rw [hrn]; exact Nat.le_mul_of_pos_right r (by omega)
  have hc16 : c ≤ n := by rw [hrn]; exact Nat.le_mul_of_pos_left c (by omega)
  have hmk := run_make_row' (P := Try.prog) 27 3 (.int .i64 0) 8 Try.underlying27 int_info rfl .i64 .i64 n (by omega) (by omega)
  have hrc : (r : Int) * (c : Int) = (n : Int) := by rw [hrn]; exact (Int.natCast_mul r c).symm
  have hs : sidesB r c 1 = true := by
    simp only [sidesB, decide_eq_true_eq, hrc]
    omega
  have HN := hide hrn
  clear hrn
  go_enter Try.func21, Try.ntmps21
  go_wp2_with (go_at_call 31; refine (isGrid_any _ _ _).mono ?_; rintro e w' ⟨rfl, rfl⟩)
  go_loopw [21] (fun i wr => ∃ k : Nat, k ≤ n ∧ i = .int .i64 k ∧ Arr wr 3 (w.heap.size + 1) n (iv (nv (placesF c n k))) ∧ Arr wr 29 w.heap.size 2 (bx (.slice none 0 0) (.bool false)) ∧ Below w.heap.size w wr)
    (fun i _ => n - (intOf i).toNat)
  case atStart => 
    refine ⟨0, by omega, rfl, ?_, ?_, by go_grown⟩
    · exact Arr.made_at (w.alloc _) _ n 3 (by simp) (fun k hk => rfl)
    · exact (Arr.box w 29 _ _).alloc _
  case round =>
    obtain ⟨k, hk, rfl, ha, hr, hw⟩ := hrel
    by_cases hlt : k < n
    · obtain ⟨q, hq⟩ : ∃ q, k % c = q := ⟨_, rfl⟩
      have hkc : (k : Int) % (c : Int) = (q : Int) := by rw [← hq]; exact (Int.natCast_emod k c).symm
      have hkl := Nat.mod_lt k (show c > 0 by omega)
      rw [hq] at hkl
      have HQ := hide hq
      clear hq
      have HA := hide ha
      have HR := hide hr
      have HW := hide hw
      clear ha hr hw
      have hF : ∀ k, k ≤ n → ∀ j, j < n → placesF c n k j < 65536 := fun k hk => placesF_lt c n k h3 h2 ⟨r, HN.out⟩ hk
      have HF := hide hF
      clear hF
      by_cases hm : q = c - 1
      · have hmz : ((q : Int) == (c : Int) - 1) = true := by rw [beq_iff_eq]; omega
        have er : rightF c k (placesF c n k) = placesF c n k := by rw [rightF, if_pos (HQ.out.trans hm)]
        have HM := hide hm
        have HE := hide er
        clear hm er
        by_cases hd : k + c < n
        · go_wp2_with fail
          refine (link_at _ _ _ _ k (k + c) _ _ _ h3 hlt hd rfl (by simp) (HF.out k (by omega)) HA.out).mono ?_
          rintro e w1 ⟨rfl, ha1, hg1⟩
          have hz1 := hg1.size
          go_wp2
          go_roundw
          case rel =>
            refine ⟨k + 1, by omega, by go_num, ?_, HR.out.grown hg1 (by omega), HW.out.grown hg1 HW.out.size (fun j hj => by injection hj; omega)⟩
            have e : placesF c n (k + 1) = lk k (k + c) (placesF c n k) := by
              show placeF c n k (placesF c n k) = _
              rw [placeF, if_pos hd, HE.out]
            rw [e]; exact ha1
          case measure => simp [intOf]; omega
        · go_wp2
          go_roundw
          case rel =>
            refine ⟨k + 1, by omega, by go_num, ?_, HR.out, HW.out⟩
            have e : placesF c n (k + 1) = placesF c n k := by
              show placeF c n k (placesF c n k) = _
              rw [placeF, if_neg hd, HE.out]
            rw [e]; exact HA.out
          case measure => simp [intOf]; omega
      · have hmz : ((q : Int) == (c : Int) - 1) = false := by rw [beq_eq_false_iff_ne]; omega
        have hnx := place_next h2 HN.out hlt (by rw [HQ.out]; exact hm)
        have er : rightF c k (placesF c n k) = lk k (k + 1) (placesF c n k) := by rw [rightF, if_neg (by rw [HQ.out]; exact hm)]
        have HM := hide hm
        have HE := hide er
        clear hm er
        have HF1 : Hid (∀ j, j < n → lk k (k + 1) (placesF c n k) j < 65536) := hide (lk_lt (by omega) (by omega) (HF.out k (by omega)))
        by_cases hd : k + c < n
        · go_wp2_with fail
          refine (link_at _ _ _ _ k (k + 1) _ _ _ h3 hlt hnx rfl (by simp) (HF.out k (by omega)) HA.out).mono ?_
          rintro e w1 ⟨rfl, ha1, hg1⟩
          have HA1 := hide ha1
          have HG1 := hide hg1
          have hz1 := hg1.size
          clear ha1 hg1
          go_wp2_with fail
          refine (link_at _ _ _ _ k (k + c) _ _ _ h3 hlt hd rfl (by simp) HF1.out HA1.out).mono ?_
          rintro e w2 ⟨rfl, ha2, hg2⟩
          have hg12 := grownBy_trans HG1.out hg2
          have hz2 := hg12.size
          clear hg2
          go_wp2
          go_roundw
          case rel =>
            refine ⟨k + 1, by omega, by go_num, ?_, HR.out.grown hg12 (by omega), HW.out.grown hg12 HW.out.size (fun j hj => by injection hj; omega)⟩
            have e : placesF c n (k + 1) = lk k (k + c) (lk k (k + 1) (placesF c n k)) := by
              show placeF c n k (placesF c n k) = _
              rw [placeF, if_pos hd, HE.out]
            rw [e]; exact ha2
          case measure => simp [intOf]; omega
        · go_wp2_with fail
          refine (link_at _ _ _ _ k (k + 1) _ _ _ h3 hlt hnx rfl (by simp) (HF.out k (by omega)) HA.out).mono ?_
          rintro e w1 ⟨rfl, ha1, hg1⟩
          have hz1 := hg1.size
          go_wp2
          go_roundw
          case rel =>
            refine ⟨k + 1, by omega, by go_num, ?_, HR.out.grown hg1 (by omega), HW.out.grown hg1 HW.out.size (fun j hj => by injection hj; omega)⟩
            have e : placesF c n (k + 1) = lk k (k + 1) (placesF c n k) := by
              show placeF c n k (placesF c n k) = _
              rw [placeF, if_neg hd, HE.out]
            rw [e]; exact ha1
          case measure => simp [intOf]; omega
    · have r0 := hr.cell (k := 0) (by omega)
      have r1 := hr.cell (k := 1) (by omega)
      have z0 := hr.frozen 0
      have z1 := hr.frozen 1
      have HA := hide ha
      have HW := hide hw
      clear ha hr hw
      go_wp2
      refine bodyPost_ret (v := .tuple #[.agg #[.slice (some ⟨w.heap.size + 1, 0, none⟩) n n, .bool own], .bool true]) (by simp [results, Try.results21, go_sem, r0, r1]) rfl ?_
      have hkn : k = n := by omega
      subst hkn
      have hsz := HW.out.size
      exact ⟨_, _, rfl, by omega, (HA.out.far (by simp) _).far (by simp) _, by have h := HW.out; go_grown⟩
theorem gridImpl_at (r c n : Nat) (a b : Int) (own : Bool) (w : World) (ea : a = (r : Int)) (eb : b = (c : Int)) (hrn : n = r * c) (h1 : 1 ≤ r) (h2 : 1 ≤ c) (h3 : n ≤ 16) : Calls Try.prog 21 #[.int .i64 a, .int .i64 b, .bool own] w (GraphOk w n (nv (placesF c n n)) own) := by
  subst ea eb; exact gridImpl_ok r c n own w hrn h1 h2 h3
theorem upF_lt {c r n k : Nat} {F : Nat → Nat} (hn : n ≤ 16) (hk : c * r + k < n) (hF : ∀ j, j < n → F j < 65536) : ∀ j, j < n → upF c r k F j < 65536 := by
  unfold upF
  split
  · have : c * (r - 1) ≤ c * r := Nat.mul_le_mul_left c (by omega)
    exact lk_lt (by omega) (by omega) hF
  · exact hF
theorem cellF_lt {c r n k : Nat} {F : Nat → Nat} (hn : n ≤ 16) (hk : c * r + k < n) (hF : ∀ j, j < n → F j < 65536) : ∀ j, j < n → cellF c r k F j < 65536 := by
  have h := upF_lt hn hk hF
  unfold cellF
  split
  · exact lk_lt (by omega) (by omega) h
  · exact h
theorem rowF_lt {c r n : Nat} {F : Nat → Nat} (hn : n ≤ 16) (hF : ∀ j, j < n → F j < 65536) : ∀ k, c * r + k ≤ n → ∀ j, j < n → rowF c r k F j < 65536 := by
  intro k
  induction k with
  | zero => intro _; exact hF
  | succ k ih => intro hk; exact cellF_lt hn (by omega) (ih (by omega))
theorem gridF_lt {c n : Nat} (hn : n ≤ 16) : ∀ r, c * r ≤ n → ∀ j, j < n → gridF c r j < 65536 := by
  intro r
  induction r with
  | zero => intro _ j _; simp [gridF]
  | succ r ih => intro hr; exact rowF_lt hn (ih (by rw [Nat.mul_succ] at hr; omega)) c (by rw [Nat.mul_succ] at hr; omega)

theorem GraphOk.congr {w : World} {n : Nat} {f f' : Nat → Int} {own : Bool} {e : Ending} {w' : World} (h : GraphOk w n f own e w') (hf : ∀ k, k < n → f k = f' k) : GraphOk w n f' own e w' := by
  obtain ⟨g, c, he, hg, ha, hb⟩ := h
  exact ⟨g, c, he, hg, ha.congr (fun k hk => by simp only [iv]; rw [hf k hk]), hb⟩
theorem pathImpl_no (a : Int) (own : Bool) (w : World) (h : inB a 1 16 = false) : Calls Try.prog 13 #[.int .i64 a, .bool own] w (GraphNo w) := by
  have hs : sidesB 1 a 1 = false := by
    simp only [inB, decide_eq_false_iff_not] at h
    simp only [sidesB, decide_eq_false_iff_not]
    omega
  go_enter Try.func13, Try.ntmps13
  go_wp2_with fail
  refine (gridImpl_no _ _ _ _ hs).mono ?_
  rintro e w1 ⟨rfl, hb⟩
  obtain ⟨hc, hf⟩ := bcell hb
  have hz := hb.size
  simp only [World.size_alloc] at hc hf hz
  have HB := hide (hb.mono (show w.heap.size ≤ _ by simp))
  clear hb
  go_wp2
  refine bodyPost_ret (v := .tuple #[.agg #[.slice none 0 0, .bool false], .bool false]) (by simp [results, Try.results13, go_sem, hc]) rfl ?_
  exact ⟨rfl, by have h := (by go_grown : Below w.heap.size w _).trans HB.out; go_grown⟩
theorem pathImpl_ok (n : Nat) (own : Bool) (w : World) (h1 : 1 ≤ n) (h3 : n ≤ 16) : Calls Try.prog 13 #[.int .i64 n, .bool own] w (GraphOk w n (nv (pathF (n - 1))) own) := by
  go_enter Try.func13, Try.ntmps13
  go_wp2_with fail
  refine (gridImpl_at 1 n n _ _ _ _ rfl rfl (by omega) (by omega) h1 h3).mono ?_
  rintro e w1 ⟨g, cp, rfl, hg, ha, hb⟩
  simp only [World.size_alloc] at hg
  obtain ⟨hc, hf⟩ := bcell hb
  have hz := hb.size
  simp only [World.size_alloc] at hc hf hz
  have HA := hide (ha.congr (f' := iv (nv (pathF (n - 1)))) (fun k hk => by simp only [iv, nv]; rw [path_same n (by omega) k hk]))
  have HB := hide (hb.mono (show w.heap.size ≤ _ by simp))
  clear ha hb
  go_wp2
  refine bodyPost_ret (v := .tuple #[.agg #[.slice (some ⟨g, 0, none⟩) n cp, .bool own], .bool true]) (by simp [results, Try.results13, go_sem, hc]) rfl ?_
  exact ⟨g, cp, rfl, by omega, (HA.out.far (by simp; omega) _).far (by simp; omega) _, by have h := (by go_grown : Below w.heap.size w _).trans HB.out; go_grown⟩
theorem circleImpl_no (a : Int) (own : Bool) (w : World) (h : inB a 3 16 = false) : Calls Try.prog 11 #[.int .i64 a, .bool own] w (GraphNo w) := by
  cases h1 : inB a 1 16
  · go_enter Try.func11, Try.ntmps11
    go_wp2_with fail
    refine (pathImpl_no _ _ _ h1).mono ?_
    rintro e w1 ⟨rfl, hb⟩
    have hr2 := (Arr.box w 29 _ _).all hb
    have hz := hb.size
    simp only [World.size_alloc] at hz
    have hl : w.heap.size < w1.heap.size := by omega
    have r0 := hr2.cell (k := 0) (by omega)
    have r1 := hr2.cell (k := 1) (by omega)
    have z0 := hr2.frozen 0
    have z1 := hr2.frozen 1
    have HB := hide ((by go_grown : Below w.heap.size w _).trans (hb.mono (show w.heap.size ≤ _ by simp)))
    clear hb hr2
    go_wp2
    refine bodyPost_ret (v := .tuple #[.agg #[.slice none 0 0, .bool false], .bool false]) (by simp [results, Try.results11, go_sem, r0, r1, hl]) rfl ?_
    exact ⟨rfl, by have h := HB.out; go_grown⟩
  · simp only [inB, decide_eq_true_eq, decide_eq_false_iff_not] at h1 h
    obtain ⟨n, rfl⟩ : ∃ n : Nat, a = n := ⟨a.toNat, by omega⟩
    have hn3 : n < 3 := by omega
    go_enter Try.func11, Try.ntmps11
    go_wp2_with fail
    refine (pathImpl_ok n own _ (by omega) (by omega)).mono ?_
    rintro e w1 ⟨g, cp, rfl, hg, ha, hb⟩
    have hr2 := (Arr.box w 29 _ _).all hb
    have hz := hb.size
    simp only [World.size_alloc] at hz
    have hl : w.heap.size < w1.heap.size := by omega
    have r0 := hr2.cell (k := 0) (by omega)
    have r1 := hr2.cell (k := 1) (by omega)
    have z0 := hr2.frozen 0
    have z1 := hr2.frozen 1
    have HB := hide ((by go_grown : Below w.heap.size w _).trans (hb.mono (show w.heap.size ≤ _ by simp)))
    clear hb hr2 ha hg
    go_wp2
    refine bodyPost_ret (v := .tuple #[.agg #[.slice none 0 0, .bool false], .bool false]) (by simp [results, Try.results11, go_sem, r0, r1, hl]) rfl ?_
    exact ⟨rfl, by have h := HB.out; go_grown⟩
theorem circleImpl_ok (n : Nat) (own : Bool) (w : World) (h1 : 3 ≤ n) (h3 : n ≤ 16) : Calls Try.prog 11 #[.int .i64 n, .bool own] w (GraphOk w n (nv (lk 0 (n - 1) (pathF (n - 1)))) own) := by
  go_enter Try.func11, Try.ntmps11
  go_wp2_with fail
  refine (pathImpl_ok n own _ (by omega) h3).mono ?_
  rintro e w1 ⟨g, cp, rfl, hg, ha, hb⟩
  simp only [World.size_alloc] at hg
  have hgl := ha.lt
  have hz := hb.size
  simp only [World.size_alloc] at hz
  have HA := hide ha
  have HR := hide ((Arr.box w 29 _ _).all hb)
  have HB := hide ((by go_grown : Below w.heap.size w _).trans (hb.mono (show w.heap.size ≤ _ by simp)))
  clear ha hb
  go_wp2_with fail
  refine (link_at _ _ _ _ 0 (n - 1) _ _ _ h3 (by omega) (by omega) rfl (by omega) (fun j hj => pathF_lt _ (by omega) j (by omega)) (HA.out.alloc _)).mono ?_
  rintro e w2 ⟨rfl, ha2, hg2⟩
  have hb2 := (Arr.box w1 29 _ _).grown hg2 (by omega)
  have hr2 := (HR.out.alloc _).grown hg2 (by omega)
  have hz2 := hg2.size
  simp only [World.size_alloc] at hz2
  have r0 := hr2.cell (k := 0) (by omega)
  have r1 := hr2.cell (k := 1) (by omega)
  have z0 := hr2.frozen 0
  have z1 := hr2.frozen 1
  have c0 : w2.cell? ⟨w1.heap.size, 0, none⟩ = some (.slice (some ⟨g, 0, none⟩) n cp) := hb2.cell (by omega)
  have c1 : w2.cell? ⟨w1.heap.size, 1, none⟩ = some (.bool own) := hb2.cell (by omega)
  have HB2 := hide (((HB.out.trans (by go_grown : Below w.heap.size w1 _)).grown hg2 (by simp; omega) (fun k hk => by injection hk; omega)))
  have HA2 := hide ha2
  clear ha2 hg2 hb2 hr2
  go_wp2
  refine bodyPost_ret (v := .tuple #[.agg #[.slice (some ⟨g, 0, none⟩) n cp, .bool own], .bool true]) (by simp [results, Try.results11, go_sem, r0, r1]) rfl ?_
  exact ⟨g, cp, rfl, by omega, (HA2.out.far (by simp; omega) _).far (by simp; omega) _, by have h := HB2.out; go_grown⟩
end Go.Proofs.Ytibikoajejfdeaa
