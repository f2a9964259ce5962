/-
spec.ProductGraph where there is a product: the pairs of each row, then those of each column.
-/
import Derived.Test.YtdpoceijnbbmgaaDoorPG
import Derived.Test.YtdpoceijnbbmgaaDoorCG
import Derived.Deep.QuietTactic
import Derived.StillTailTactics
namespace Go.Proofs.YtdpoceijnbbmgaaDoor
open Go.RowKit
set_option maxHeartbeats 2000000
set_option maxRecDepth 100000
theorem cut2 {P : Program} {c : Code} {Q : Exit → Act → World → Prop} {a : Act} {w : World} (R : Nat → Nat → World → Prop) (F : Nat → Nat → Act)
    (reg : c.wp P (fun e a w' => ∃ g b, e = .normal ∧ a = F g b ∧ R g b w') a w)
    (cont : ∀ g b w', R g b w' → Q .normal (F g b) w') : c.wp P Q a w :=
  Code.wp_mono (fun e a w' h => by obtain ⟨g, b, rfl, rfl, h⟩ := h; exact cont g b w' h) reg
/-- What holds while the pairs are added. -/
structure PIn (w wr : World) (g n c g' m c' : Nat) (own : Bool) (F H : Nat → Nat) (bO gO N : Nat) (R : Nat → Nat) : Prop where
  x : Arr wr 26 w.heap.size 2 (bx (.slice (some ⟨g, 0, none⟩) n c) (.bool own))
  y : Arr wr 26 (w.heap.size + 1) 2 (bx (.slice (some ⟨g', 0, none⟩) m c') (.bool own))
  r : Arr wr 26 (w.heap.size + 1 + 1) 2 (bx (.slice none 0 0) (.bool false))
  b : Arr wr 26 bO 2 (bx (.slice (some ⟨gO, 0, none⟩) N N) (.bool own))
  o : Arr wr 3 gO N (iv (nv R))
  f : Arr wr 3 g n (iv (nv F))
  h : Arr wr 3 g' m (iv (nv H))
  lt : ∀ k, k < N → R k < 65536
  lo : w.heap.size + 1 + 1 < gO
  far : g < w.heap.size ∧ g' < w.heap.size
  bel : Below w.heap.size w wr
section
variable {w wr w' : World} {g n c g' m c' : Nat} {own : Bool} {F H : Nat → Nat} {bO gO N : Nat} {R R' : Nat → Nat}
theorem PIn.all (h : PIn w wr g n c g' m c' own F H bO gO N R) (hb : Below wr.heap.size wr w') : PIn w w' g n c g' m c' own F H bO gO N R :=
  ⟨h.x.all hb, h.y.all hb, h.r.all hb, h.b.all hb, h.o.all hb, h.f.all hb, h.h.all hb, h.lt, h.lo, h.far, h.bel.trans (hb.mono h.bel.size)⟩
theorem PIn.drewN (h : PIn w wr g n c g' m c' own F H bO gO N R) (k : Nat) : PIn w (wr.drewN k) g n c g' m c' own F H bO gO N R := h.all (below_drewN (Below.refl _ _) _)
theorem PIn.step (h : PIn w wr g n c g' m c' own F H bO gO N R) (ho : Arr w' 3 gO N (iv (nv R'))) (hl : ∀ k, k < N → R' k < 65536) (hg : wr.grownBy w' (some gO)) : PIn w w' g n c g' m c' own F H bO gO N R' := by
  have h1 := h.lo
  have h2 := h.far
  have h3 : bO ≠ gO := h.b.ne_ h.o (by decide)
  exact ⟨h.x.grown hg (by omega), h.y.grown hg (by omega), h.r.grown hg (by omega), h.b.grown hg h3, ho, h.f.grown hg (by omega), h.h.grown hg (by omega), hl, h1, h2, h.bel.grown hg h.bel.size (fun j hj => by injection hj; omega)⟩
theorem PIn.to (h : PIn w wr g n c g' m c' own F H bO gO N R) (e : R = R') : PIn w wr g n c g' m c' own F H bO gO N R' := e ▸ h
end
theorem take_snoc {P : List (Nat × Nat)} {t : Nat} (h : t < P.length) : P.take (t + 1) = P.take t ++ [P[t]] := List.take_succ_eq_append_getElem h
theorem pair_at {P : List (Nat × Nat)} {k : Nat} (h : k < P.length) : iv (pairR P k) 0 = .int .i64 (P[k].1 : Nat) ∧ iv (pairR P k) 1 = .int .i64 (P[k].2 : Nat) := by
  have e : P.getD k (0, 0) = P[k] := by simp [List.getD, h]
  exact ⟨by simp only [iv, pairR, e]; rfl, by simp only [iv, pairR, e]; rfl⟩
theorem row_at {n m i b : Nat} (hi : i < n) (hb : b < m) : m * i + b < n * m := by
  have h1 : m * (i + 1) ≤ n * m := by rw [Nat.mul_comm n m]; exact Nat.mul_le_mul_left m hi
  rw [Nat.mul_succ] at h1
  omega
theorem prodSpec_ok (g n c g' m c' : Nat) (F H : Nat → Nat) (own : Bool) (w : World) (hG : Good n (nv F)) (hG' : Good m (nv H)) (hnm : n * m ≤ 16) (h2 : ∀ k, k < n → F k < 2 ^ n) (h2' : ∀ k, k < m → H k < 2 ^ m) (ha : Arr w 3 g n (iv (nv F))) (ha' : Arr w 3 g' m (iv (nv H))) :
    Calls Tryd.prog 12 #[.agg #[.slice (some ⟨g, 0, none⟩) n c, .bool own], .agg #[.slice (some ⟨g', 0, none⟩) m c', .bool own]] w (GraphOk w (n * m) (nv (prodS n m F H)) own) := by
  have hn16 := hG.2.1
  have hm16 := hG'.2.1
  have hN1 : 1 ≤ n * m := Nat.mul_pos hG.1 hG'.1
  have hrow : Hid (∀ i b, i < n → b < m → m * i + b < n * m) := hide fun i b hi hb => row_at hi hb
  obtain ⟨N, hN⟩ : ∃ N, n * m = N := ⟨_, rfl⟩
  rw [hN] at hnm hN1 hrow
  have hNc : (n : Int) * (m : Int) = (N : Int) := by rw [← hN, Int.natCast_mul]
  have hNw : IntKind.i64.wrap (N : Int) = (N : Int) := IntWalk.i64_in _ (by omega)
  have hs : inB (N : Int) 1 16 = true := by simp [inB]; omega
  rw [hN]
  have hmk := run_make_row' (P := Tryd.prog) 22 3 (.int .i64 0) 8 Tryd.underlying22 int_info rfl .i64 .i64 N (by omega) (by omega)
  have hoo : (own != own) = false := by simp
  have hgl := ha.lt
  have hgl' := ha'.lt
  have HA := hide ha
  have HA' := hide ha'
  have HG := hide (goodB_yes hG)
  have HG' := hide (goodB_yes hG')
  clear ha ha' hN hG hG' h2 h2'
  go_enter Tryd.func12, Tryd.ntmps12
  go_wp2_with fail
  refine (grGood_any _ _ _ (nv F) _ _ (by omega) (((HA.out.alloc _).alloc _).alloc _)).mono ?_
  rintro e w1 ⟨rfl, hb1⟩
  rw [HG.out]
  have HX := hide (((Arr.box w 26 (.slice (some ⟨g, 0, none⟩) n c) (.bool own)).alloc (.cells #[.slice (some ⟨g', 0, none⟩) m c', .bool own] 26)).alloc (.cells #[.slice none 0 0, .bool false] 26) |>.all hb1)
  have HY := hide (((Arr.box_at (w.alloc (.cells #[.slice (some ⟨g, 0, none⟩) n c, .bool own] 26)) 26 (.slice (some ⟨g', 0, none⟩) m c') (.bool own) (b := w.heap.size + 1) (by simp)).alloc (.cells #[.slice none 0 0, .bool false] 26)).all hb1)
  have HR := hide ((Arr.box_at ((w.alloc (.cells #[.slice (some ⟨g, 0, none⟩) n c, .bool own] 26)).alloc (.cells #[.slice (some ⟨g', 0, none⟩) m c', .bool own] 26)) 26 (.slice none 0 0) (.bool false) (b := w.heap.size + 1 + 1) (by simp)).all hb1)
  have HA1 := hide ((((HA.out.alloc _).alloc _).alloc _).all hb1)
  have HA1' := hide ((((HA'.out.alloc _).alloc _).alloc _).all hb1)
  have HB := hide ((by go_grown : Below w.heap.size w _).trans (hb1.mono (by simp; omega)))
  have x0 : w1.cell? ⟨w.heap.size, 0, none⟩ = some (.slice (some ⟨g, 0, none⟩) n c) := HX.out.cell (by omega)
  have x1 : w1.cell? ⟨w.heap.size, 1, none⟩ = some (.bool own) := HX.out.cell (by omega)
  have y0 : w1.cell? ⟨w.heap.size + 1, 0, none⟩ = some (.slice (some ⟨g', 0, none⟩) m c') := HY.out.cell (by omega)
  have y1 : w1.cell? ⟨w.heap.size + 1, 1, none⟩ = some (.bool own) := HY.out.cell (by omega)
  clear hb1
  go_wp2_with fail
  refine (grGood_any _ _ _ (nv H) _ _ (by omega) HA1'.out).mono ?_
  rintro e w2 ⟨rfl, hb2⟩
  rw [HG'.out]
  have HX2 := hide (HX.out.all hb2)
  have HY2 := hide (HY.out.all hb2)
  have HR2 := hide (HR.out.all hb2)
  have HA2 := hide (HA1.out.all hb2)
  have HA2' := hide (HA1'.out.all hb2)
  have HB2 := hide (HB.out.trans (hb2.mono HB.out.size))
  have hsz := HB2.out.size
  have hl2 : w.heap.size + 1 + 1 < w2.heap.size := HR2.out.lt
  have hl1 : w.heap.size + 1 < w2.heap.size := HY2.out.lt
  have hl0 : w.heap.size < w2.heap.size := HX2.out.lt
  clear hb2 x0 x1 y0 y1
  have x0 : w2.cell? ⟨w.heap.size, 0, none⟩ = some (.slice (some ⟨g, 0, none⟩) n c) := HX2.out.cell (by omega)
  have x1 : w2.cell? ⟨w.heap.size, 1, none⟩ = some (.bool own) := HX2.out.cell (by omega)
  have y0 : w2.cell? ⟨w.heap.size + 1, 0, none⟩ = some (.slice (some ⟨g', 0, none⟩) m c') := HY2.out.cell (by omega)
  have y1 : w2.cell? ⟨w.heap.size + 1, 1, none⟩ = some (.bool own) := HY2.out.cell (by omega)
  go_wp2_with fail
  refine (grSize_any _ _).mono ?_
  rintro e w9 ⟨rfl, rfl⟩
  rw [hs]
  go_wp2_with fail
  apply cut2 (fun gO bO w' => w9.heap.size ≤ gO ∧ Arr w' 3 gO N (fun _ => .int .i64 0) ∧ Arr w' 26 bO 2 (bx (.slice (some ⟨gO, 0, none⟩) N N) (.bool own)) ∧ Below w9.heap.size w9 w')
  case reg =>
    go_region
    all_goals
      obtain ⟨b5, hb5⟩ : ∃ b, w9.heap.size + 1 = b := ⟨_, rfl⟩
      obtain ⟨b4, hb4⟩ : ∃ b, w9.heap.size = b := ⟨_, rfl⟩
      rw [hb5, hb4]
      first
        | (refine ⟨b4, b5, rfl, rfl, ?_⟩; subst hb5 hb4; refine ⟨Nat.le_refl _, (Arr.made w9 _ N 3).alloc _, Arr.box_at _ 26 _ _ (by simp), by go_grown⟩)
        | (refine ⟨b5, b4, rfl, rfl, ?_⟩; subst hb5 hb4; refine ⟨Nat.le_succ _, Arr.made_at _ _ N 3 (by simp) (fun _ _ => rfl), (Arr.box w9 26 _ _).alloc _, by go_grown⟩)
  case cont =>
    rintro gO bO w8 ⟨hgO, hO8, hb8, hB8⟩
    have hz8 := hB8.size
    have HP0 : Hid (PIn w w8 g n c g' m c' own F H bO gO N (rowsL m (allP H m m) 0 (fun _ => 0))) := hide ⟨HX2.out.all hB8, HY2.out.all hB8, HR2.out.all hB8, hb8, hO8.congr (fun k hk => rfl), HA2.out.all hB8, HA2'.out.all hB8, fun k hk => by simp [rowsL], by omega, ⟨hgl, hgl'⟩, HB2.out.trans (hB8.mono HB2.out.size)⟩
    have x0 : w8.cell? ⟨w.heap.size, 0, none⟩ = some (.slice (some ⟨g, 0, none⟩) n c) := HP0.out.x.cell (by omega)
    clear hO8 hb8 hB8
    go_wp2
    clear x0
    go_loopw [56] (fun x wr => ∃ i : Nat, i ≤ n ∧ x = .int .i64 i ∧ Hid (PIn w wr g n c g' m c' own F H bO gO N (rowsL m (allP H m m) i (fun _ => 0))))
      (fun x _ => n - (intOf x).toNat)
    case atStart => exact ⟨0, by omega, rfl, HP0⟩
    case round =>
      clear HP0
      obtain ⟨i, hi, rfl, HP⟩ := hrel
      have hzr := HP.out.bel.size
      have hlx : w.heap.size < wr.heap.size := HP.out.x.lt
      have hly : w.heap.size + 1 < wr.heap.size := HP.out.y.lt
      have hlb : bO < wr.heap.size := HP.out.b.lt
      have hlo : gO < wr.heap.size := HP.out.o.lt
      have x0 : wr.cell? ⟨w.heap.size, 0, none⟩ = some (.slice (some ⟨g, 0, none⟩) n c) := HP.out.x.cell (by omega)
      have x1 : wr.cell? ⟨w.heap.size, 1, none⟩ = some (.bool own) := HP.out.x.cell (by omega)
      have y0 : wr.cell? ⟨w.heap.size + 1, 0, none⟩ = some (.slice (some ⟨g', 0, none⟩) m c') := HP.out.y.cell (by omega)
      have y1 : wr.cell? ⟨w.heap.size + 1, 1, none⟩ = some (.bool own) := HP.out.y.cell (by omega)
      by_cases hlt : i < n
      · go_wp2_with fail
        refine (grEdges_any g' m c' H own _ hm16 (by first | exact HP.out.h | exact HP.out.h.drew)).mono ?_
        rintro e w3 ⟨A, dd, k3, G, rfl, hdl, hd, hss, hb3⟩
        have HP3 := hide (HP.out.all hb3)
        have hz3 := hb3.size
        obtain ⟨P, hP⟩ : ∃ P, (allP H m m) = P := ⟨_, rfl⟩
        have hmem : ∀ t (ht : t < P.length), P[t].1 < P[t].2 ∧ P[t].2 < m := fun t ht => by
          have h := (allP_iff H m P[t] m).1 (by rw [hP]; exact List.getElem_mem ht)
          exact ⟨h.2.1, h.2.2.1⟩
        have hmem2 := hide hmem
        try simp only [id_eq]
        rw [hP] at hdl hss
        have HSS := hide hss
        have HDL := hide hdl
        have HPE := hide hP
        have hloO : gO < wr.heap.size := hlo
        have HSSz := HSS
        obtain ⟨z0, hz0⟩ : ∃ z, wr.heap.size = z := ⟨_, rfl⟩
        rw [hz0] at HSS hz3 hloO
        clear HSSz hb3 hss hmem hP x0 x1 y0 y1 hlx hly hlb hlo hdl
        go_wp2
        go_loopw [62] (fun x w4 => ∃ t : Nat, t ≤ dd ∧ x = .int .i64 t ∧ z0 ≤ w4.heap.size ∧ Hid (PIn w w4 g n c g' m c' own F H bO gO N (lkL (inRow m i) (P.take t) (rowsL m (allP H m m) i (fun _ => 0)))) ∧ Hid (SS w4 (z0 + 1) w3.heap.size A dd G (fun _ => 2) (fun _ => 2) (pairR P)))
          (fun x _ => dd - (intOf x).toNat)
        case atStart => exact ⟨0, by omega, rfl, hz3, HP3, HSS⟩
        case round =>
          clear HP3 HSS
          obtain ⟨t, ht, rfl, hzt, HP4, HSS4⟩ := hrel
          by_cases hltt : t < dd
          · have htl : t < P.length := by rw [← HDL.out]; exact hltt
            obtain ⟨b, off, rfl, hbl, hcA, _⟩ := HSS4.out.top t hltt
            obtain ⟨hG1, hG2, haG, _⟩ := HSS4.out.row t hltt
            have hpt := pair_at htl
            have e0 : wr.cell? ⟨G t, 0, none⟩ = some (.int .i64 (P[t].1 : Nat)) := by rw [← hpt.1]; exact haG.cell (by omega)
            have e1 : wr.cell? ⟨G t, 1, none⟩ = some (.int .i64 (P[t].2 : Nat)) := by rw [← hpt.2]; exact haG.cell (by omega)
            have hq := hmem2.out t htl
            obtain ⟨p1, hp1⟩ : ∃ a, P[t].1 = a := ⟨_, rfl⟩
            obtain ⟨p2, hp2⟩ : ∃ a, P[t].2 = a := ⟨_, rfl⟩
            have d0 : wr.cell? ⟨bO, 0, none⟩ = some (.slice (some ⟨gO, 0, none⟩) N N) := HP4.out.b.cell (by omega)
            have d1 : wr.cell? ⟨bO, 1, none⟩ = some (.bool own) := HP4.out.b.cell (by omega)
            rw [hp1] at e0 hq
            rw [hp2] at e1 hq
            have hV1 := hrow.out i p1 hlt (by omega)
            have hV2 := hrow.out i p2 hlt (by omega)
            obtain ⟨mi, hmi⟩ : ∃ a, m * i = a := ⟨_, rfl⟩
            have hmc : (m : Int) * (i : Int) = (mi : Int) := by rw [← hmi, Int.natCast_mul]
            have hmw : IntKind.i64.wrap (mi : Int) = (mi : Int) := IntWalk.i64_in _ (by omega)
            rw [hmi] at hV1 hV2
            have hw1 : IntKind.i64.wrap ((mi : Int) + (p1 : Int)) = (mi : Int) + (p1 : Int) := IntWalk.i64_in _ (by omega)
            have hw2 : IntKind.i64.wrap ((mi : Int) + (p2 : Int)) = (mi : Int) + (p2 : Int) := IntWalk.i64_in _ (by omega)
            have HMI := hide hmi
            have HPQ : Hid (P[t].1 = p1 ∧ P[t].2 = p2) := hide ⟨hp1, hp2⟩
            clear haG hpt hp1 hp2 hmi
            go_wp2_with fail
            go_still_tail 15, (by kernel_rfl)
            change wpList _ _ _ _ _ wr.drew
            go_wp2_with (go_at_call 40; refine (grAdd_at _ _ _ _ _ (mi + p1) (mi + p2) _ _ _ hnm hV1 hV2 (by omega) (by omega) HP4.out.lt (by first | exact HP4.out.o | exact HP4.out.o.drew)).mono ?_; rintro e w5 ⟨rfl, ha5, hg5⟩)
            have hlt5 := lk_lt (n := N) (i := mi + p1) (j := mi + p2) (by omega) (by omega) HP4.out.lt
            have HP5 := hide ((HP4.out.drewN 1).step ha5 hlt5 hg5)
            have HSS5 := hide (HSS4.out.drew.kept (KB.of_grown hg5 (Nat.le_refl gO) (Nat.lt_succ_self gO)) (.inl (by omega)))
            have hz5 := hg5.size
            clear ha5 hg5 hlt5
            go_roundw
            case rel =>
              refine ⟨t + 1, by omega, by go_num, ?_, ?_, HSS5⟩
              · have h : wr.heap.size ≤ w5.heap.size := hz5
                exact Nat.le_trans hzt h
              · refine hide (HP5.out.to ?_)
                obtain ⟨hp1, hp2⟩ := HPQ.out
                rw [take_snoc htl, lkL_snoc]
                simp only [inRow]; rw [hp1, hp2, HMI.out]
            case measure => simp [intOf]; omega
          · have hte : t = dd := by omega
            subst hte
            go_wp2
            refine ⟨⟨i + 1, by omega, by go_num, hide (HP4.out.to ?_)⟩, by simp [intOf]; omega⟩
            rw [HDL.out, List.take_length, ← HPE.out]
            rfl
      · have hie : n = i := by omega
        subst hie
        go_wp2
        have HP0 := HP
        clear HP
        have HP0 : Hid (PIn w wr g n c g' m c' own F H bO gO N (colsL m (allP F n n) 0 (rowsL m (allP H m m) n (fun _ => 0)))) := HP0
        clear hi hlt hzr hlx hly hlb hlo x0 x1 y0 y1
        go_loopw [87] (fun x wr => ∃ i : Nat, i ≤ m ∧ x = .int .i64 i ∧ Hid (PIn w wr g n c g' m c' own F H bO gO N (colsL m (allP F n n) i (rowsL m (allP H m m) n (fun _ => 0)))))
          (fun x _ => m - (intOf x).toNat)
        case atStart => exact ⟨0, by omega, rfl, HP0⟩
        case round =>
          clear HP0
          obtain ⟨i, hi, rfl, HP⟩ := hrel
          have hzr := HP.out.bel.size
          have hlx : w.heap.size < wr.heap.size := HP.out.x.lt
          have hly : w.heap.size + 1 < wr.heap.size := HP.out.y.lt
          have hlb : bO < wr.heap.size := HP.out.b.lt
          have hlo : gO < wr.heap.size := HP.out.o.lt
          have x0 : wr.cell? ⟨w.heap.size, 0, none⟩ = some (.slice (some ⟨g, 0, none⟩) n c) := HP.out.x.cell (by omega)
          have x1 : wr.cell? ⟨w.heap.size, 1, none⟩ = some (.bool own) := HP.out.x.cell (by omega)
          have y0 : wr.cell? ⟨w.heap.size + 1, 0, none⟩ = some (.slice (some ⟨g', 0, none⟩) m c') := HP.out.y.cell (by omega)
          have y1 : wr.cell? ⟨w.heap.size + 1, 1, none⟩ = some (.bool own) := HP.out.y.cell (by omega)
          by_cases hlt : i < m
          · go_wp2_with fail
            refine (grEdges_any g n c F own _ hn16 (by first | exact HP.out.f | exact HP.out.f.drew)).mono ?_
            rintro e w3 ⟨A, dd, k3, G, rfl, hdl, hd, hss, hb3⟩
            have HP3 := hide (HP.out.all hb3)
            have hz3 := hb3.size
            obtain ⟨P, hP⟩ : ∃ P, (allP F n n) = P := ⟨_, rfl⟩
            have hmem : ∀ t (ht : t < P.length), P[t].1 < P[t].2 ∧ P[t].2 < n := fun t ht => by
              have h := (allP_iff F n P[t] n).1 (by rw [hP]; exact List.getElem_mem ht)
              exact ⟨h.2.1, h.2.2.1⟩
            have hmem2 := hide hmem
            try simp only [id_eq]
            rw [hP] at hdl hss
            have HSS := hide hss
            have HDL := hide hdl
            have HPE := hide hP
            have hloO : gO < wr.heap.size := hlo
            have HSSz := HSS
            obtain ⟨z0, hz0⟩ : ∃ z, wr.heap.size = z := ⟨_, rfl⟩
            rw [hz0] at HSS hz3 hloO
            clear HSSz hb3 hss hmem hP x0 x1 y0 y1 hlx hly hlb hlo hdl
            go_wp2
            go_loopw [93] (fun x w4 => ∃ t : Nat, t ≤ dd ∧ x = .int .i64 t ∧ z0 ≤ w4.heap.size ∧ Hid (PIn w w4 g n c g' m c' own F H bO gO N (lkL (inCol m i) (P.take t) (colsL m (allP F n n) i (rowsL m (allP H m m) n (fun _ => 0))))) ∧ Hid (SS w4 (z0 + 1) w3.heap.size A dd G (fun _ => 2) (fun _ => 2) (pairR P)))
              (fun x _ => dd - (intOf x).toNat)
            case atStart => exact ⟨0, by omega, rfl, hz3, HP3, HSS⟩
            case round =>
              clear HP3 HSS
              obtain ⟨t, ht, rfl, hzt, HP4, HSS4⟩ := hrel
              by_cases hltt : t < dd
              · have htl : t < P.length := by rw [← HDL.out]; exact hltt
                obtain ⟨b, off, rfl, hbl, hcA, _⟩ := HSS4.out.top t hltt
                obtain ⟨hG1, hG2, haG, _⟩ := HSS4.out.row t hltt
                have hpt := pair_at htl
                have e0 : wr.cell? ⟨G t, 0, none⟩ = some (.int .i64 (P[t].1 : Nat)) := by rw [← hpt.1]; exact haG.cell (by omega)
                have e1 : wr.cell? ⟨G t, 1, none⟩ = some (.int .i64 (P[t].2 : Nat)) := by rw [← hpt.2]; exact haG.cell (by omega)
                have hq := hmem2.out t htl
                obtain ⟨p1, hp1⟩ : ∃ a, P[t].1 = a := ⟨_, rfl⟩
                obtain ⟨p2, hp2⟩ : ∃ a, P[t].2 = a := ⟨_, rfl⟩
                have d0 : wr.cell? ⟨bO, 0, none⟩ = some (.slice (some ⟨gO, 0, none⟩) N N) := HP4.out.b.cell (by omega)
                have d1 : wr.cell? ⟨bO, 1, none⟩ = some (.bool own) := HP4.out.b.cell (by omega)
                rw [hp1] at e0 hq
                rw [hp2] at e1 hq
                have hV1 := hrow.out p1 i (by omega) hlt
                have hV2 := hrow.out p2 i (by omega) hlt
                obtain ⟨ma, hma⟩ : ∃ a, m * p1 = a := ⟨_, rfl⟩
                obtain ⟨mb, hmb⟩ : ∃ a, m * p2 = a := ⟨_, rfl⟩
                have hac : (m : Int) * (p1 : Int) = (ma : Int) := by rw [← hma, Int.natCast_mul]
                have hbc : (m : Int) * (p2 : Int) = (mb : Int) := by rw [← hmb, Int.natCast_mul]
                rw [hma] at hV1
                rw [hmb] at hV2
                have hmaw : IntKind.i64.wrap (ma : Int) = (ma : Int) := IntWalk.i64_in _ (by omega)
                have hmbw : IntKind.i64.wrap (mb : Int) = (mb : Int) := IntWalk.i64_in _ (by omega)
                have hw1 : IntKind.i64.wrap ((ma : Int) + (i : Int)) = (ma : Int) + (i : Int) := IntWalk.i64_in _ (by omega)
                have hw2 : IntKind.i64.wrap ((mb : Int) + (i : Int)) = (mb : Int) + (i : Int) := IntWalk.i64_in _ (by omega)
                have HMA := hide hma
                have HMB := hide hmb
                have HPQ : Hid (P[t].1 = p1 ∧ P[t].2 = p2) := hide ⟨hp1, hp2⟩
                clear haG hpt hp1 hp2 hma hmb
                go_wp2_with fail
                go_still_tail 15, (by kernel_rfl)
                change wpList _ _ _ _ _ wr.drew
                go_wp2_with (go_at_call 40; refine (grAdd_at _ _ _ _ _ (ma + i) (mb + i) _ _ _ hnm hV1 hV2 (by omega) (by omega) HP4.out.lt (by first | exact HP4.out.o | exact HP4.out.o.drew)).mono ?_; rintro e w5 ⟨rfl, ha5, hg5⟩)
                have hlt5 := lk_lt (n := N) (i := ma + i) (j := mb + i) (by omega) (by omega) HP4.out.lt
                have HP5 := hide ((HP4.out.drewN 1).step ha5 hlt5 hg5)
                have HSS5 := hide (HSS4.out.drew.kept (KB.of_grown hg5 (Nat.le_refl gO) (Nat.lt_succ_self gO)) (.inl (by omega)))
                have hz5 := hg5.size
                clear ha5 hg5 hlt5
                go_roundw
                case rel =>
                  refine ⟨t + 1, by omega, by go_num, ?_, ?_, HSS5⟩
                  · have h : wr.heap.size ≤ w5.heap.size := hz5
                    exact Nat.le_trans hzt h
                  · refine hide (HP5.out.to ?_)
                    obtain ⟨hp1, hp2⟩ := HPQ.out
                    rw [take_snoc htl, lkL_snoc]
                    simp only [inCol]; rw [hp1, hp2, HMA.out, HMB.out]
                case measure => simp [intOf]; omega
              · have hte : t = dd := by omega
                subst hte
                go_wp2
                refine ⟨⟨i + 1, by omega, by go_num, hide (HP4.out.to ?_)⟩, by simp [intOf]; omega⟩
                rw [HDL.out, List.take_length, ← HPE.out]
                rfl
          · have hie : m = i := by omega
            subst hie
            obtain ⟨r0, r1, z0, z1⟩ : _ ∧ _ ∧ _ ∧ _ := ⟨HP.out.r.cell (k := 0) (by omega), HP.out.r.cell (k := 1) (by omega), HP.out.r.frozen 0, HP.out.r.frozen 1⟩
            have b0 : wr.cell? ⟨bO, 0, none⟩ = some (.slice (some ⟨gO, 0, none⟩) N N) := HP.out.b.cell (by omega)
            have b1 : wr.cell? ⟨bO, 1, none⟩ = some (.bool own) := HP.out.b.cell (by omega)
            have hne := HP.out.o.ne_ HP.out.r (by decide)
            have hlo2 := HP.out.lo
            go_wp2
            refine bodyPost_ret (v := .tuple #[.agg #[.slice (some ⟨gO, 0, none⟩) N N, .bool own], .bool true]) (by simp [results, Tryd.results12, go_sem, r0, r1]) rfl ?_
            have hsz2 := HP.out.bel.size
            exact ⟨gO, N, rfl, by omega, (HP.out.o.far (by simp; omega) _).far (by simp; omega) _, by have h := HP.out.bel; go_grown⟩
end Go.Proofs.YtdpoceijnbbmgaaDoor
