import Derived.Test.YtmkdikoogbedkaaDoorFH
namespace Go.Proofs.YtmkdikoogbedkaaDoor
open Go.RowKit
set_option maxHeartbeats 1000000
theorem EL.mono {w : World} {B B' : Nat} {v : Value} {P : List (Nat × Nat)} (h : EL w B v P) (hB : B' ≤ B) : EL w B' v P := by
  obtain ⟨Vs, h1, h2⟩ := h
  refine ⟨Vs, ⟨h1.1, ?_⟩, fun k hk => ?_⟩
  · rcases h1.2 with h | ⟨g, cap, cur, e, hb, h⟩
    · exact .inl h
    · exact .inr ⟨g, cap, cur, e, by omega, h⟩
  · obtain ⟨g, e, hb, ha⟩ := h2 k hk
    exact ⟨g, e, by omega, ha⟩
theorem EL.grown {w w' : World} {B : Nat} {v : Value} {P : List (Nat × Nat)} {gn m : Nat} {f : Nat → Value} (h : EL w B v P) (hg : w.grownBy w' (some gn)) (ha : Arr w 3 gn m f) (hlt : gn < B) : EL w' B v P := by
  obtain ⟨Vs, h1, h2⟩ := h
  refine ⟨Vs, h1.kept (row := some gn) hg (by right; exact fun e => own_type h1 ha e.symm), fun k hk => ?_⟩
  obtain ⟨g, e, hB, ha2⟩ := h2 k hk
  exact ⟨g, e, hB, ha2.of_block (hg.block g ha2.lt (by intro e; injection e with e; omega))⟩
/-- The pairs of the first k places. -/
def upTo (P : List (Nat × Nat)) (k : Nat) : Nat → Nat → Prop := fun a b => ∃ j, j < k ∧ P[j]? = some (a, b)
theorem upTo_zero (P : List (Nat × Nat)) (a b : Nat) : ¬ upTo P 0 a b := by rintro ⟨j, hj, _⟩; omega
theorem upTo_succ {P : List (Nat × Nat)} {k : Nat} (hk : k < P.length) (a b : Nat) : upTo P (k + 1) a b ↔ (upTo P k a b ∨ (a = P[k].1 ∧ b = P[k].2)) := by
  constructor
  · rintro ⟨j, hj, h⟩
    by_cases e : j = k
    · subst e
      rw [List.getElem?_eq_getElem hk] at h
      injection h with h
      right; rw [h]; exact ⟨rfl, rfl⟩
    · exact .inl ⟨j, by omega, h⟩
  · rintro (⟨j, hj, h⟩ | ⟨rfl, rfl⟩)
    · exact ⟨j, by omega, h⟩
    · exact ⟨k, by omega, by rw [List.getElem?_eq_getElem hk]⟩
theorem upTo_all {P : List (Nat × Nat)} {m : Nat} (hm : P.length = m) (a b : Nat) : upTo P m a b ↔ (a, b) ∈ P := by
  subst hm
  rw [List.mem_iff_getElem?]
  constructor
  · rintro ⟨j, _, h⟩; exact ⟨j, h⟩
  · rintro ⟨j, h⟩; exact ⟨j, (List.getElem?_eq_some_iff.1 h).1, h⟩
theorem renSpec_no (g n c : Nat) (f v : Nat → Int) (own : Bool) (A : Option Addr) (m mc : Nat) (w : World) (hn : n ≤ 1048576) (hm : m ≤ 1048576) (hmc : m ≤ mc) (hno : (goodB n f && namesB n m v) = false) (ha : Arr w 3 g n (iv f)) (hs : Src w A m (iv v)) :
    Calls Tryd.prog 11 #[.agg #[.slice (some ⟨g, 0, none⟩) n c, .bool own], .slice A m mc] w (GraphNo w) := by
  have HA := hide ha
  have HS := hide hs
  clear ha hs
  cases hgd : goodB n f
  · clear hno
    go_enter Tryd.func11, Tryd.ntmps11
    go_wp2_with fail
    refine (grGood_any _ _ _ f _ _ hn ((HA.out.alloc _).alloc _)).mono ?_
    rintro e w1 ⟨rfl, hb1⟩
    simp only [hgd]
    have HR := hide ((Arr.box_at (w.alloc (.cells #[.slice (some ⟨g, 0, none⟩) n c, .bool own] 31)) 31 (.slice none 0 0) (.bool false) (b := w.heap.size + 1) (by simp)).all hb1)
    have HB := hide ((by go_grown : Below w.heap.size w _).trans (hb1.mono (by simp; omega)))
    clear hb1
    have r0 := HR.out.cell (k := 0) (by omega)
    have r1 := HR.out.cell (k := 1) (by omega)
    have z0 := HR.out.frozen 0
    have z1 := HR.out.frozen 1
    have hl := HR.out.lt
    go_wp2
    refine bodyPost_ret (v := .tuple #[.agg #[.slice none 0 0, .bool false], .bool false]) (by simp [results, Tryd.results11, go_sem, r0, r1]) rfl ?_
    exact ⟨rfl, by have h := HB.out; have hz := h.size; go_grown⟩
  · have hn16 := (goodB_iff.1 hgd).n16
    have hw : namesB n m v = false := by simpa [hgd] using hno
    clear hno
    go_enter Tryd.func11, Tryd.ntmps11
    go_wp2_with fail
    refine (grGood_any _ _ _ f _ _ hn ((HA.out.alloc _).alloc _)).mono ?_
    rintro e w1 ⟨rfl, hb1⟩
    simp only [hgd]
    have HX := hide (((Arr.box w 31 (.slice (some ⟨g, 0, none⟩) n c) (.bool own)).alloc (.cells #[.slice none 0 0, .bool false] 31)).all hb1)
    have HR := hide ((Arr.box_at (w.alloc (.cells #[.slice (some ⟨g, 0, none⟩) n c, .bool own] 31)) 31 (.slice none 0 0) (.bool false) (b := w.heap.size + 1) (by simp)).all hb1)
    have HB := hide ((by go_grown : Below w.heap.size w _).trans (hb1.mono (by simp; omega)))
    have HS1 := hide (HS.out.below HB.out)
    clear hb1
    have x0 : w1.cell? ⟨w.heap.size, 0, none⟩ = some (.slice (some ⟨g, 0, none⟩) n c) := HX.out.cell (by omega)
    have r0 := HR.out.cell (k := 0) (by omega)
    have r1 := HR.out.cell (k := 1) (by omega)
    have z0 := HR.out.frozen 0
    have z1 := HR.out.frozen 1
    have hl := HR.out.lt
    go_wp2_with (go_at_call 32; refine (grNames_any n _ _ _ v _ hn16 hm hmc HS1.out).mono ?_; rintro e w2 ⟨rfl, rfl⟩; simp only [hw])
    refine bodyPost_ret (v := .tuple #[.agg #[.slice none 0 0, .bool false], .bool false]) (by simp [results, Tryd.results11, go_sem, r0, r1]) rfl ?_
    exact ⟨rfl, by have h := HB.out; have hz := h.size; go_grown⟩
theorem renSpec_ok (g n c : Nat) (F V : Nat → Nat) (own : Bool) (b off mc : Nat) (w : World) (hn : n ≤ 16) (hV : ∀ j, j < n → V j < n) (hmc : n ≤ mc) (hgd : goodB n (nv F) = true) (hnm : namesB n n (nv V) = true)
    (ha : Arr w 3 g n (iv (nv F))) (hs : Src w (some ⟨b, off, none⟩) n (iv (nv V))) (hbl : b < w.heap.size) :
    Calls Tryd.prog 11 #[.agg #[.slice (some ⟨g, 0, none⟩) n c, .bool own], .slice (some ⟨b, off, none⟩) n mc] w fun e w' => ∃ G, GraphOk w n (nv G) own e w' ∧ LinkTo n V (fun x y => x < y ∧ (F x).testBit y = true) G := by
  have hmk := run_make_row' (P := Tryd.prog) 27 3 (.int .i64 0) 8 Tryd.underlying27 int_info rfl .i64 .i64 n (by omega) (by omega)
  have HA := hide ha
  have HS := hide hs
  have HV := hide hV
  have hgl := ha.lt
  clear ha hs hV
  go_enter Tryd.func11, Tryd.ntmps11
  go_wp2_with fail
  refine (grGood_any _ _ _ (nv F) _ _ (by omega) ((HA.out.alloc _).alloc _)).mono ?_
  rintro e w1 ⟨rfl, hb1⟩
  simp only [hgd]
  have HX := hide (((Arr.box w 31 (.slice (some ⟨g, 0, none⟩) n c) (.bool own)).alloc (.cells #[.slice none 0 0, .bool false] 31)).all hb1)
  have HR := hide ((Arr.box_at (w.alloc (.cells #[.slice (some ⟨g, 0, none⟩) n c, .bool own] 31)) 31 (.slice none 0 0) (.bool false) (b := w.heap.size + 1) (by simp)).all hb1)
  have HB := hide ((by go_grown : Below w.heap.size w _).trans (hb1.mono (by simp; omega)))
  have HS1 := hide (HS.out.below HB.out)
  have hlr := HR.out.lt
  have hsz := HB.out.size
  have hl := HX.out.lt
  clear hb1
  have x0 : w1.cell? ⟨w.heap.size, 0, none⟩ = some (.slice (some ⟨g, 0, none⟩) n c) := HX.out.cell (by omega)
  have x1 : w1.cell? ⟨w.heap.size, 1, none⟩ = some (.bool own) := HX.out.cell (by omega)
  go_wp2_with (go_at_call 32; refine (grNames_any n _ _ _ (nv V) _ hn (by omega) hmc HS1.out).mono ?_; rintro e w1 ⟨rfl, rfl⟩; simp only [hnm])
  go_region
  · go_wp2_with fail
    refine (grEdges_any g n c F own _ hn (by first | exact ((HA.out.below HB.out hgl).alloc _).alloc _ | exact (((HA.out.below HB.out hgl).alloc _).alloc _).drew)).mono ?_
    rintro e w2 ⟨A, m, d, P, rfl, hm, hm2, hel, hpairs, hb2⟩
    have HN := hide (Arr.all (t := 3) (g := w1.heap.size) (n := n) (f := iv (nv fun _ => 0)) (by exact Arr.drew (((Arr.made w1 (.int .i64 0) n 3).alloc _).congr (fun _ _ => rfl))) hb2)
    have HBX := hide (Arr.all (t := 31) (g := w1.heap.size + 1) (n := 2) (f := bx (.slice (some ⟨w1.heap.size, 0, none⟩) n n) (.bool own)) (by exact Arr.drew (Arr.box_at (w1.alloc (.cells (madeCells #[.int .i64 0] n) 3)) 31 _ _ (by simp))) hb2)
    have hz2 := hb2.size
    simp only [World.size_drew, World.size_alloc] at hz2
    have HB2 := hide (show Below w.heap.size w w2 from HB.out.trans ((by go_grown : Below w1.heap.size w1 _).trans (hb2.mono (by simp; omega)) |>.mono hsz))
    have HB12 := hide (show Below w1.heap.size w1 w2 from (by go_grown : Below w1.heap.size w1 _).trans (hb2.mono (by simp; omega)))
    have HR2 := hide (HR.out.all HB12.out)
    have HEL := hide (show EL w2 (w1.heap.size + 2) _ P from by simpa [World.size_alloc] using hel.mono (by simp))
    have HPR := hide hpairs
    have HS2 := hide (HS.out.below HB2.out)
    have HM := hide hm
    clear hel hpairs hb2 hm
    go_wp2
    go_loopw [31] (fun x wr => ∃ (k : Nat) (G : Nat → Nat), k ≤ m ∧ x = .int .i64 k ∧ Arr wr 3 (w1.heap.size) n (iv (nv G)) ∧ (∀ j, j < n → G j < 65536) ∧ LinkTo n V (upTo P k) G ∧ w2.grownBy wr (some (w1.heap.size))) (fun x _ => m - (intOf x).toNat)
    case atStart => exact ⟨0, fun _ => 0, by omega, rfl, HN.out, fun _ _ => by simp, LinkTo.zero n V (upTo_zero P), grownBy_of_below (Below.refl _ _) _⟩
    case round =>
      obtain ⟨k, G, hk, rfl, ha, hG, hL, hg⟩ := hrel
      have hbr : Below w1.heap.size w1 wr := HB12.out.grown hg HB12.out.size (fun j hj => by injection hj; omega)
      have HBr := hide (HB2.out.grown hg HB2.out.size (fun j hj => by injection hj; omega))
      have HRr := hide (HR.out.all hbr)
      have hbx := HBX.out.grown hg (by omega)
      have n0 : wr.cell? ⟨w1.heap.size + 1, 0, none⟩ = some (.slice (some ⟨w1.heap.size, 0, none⟩) n n) := hbx.cell (by omega)
      have n1 : wr.cell? ⟨w1.heap.size + 1, 1, none⟩ = some (.bool own) := hbx.cell (by omega)
      have hel := HEL.out.grown hg HN.out (by omega)
      have HSr := hide (HS2.out.grown hg (by omega))
      have hnl := hbx.lt
      have HAr := hide ha
      have HGr := hide hG
      have HLr := hide hL
      have HGB := hide hg
      clear ha hG hL hg hbx hbr
      by_cases hlt : k < m
      · have hkP : k < P.length := by rw [HM.out]; exact hlt
        obtain ⟨bb, oo, gp, rfl, hc1, hpa, hgp, hbb⟩ := hel.read HM.out hkP
        obtain ⟨a, hae⟩ : ∃ a, P[k].1 = a := ⟨_, rfl⟩
        obtain ⟨y, hye⟩ : ∃ y, P[k].2 = y := ⟨_, rfl⟩
        have hmem := (HPR.out a y).1 (by rw [← hae, ← hye]; exact List.getElem_mem hkP)
        have HST := hide (fun p q => upTo_succ hkP p q)
        have hp0 : wr.cell? ⟨gp, 0, none⟩ = some (.int .i64 (a : Nat)) := by rw [← hae]; exact hpa.cell (by omega)
        have hp1 : wr.cell? ⟨gp, 1, none⟩ = some (.int .i64 (y : Nat)) := by rw [← hye]; exact hpa.cell (by omega)
        have hay : a < y := hmem.1
        have hyn : y < n := hmem.2.1
        have han : a < n := Nat.lt_trans hay hyn
        have hva : wr.cell? ⟨b, off + a, none⟩ = some (.int .i64 (V a : Nat)) := by
          obtain ⟨b', off', e, _, h⟩ := HSr.out a (by omega)
          injection e with e; injection e with e1 e2 e3; subst e1; subst e2; exact h
        have hvy : wr.cell? ⟨b, off + y, none⟩ = some (.int .i64 (V y : Nat)) := by
          obtain ⟨b', off', e, _, h⟩ := HSr.out y hyn
          injection e with e; injection e with e1 e2 e3; subst e1; subst e2; exact h
        rw [hae, hye] at HST
        clear hel hpa hmem hae hye
        go_wp2
        go_still_tail 13, (by kernel_rfl)
        change wpList _ _ _ _ _ wr.drew
        go_wp2_with fail
        refine (grAdd_any _ n n own G _ _ _ hn (HV.out a (by omega)) (HV.out y hyn) HGr.out HAr.out.drew).mono ?_
        rintro e w5 ⟨rfl, ha5, hg5⟩
        go_wp2
        go_roundw
        case rel =>
          refine ⟨k + 1, _, by omega, by go_num, ha5, lk_lt (by have := HV.out a (by omega); omega) (by have := HV.out y hyn; omega) HGr.out, HLr.out.step (by omega) hyn fun p q _ _ => HST.out p q, grownBy_trans HGB.out (grownBy_trans (grownBy_of_below (Below.drew (Below.refl _ _)) _) hg5)⟩
        case measure => simp [intOf]; omega
      · have hkm : k = m := by omega
        subst hkm
        clear hel
        have r0 := HRr.out.cell (k := 0) (by omega)
        have r1 := HRr.out.cell (k := 1) (by omega)
        have z0 := HRr.out.frozen 0
        have z1 := HRr.out.frozen 1
        have hlr2 := HRr.out.lt
        go_wp2
        refine bodyPost_ret (v := .tuple #[.agg #[.slice (some ⟨w1.heap.size, 0, none⟩) n n, .bool own], .bool true]) (by simp [results, Tryd.results11, go_sem, r0, r1]) rfl ?_
        refine ⟨G, ⟨w1.heap.size, rfl, by omega, (HAr.out.far (by simp; omega) _).far (by simp; omega) _, by have h := HBr.out; have hz := h.size; go_grown⟩, HLr.out.congr fun p q hp hq => ?_⟩
        rw [upTo_all HM.out, HPR.out p q]
        constructor
        · rintro ⟨h1, _, h3, _⟩; exact ⟨h1, h3⟩
        · rintro ⟨h1, h3⟩; exact ⟨h1, hq, h3, by omega⟩
  · go_wp2_with fail
    refine (grEdges_any g n c F own _ hn (by first | exact ((HA.out.below HB.out hgl).alloc _).alloc _ | exact (((HA.out.below HB.out hgl).alloc _).alloc _).drew)).mono ?_
    rintro e w2 ⟨A, m, d, P, rfl, hm, hm2, hel, hpairs, hb2⟩
    have HN := hide (Arr.all (t := 3) (g := w1.heap.size + 1) (n := n) (f := iv (nv fun _ => 0)) (by exact Arr.drew ((Arr.made_at (w1.alloc _) (.int .i64 0) n 3 (by simp) (fun _ _ => rfl)))) hb2)
    have HBX := hide (Arr.all (t := 31) (g := w1.heap.size) (n := 2) (f := bx (.slice (some ⟨w1.heap.size + 1, 0, none⟩) n n) (.bool own)) (by exact Arr.drew ((Arr.box w1 31 _ _).alloc _)) hb2)
    have hz2 := hb2.size
    simp only [World.size_drew, World.size_alloc] at hz2
    have HB2 := hide (show Below w.heap.size w w2 from HB.out.trans ((by go_grown : Below w1.heap.size w1 _).trans (hb2.mono (by simp; omega)) |>.mono hsz))
    have HB12 := hide (show Below w1.heap.size w1 w2 from (by go_grown : Below w1.heap.size w1 _).trans (hb2.mono (by simp; omega)))
    have HR2 := hide (HR.out.all HB12.out)
    have HEL := hide (show EL w2 (w1.heap.size + 2) _ P from by simpa [World.size_alloc] using hel.mono (by simp))
    have HPR := hide hpairs
    have HS2 := hide (HS.out.below HB2.out)
    have HM := hide hm
    clear hel hpairs hb2 hm
    go_wp2
    go_loopw [31] (fun x wr => ∃ (k : Nat) (G : Nat → Nat), k ≤ m ∧ x = .int .i64 k ∧ Arr wr 3 (w1.heap.size + 1) n (iv (nv G)) ∧ (∀ j, j < n → G j < 65536) ∧ LinkTo n V (upTo P k) G ∧ w2.grownBy wr (some (w1.heap.size + 1))) (fun x _ => m - (intOf x).toNat)
    case atStart => exact ⟨0, fun _ => 0, by omega, rfl, HN.out, fun _ _ => by simp, LinkTo.zero n V (upTo_zero P), grownBy_of_below (Below.refl _ _) _⟩
    case round =>
      obtain ⟨k, G, hk, rfl, ha, hG, hL, hg⟩ := hrel
      have hbr : Below w1.heap.size w1 wr := HB12.out.grown hg HB12.out.size (fun j hj => by injection hj; omega)
      have HBr := hide (HB2.out.grown hg HB2.out.size (fun j hj => by injection hj; omega))
      have HRr := hide (HR.out.all hbr)
      have hbx := HBX.out.grown hg (by omega)
      have n0 : wr.cell? ⟨w1.heap.size, 0, none⟩ = some (.slice (some ⟨w1.heap.size + 1, 0, none⟩) n n) := hbx.cell (by omega)
      have n1 : wr.cell? ⟨w1.heap.size, 1, none⟩ = some (.bool own) := hbx.cell (by omega)
      have hel := HEL.out.grown hg HN.out (by omega)
      have HSr := hide (HS2.out.grown hg (by omega))
      have hnl := hbx.lt
      have HAr := hide ha
      have HGr := hide hG
      have HLr := hide hL
      have HGB := hide hg
      clear ha hG hL hg hbx hbr
      by_cases hlt : k < m
      · have hkP : k < P.length := by rw [HM.out]; exact hlt
        obtain ⟨bb, oo, gp, rfl, hc1, hpa, hgp, hbb⟩ := hel.read HM.out hkP
        obtain ⟨a, hae⟩ : ∃ a, P[k].1 = a := ⟨_, rfl⟩
        obtain ⟨y, hye⟩ : ∃ y, P[k].2 = y := ⟨_, rfl⟩
        have hmem := (HPR.out a y).1 (by rw [← hae, ← hye]; exact List.getElem_mem hkP)
        have HST := hide (fun p q => upTo_succ hkP p q)
        have hp0 : wr.cell? ⟨gp, 0, none⟩ = some (.int .i64 (a : Nat)) := by rw [← hae]; exact hpa.cell (by omega)
        have hp1 : wr.cell? ⟨gp, 1, none⟩ = some (.int .i64 (y : Nat)) := by rw [← hye]; exact hpa.cell (by omega)
        have hay : a < y := hmem.1
        have hyn : y < n := hmem.2.1
        have han : a < n := Nat.lt_trans hay hyn
        have hva : wr.cell? ⟨b, off + a, none⟩ = some (.int .i64 (V a : Nat)) := by
          obtain ⟨b', off', e, _, h⟩ := HSr.out a (by omega)
          injection e with e; injection e with e1 e2 e3; subst e1; subst e2; exact h
        have hvy : wr.cell? ⟨b, off + y, none⟩ = some (.int .i64 (V y : Nat)) := by
          obtain ⟨b', off', e, _, h⟩ := HSr.out y hyn
          injection e with e; injection e with e1 e2 e3; subst e1; subst e2; exact h
        rw [hae, hye] at HST
        clear hel hpa hmem hae hye
        go_wp2
        go_still_tail 13, (by kernel_rfl)
        change wpList _ _ _ _ _ wr.drew
        go_wp2_with fail
        refine (grAdd_any _ n n own G _ _ _ hn (HV.out a (by omega)) (HV.out y hyn) HGr.out HAr.out.drew).mono ?_
        rintro e w5 ⟨rfl, ha5, hg5⟩
        go_wp2
        go_roundw
        case rel =>
          refine ⟨k + 1, _, by omega, by go_num, ha5, lk_lt (by have := HV.out a (by omega); omega) (by have := HV.out y hyn; omega) HGr.out, HLr.out.step (by omega) hyn fun p q _ _ => HST.out p q, grownBy_trans HGB.out (grownBy_trans (grownBy_of_below (Below.drew (Below.refl _ _)) _) hg5)⟩
        case measure => simp [intOf]; omega
      · have hkm : k = m := by omega
        subst hkm
        clear hel
        have r0 := HRr.out.cell (k := 0) (by omega)
        have r1 := HRr.out.cell (k := 1) (by omega)
        have z0 := HRr.out.frozen 0
        have z1 := HRr.out.frozen 1
        have hlr2 := HRr.out.lt
        go_wp2
        refine bodyPost_ret (v := .tuple #[.agg #[.slice (some ⟨w1.heap.size + 1, 0, none⟩) n n, .bool own], .bool true]) (by simp [results, Tryd.results11, go_sem, r0, r1]) rfl ?_
        refine ⟨G, ⟨w1.heap.size + 1, rfl, by omega, (HAr.out.far (by simp; omega) _).far (by simp; omega) _, by have h := HBr.out; have hz := h.size; go_grown⟩, HLr.out.congr fun p q hp hq => ?_⟩
        rw [upTo_all HM.out, HPR.out p q]
        constructor
        · rintro ⟨h1, _, h3, _⟩; exact ⟨h1, h3⟩
        · rintro ⟨h1, h3⟩; exact ⟨h1, hq, h3, by omega⟩
end Go.Proofs.YtmkdikoogbedkaaDoor
