/-
spec.IsEvenEdges, walked.
-/
import Derived.Test.YtcpbbpgiicakcaaYC
namespace Go.Proofs.Ytcpbbpgiicakcaa
open Go.RowKit Go.BigFrame
set_option maxHeartbeats 1000000
def SpAns (w : World) (n : Nat) (F : Nat → Nat) (m : Nat) (ln : Nat → Nat) (R : Nat → Nat → Int) (e : Ending) (w' : World) : Prop :=
  Below w.heap.size w w' ∧ ((okS n F ln R m ∧ e = .returned (.tuple #[.bool (((paX R m : Nat) : Int) == 0), .bool true])) ∨ (¬ okS n F ln R m ∧ e = .returned (.tuple #[.bool false, .bool false])))
theorem evSpec_no (g n c m d : Nat) (f : Nat → Int) (own : Bool) (E : Option Addr) (w : World) (hn : n ≤ 1048576) (hgd : goodB n f = false) (ha : Arr w 3 g n (iv f)) :
    Calls Try.prog 39 #[.agg #[.slice (some ⟨g, 0, none⟩) n c, .bool own], .slice E m d] w (Two w (.bool false) false) := by
  have HA := hide ha
  have HG := hide hgd
  clear ha hgd
  go_enter Try.func39, Try.ntmps39
  go_wp2_with fail
  refine (grGood_any _ _ _ f _ _ hn (HA.out.alloc _)).mono ?_
  rintro e w1 ⟨rfl, hb1⟩
  simp only [HG.out]
  have HB1 := hide ((by go_grown : Below w.heap.size w _).trans (hb1.mono (by simp)))
  clear hb1
  go_wp2
  go_ret2
  exact ⟨rfl, HB1.out⟩
theorem evSpec_big (g n c m d : Nat) (f : Nat → Int) (own : Bool) (E : Option Addr) (w : World) (hn : n ≤ 1048576) (hm : 200 < m) (hgd : goodB n f = true) (ha : Arr w 3 g n (iv f)) :
    Calls Try.prog 39 #[.agg #[.slice (some ⟨g, 0, none⟩) n c, .bool own], .slice E m d] w (Two w (.bool false) false) := by
  have HA := hide ha
  have HG := hide hgd
  have hd : decide ((m : Int) > 200) = true := by simp; omega
  have hd2 : (200 : Int) < m := by omega
  clear ha hgd
  go_enter Try.func39, Try.ntmps39
  go_wp2_with fail
  refine (grGood_any _ _ _ f _ _ hn (HA.out.alloc _)).mono ?_
  rintro e w1 ⟨rfl, hb1⟩
  simp only [HG.out]
  have HB1 := hide ((by go_grown : Below w.heap.size w _).trans (hb1.mono (by simp)))
  clear hb1
  go_wp2
  go_ret2
  exact ⟨rfl, HB1.out⟩
set_option maxRecDepth 4000 in
theorem evSpec_ok (g n c m d : Nat) (F : Nat → Nat) (own : Bool) (E : Option Addr) (Ai : Nat → Option Addr) (ln C : Nat → Nat) (R : Nat → Nat → Int) (w : World) (hn1 : 1 ≤ n) (hn : n ≤ 16) (hgd : goodB n (nv F) = true) (hm : m ≤ 200) (hmd : m ≤ d)
    (ha : Arr w 3 g n (iv (nv F))) (hr : RD w E m Ai ln C R) :
    Calls Try.prog 39 #[.agg #[.slice (some ⟨g, 0, none⟩) n c, .bool own], .slice E m d] w (SpAns w n F m ln R) := by
  have eW : IntKind.i64.wrap ((n : Int) - 1) = (n : Int) - 1 := by rw [IntKind.wrap_i64]; omega
  have hd : decide ((m : Int) > 200) = false := by simp; omega
  have hd2 : ¬ (200 : Int) < m := by omega
  have HA := hide ha
  have HG := hide hgd
  have HR := hide hr
  clear ha hgd hr
  go_enter Try.func39, Try.ntmps39
  go_wp2_with fail
  refine (grGood_any _ _ _ (nv F) _ _ (by omega) (HA.out.alloc _)).mono ?_
  rintro e w1 ⟨rfl, hb1⟩
  simp only [HG.out]
  have hp := (Arr.box w 28 (.slice (some ⟨g, 0, none⟩) n c) (.bool own)).all hb1
  have c0 : w1.cell? ⟨w.heap.size, 0, none⟩ = some (.slice (some ⟨g, 0, none⟩) n c) := hp.cell (by omega)
  have c1 : w1.cell? ⟨w.heap.size, 1, none⟩ = some (.bool own) := hp.cell (by omega)
  have hpl := hp.lt
  have HA1 := hide ((HA.out.alloc _).all hb1)
  have HB1 := hide ((by go_grown : Below w.heap.size w _).trans (hb1.mono (by simp)))
  clear hb1 hp
  go_wp2
  go_loopw [24] (fun x wr => ∃ k : Nat, k ≤ m ∧ x = .int .i64 k ∧ Hid (okS n F ln R k) ∧ Below w1.heap.size w1 wr) (fun x _ => m - (intOf x).toNat)
  case atStart => exact ⟨0, by omega, rfl, hide (fun j hj => absurd hj (by omega)), by go_grown⟩
  case round =>
    obtain ⟨k, hk, rfl, HE, hb⟩ := hrel
    have p0 : wr.cell? ⟨w.heap.size, 0, none⟩ = some (.slice (some ⟨g, 0, none⟩) n c) := (hb.cell (p := ⟨w.heap.size, 0, none⟩) hpl).trans c0
    have p1 : wr.cell? ⟨w.heap.size, 1, none⟩ = some (.bool own) := (hb.cell (p := ⟨w.heap.size, 1, none⟩) hpl).trans c1
    by_cases hlt : k < m
    · obtain ⟨b, off, hA, hbl, hc0, hs0⟩ := HR.out k hlt
      have HBW := HB1.out.trans (hb.mono HB1.out.size)
      have hs1 := hs0.below HBW
      have hg1 := (HA1.out).all hb
      have hc1 : wr.cell? ⟨b, off + k, none⟩ = some (.slice (Ai k) (ln k) (C k)) := (HBW.cell (p := ⟨b, off + k, none⟩) hbl).trans hc0
      have HB := hide hb
      have HW := hide HBW
      subst hA
      have P0 : ∀ z : Later wr, z.w.cell? ⟨w.heap.size, 0, none⟩ = some (.slice (some ⟨g, 0, none⟩) n c) := fun z => z.cell p0
      have P1 : ∀ z : Later wr, z.w.cell? ⟨w.heap.size, 1, none⟩ = some (.bool own) := fun z => z.cell p1
      have CX : Hid (∀ (X : Int) (z : Later wr), Calls Try.prog 62 #[.int .i64 X, .int .i64 0, .int .i64 ((n : Int) - 1)] z.w fun e w' => e = .returned (.bool (inB X 0 (n - 1))) ∧ Below z.w.heap.size z.w w') := hide fun X z => (l1InG_any _ _ _ z.w).mono fun e w' ⟨h, h'⟩ => ⟨h, h' ▸ Below.refl _ _⟩
      clear HBW hb hc0 hs0 c0 c1 p0 p1
      by_cases hl : ln k = 2
      · obtain ⟨b', off', hA', hl0, q0⟩ := hs1 0 (by omega)
        obtain ⟨b'', off'', hA'', _, q1⟩ := hs1 1 (by omega)
        rw [hA'] at hA''
        injection hA'' with hA''
        injection hA'' with u0 u1
        subst u0 u1
        have hc : wr.cell? ⟨b, off + k, none⟩ = some (.slice (some ⟨b', off', none⟩) 2 (C k)) := by rw [hc1, hA', hl]
        simp only [iv, Nat.add_zero] at q0
        simp only [iv] at q1
        obtain ⟨X, hX⟩ : ∃ X, R k 0 = X := ⟨_, rfl⟩
        obtain ⟨Y, hY⟩ : ∃ Y, R k 1 = Y := ⟨_, rfl⟩
        rw [hX] at q0
        rw [hY] at q1
        have R0 : ∀ z : Later wr, z.w.cell? ⟨b', off', none⟩ = some (.int .i64 X) := fun z => z.cell q0
        have R1 : ∀ z : Later wr, z.w.cell? ⟨b', off' + 1, none⟩ = some (.int .i64 Y) := fun z => z.cell q1
        have HX := hide hX
        have HY := hide hY
        have HL := hide hl
        have HQ0 := hide q0
        have HQ1 := hide q1
        have HAk := hide hA'
        clear hc1 hA' hs1 q0 q1 hX hY hl
        cases hx : inB X 0 (n - 1)
        · have C1 := hide (CX.out X)
          rw [hx] at C1
          have HO : Hid (ordB n (ln k) (nv F) (R k) = false) := hide (by simp [ordB, edgeB, HX.out, hx])
          clear hx
          go_wp2_with fail
          refine wp_region_later (w1 := wr) (by kernel_rfl) (by kernel_rfl) ?_
          repeat (first | go_big_quiet_skip | (go_big_quiet_want; go_big_quiet_op; first | go_big_quiet_on | (apply Exists.intro; refine ⟨fun z => ?_, ?_⟩; (· first | (go_at_call_of 62 (Value.int .i64 X); exact Later.call z (C1.out z))); go_big_quiet_on)))
          refine wpQuiet_nil ?_
          rintro _ ⟨z, rfl⟩
          have HB3 := hide (HW.out.trans (z.is.mono HW.out.size))
          clear P0 P1 R0 R1
          go_wp2
          go_ret2
          refine ⟨HB3.out, .inr ⟨fun h => ?_, rfl⟩⟩
          have := (h k hlt).1
          rw [HO.out] at this
          cases this
        · have hxx := hx
          simp only [inB, decide_eq_true_eq] at hxx
          cases hy : inB Y 0 (n - 1)
          · have C1 := hide (CX.out X)
            have C2 := hide (CX.out Y)
            rw [hx] at C1
            rw [hy] at C2
            have HO : Hid (ordB n (ln k) (nv F) (R k) = false) := hide (by simp [ordB, edgeB, HY.out, hy])
            clear hx hy
            go_wp2_with fail
            refine wp_region_later (w1 := wr) (by kernel_rfl) (by kernel_rfl) ?_
            repeat (first | go_big_quiet_skip | (go_big_quiet_want; go_big_quiet_op; first | go_big_quiet_on | (apply Exists.intro; refine ⟨fun z => ?_, ?_⟩; (· first | (go_at_call_of 62 (Value.int .i64 X); exact Later.call z (C1.out z)) | (go_at_call_of 62 (Value.int .i64 Y); exact Later.call z (C2.out z))); go_big_quiet_on)))
            refine wpQuiet_nil ?_
            rintro _ ⟨z, rfl⟩
            have HB3 := hide (HW.out.trans (z.is.mono HW.out.size))
            clear P0 P1 R0 R1
            go_wp2
            go_ret2
            refine ⟨HB3.out, .inr ⟨fun h => ?_, rfl⟩⟩
            have := (h k hlt).1
            rw [HO.out] at this
            cases this
          · have hyy := hy
            simp only [inB, decide_eq_true_eq] at hyy
            by_cases hxy : Y ≤ X
            · have C1 := hide (CX.out X)
              have C2 := hide (CX.out Y)
              rw [hx] at C1
              rw [hy] at C2
              have HO : Hid (ordB n (ln k) (nv F) (R k) = false) := hide (by simp [ordB, HX.out, HY.out, show ¬ X < Y by omega])
              have hg : decide (X ≥ Y) = true := by simpa using hxy
              clear hx hy
              go_wp2_with fail
              refine wp_region_later (w1 := wr) (by kernel_rfl) (by kernel_rfl) ?_
              repeat (first | go_big_quiet_skip | (go_big_quiet_want; go_big_quiet_op; first | go_big_quiet_on | (apply Exists.intro; refine ⟨fun z => ?_, ?_⟩; (· first | (go_at_call_of 62 (Value.int .i64 X); exact Later.call z (C1.out z)) | (go_at_call_of 62 (Value.int .i64 Y); exact Later.call z (C2.out z))); go_big_quiet_on)))
              refine wpQuiet_nil ?_
              rintro _ ⟨z, rfl⟩
              have HB3 := hide (HW.out.trans (z.is.mono HW.out.size))
              clear P0 P1 R0 R1
              go_wp2
              go_ret2
              refine ⟨HB3.out, .inr ⟨fun h => ?_, rfl⟩⟩
              have := (h k hlt).1
              rw [HO.out] at this
              cases this
            · obtain ⟨i, rfl⟩ : ∃ i : Nat, X = i := ⟨X.toNat, by omega⟩
              obtain ⟨j, rfl⟩ : ∃ j : Nat, Y = j := ⟨Y.toNat, by omega⟩
              have hg : decide (((i : Nat) : Int) ≥ (j : Nat)) = false := by simpa using hxy
              have hg2 : decide (j ≤ i) = false := by simp; omega
              have C1 := hide (CX.out i)
              have C2 := hide (CX.out j)
              rw [hx] at C1
              rw [hy] at C2
              have tc : wr.cell? ⟨g, i, none⟩ = some (.int .i64 (nv F i)) := hg1.cell (by omega)
              have T0 : ∀ z : Later wr, z.w.cell? ⟨g, i, none⟩ = some (.int .i64 (nv F i)) := fun z => z.cell tc
              have CH : Hid (∀ z : Later wr, Calls Try.prog 63 #[.int .i64 (nv F i), .int .i64 (j : Nat)] z.w fun e w' => e = .returned (.bool (bt (nv F i) j)) ∧ Below z.w.heap.size z.w w') := hide fun z => (grInG_any _ (j : Nat) (by simp [nv]) (by omega) (by omega) z.w).mono fun e w' ⟨h, h'⟩ => ⟨h, h' ▸ Below.refl _ _⟩
              have i0 : (0 : Int) ≤ (i : Nat) := by omega
              have i1 : ((i : Nat) : Int) < (n : Nat) := by omega
              cases hh : bt (nv F i) j
              · rw [hh] at CH
                have HO : Hid (ordB n (ln k) (nv F) (R k) = false) := hide (by simp [ordB, HX.out, HY.out, hh])
                clear hx hy hh tc
                go_wp2_with fail
                refine wp_region_later (w1 := wr) (by kernel_rfl) (by kernel_rfl) ?_
                repeat (first | go_big_quiet_skip | (go_big_quiet_want; go_big_quiet_op; first | go_big_quiet_on | (apply Exists.intro; refine ⟨fun z => ?_, ?_⟩; (· first | (go_at_call_of 62 (Value.int .i64 (i : Nat)); exact Later.call z (C1.out z)) | (go_at_call_of 62 (Value.int .i64 (j : Nat)); exact Later.call z (C2.out z)) | (go_at_call 63; exact Later.call z (CH.out z))); go_big_quiet_on)))
                refine wpQuiet_nil ?_
                rintro _ ⟨z, rfl⟩
                have HB3 := hide (HW.out.trans (z.is.mono HW.out.size))
                clear P0 P1 R0 R1 T0
                go_wp2
                go_ret2
                refine ⟨HB3.out, .inr ⟨fun h => ?_, rfl⟩⟩
                have := (h k hlt).1
                rw [HO.out] at this
                cases this
              · rw [hh] at CH
                have HO : Hid (ordB n (ln k) (nv F) (R k) = true) := hide (by
                  have hne : ((i : Int) == (j : Nat)) = false := by simp; omega
                  have hlt2 : decide ((i : Int) < (j : Nat)) = true := by simp; omega
                  simp only [ordB, edgeB, HX.out, HY.out, HL.out, hx, hy, hne, hlt2, Int.toNat_natCast, hh]; rfl)
                clear hx hy hh tc
                go_wp2_with fail
                refine wp_region_later (w1 := wr) (by kernel_rfl) (by kernel_rfl) ?_
                repeat (first | go_big_quiet_skip | (go_big_quiet_want; go_big_quiet_op; first | go_big_quiet_on | (apply Exists.intro; refine ⟨fun z => ?_, ?_⟩; (· first | (go_at_call_of 62 (Value.int .i64 (i : Nat)); exact Later.call z (C1.out z)) | (go_at_call_of 62 (Value.int .i64 (j : Nat)); exact Later.call z (C2.out z)) | (go_at_call 63; exact Later.call z (CH.out z))); go_big_quiet_on)))
                refine wpQuiet_nil ?_
                rintro _ ⟨z, rfl⟩
                have hb3 := z.is
                have HB3 := hide (HB.out.trans (hb3.mono HB.out.size))
                have HW3 := hide (HW.out.trans (hb3.mono HW.out.size))
                have d0 := R0 z
                have d1 := R1 z
                have hlw : b' < z.w.heap.size := Nat.lt_of_lt_of_le hl0 hb3.size
                generalize z.w = w3 at *
                clear P0 P1 R0 R1 T0 C1 C2 CH CX hb3
                have k0 : (0 : Int) ≤ (k : Nat) := by omega
                have k1 : ((k : Nat) : Int) ≤ (d : Nat) := by omega
                go_wp2
                go_loopw [77] (fun x wQ => ∃ p : Nat, p ≤ k ∧ x = .int .i64 p ∧ Hid (∀ q, q < p → ¬ (R k 0 = R q 0 ∧ R k 1 = R q 1)) ∧ Below w3.heap.size w3 wQ) (fun x _ => k - (intOf x).toNat)
                case atStart => exact ⟨0, by omega, rfl, hide (fun q hq => absurd hq (by omega)), by go_grown⟩
                case round =>
                  obtain ⟨p, hp, rfl, HN, hbz⟩ := hrel
                  by_cases hltp : p < k
                  · obtain ⟨b2, off2, hA2, hbl2, hc2, hs2⟩ := HR.out p (by omega)
                    injection hA2 with hA2
                    injection hA2 with u0 u1
                    subst u0 u1
                    have HWZ := HW3.out.trans (hbz.mono HW3.out.size)
                    have hs3 := hs2.below HWZ
                    have hc3 : wr.cell? ⟨b, off + p, none⟩ = some (.slice (Ai p) (ln p) (C p)) := (HWZ.cell (p := ⟨b, off + p, none⟩) hbl2).trans hc2
                    obtain ⟨h2p, ip, jp, _, _, f0, f1, _⟩ := ord_ok (HE.out p hltp).1
                    obtain ⟨b3, off3, hA3, hl3, q2⟩ := hs3 0 (by omega)
                    obtain ⟨b4, off4, hA4, _, q3⟩ := hs3 1 (by omega)
                    rw [hA3] at hA4
                    injection hA4 with hA4
                    injection hA4 with u0 u1
                    subst u0 u1
                    have hcp : wr.cell? ⟨b, off + p, none⟩ = some (.slice (some ⟨b3, off3, none⟩) 2 (C p)) := by rw [hc3, hA3, h2p]
                    simp only [iv, Nat.add_zero] at q2
                    simp only [iv] at q3
                    obtain ⟨X, hX⟩ : ∃ X, R p 0 = X := ⟨_, rfl⟩
                    obtain ⟨Y, hY⟩ : ∃ Y, R p 1 = Y := ⟨_, rfl⟩
                    rw [hX] at q2
                    rw [hY] at q3
                    have e0z : wr.cell? ⟨b', off', none⟩ = some (.int .i64 (i : Nat)) := (hbz.cell (p := ⟨b', off', none⟩) hlw).trans d0
                    have e1z : wr.cell? ⟨b', off' + 1, none⟩ = some (.int .i64 (j : Nat)) := (hbz.cell (p := ⟨b', off' + 1, none⟩) hlw).trans d1
                    have S0 : ∀ z : Later wr, z.w.cell? ⟨b', off', none⟩ = some (.int .i64 (i : Nat)) := fun z => z.cell e0z
                    have S1 : ∀ z : Later wr, z.w.cell? ⟨b', off' + 1, none⟩ = some (.int .i64 (j : Nat)) := fun z => z.cell e1z
                    have S2 : ∀ z : Later wr, z.w.cell? ⟨b3, off3, none⟩ = some (.int .i64 X) := fun z => z.cell q2
                    have S3 : ∀ z : Later wr, z.w.cell? ⟨b3, off3 + 1, none⟩ = some (.int .i64 Y) := fun z => z.cell q3
                    have GX := hide hX
                    have GY := hide hY
                    have HZ := hide hbz
                    have HZW := hide HWZ
                    have HD0 := hide d0
                    have HD1 := hide d1
                    have p0i : (0 : Int) ≤ (p : Nat) := by omega
                    have p1i : ((p : Nat) : Int) < (k : Nat) := by omega
                    clear HWZ hbz hc2 hs2 hs3 hc3 h2p f0 f1 hA3 q2 q3 hX hY e0z e1z d0 d1
                    cases ha : ((i : Int) == X)
                    · have HAA := hide ha
                      have ha2 : decide ((i : Int) = X) = false := by simpa using ha
                      go_wp2_with fail
                      refine wp_region_later (w1 := wr) (by kernel_rfl) (by kernel_rfl) ?_
                      repeat (first | go_big_quiet_skip | (go_big_quiet_want; go_big_quiet_op; go_big_quiet_on))
                      refine wpQuiet_nil ?_
                      rintro _ ⟨z, rfl⟩
                      have HB9 := hide (HZ.out.trans (z.is.mono HZ.out.size))
                      clear S0 S1 S2 S3
                      go_wp2
                      go_roundw
                      case rel =>
                        refine ⟨p + 1, by omega, by go_num, hide fun q hq => ?_, HB9.out⟩
                        by_cases hqp : q = p
                        · subst hqp
                          rintro ⟨h, _⟩; rw [HX.out, GX.out] at h; have := HAA.out; rw [h] at this; simp at this
                        · exact HN.out q (by omega)
                      case measure => simp [intOf]; omega
                    · have HAA := hide ha
                      have ha2 : decide ((i : Int) = X) = true := by simpa using ha
                      cases hb2 : ((j : Int) == Y)
                      · have HBB := hide hb2
                        have hb3 : decide ((j : Int) = Y) = false := by simpa using hb2
                        go_wp2_with fail
                        refine wp_region_later (w1 := wr) (by kernel_rfl) (by kernel_rfl) ?_
                        repeat (first | go_big_quiet_skip | (go_big_quiet_want; go_big_quiet_op; go_big_quiet_on))
                        refine wpQuiet_nil ?_
                        rintro _ ⟨z, rfl⟩
                        have HB9 := hide (HZ.out.trans (z.is.mono HZ.out.size))
                        clear S0 S1 S2 S3
                        go_wp2
                        go_roundw
                        case rel =>
                          refine ⟨p + 1, by omega, by go_num, hide fun q hq => ?_, HB9.out⟩
                          by_cases hqp : q = p
                          · subst hqp
                            rintro ⟨_, h⟩; rw [HY.out, GY.out] at h; have := HBB.out; rw [h] at this; simp at this
                          · exact HN.out q (by omega)
                        case measure => simp [intOf]; omega
                      · have HBB := hide hb2
                        have hb3 : decide ((j : Int) = Y) = true := by simpa using hb2
                        go_wp2_with fail
                        refine wp_region_later (w1 := wr) (by kernel_rfl) (by kernel_rfl) ?_
                        repeat (first | go_big_quiet_skip | (go_big_quiet_want; go_big_quiet_op; go_big_quiet_on))
                        refine wpQuiet_nil ?_
                        rintro _ ⟨z, rfl⟩
                        have HB9 := hide (HZW.out.trans (z.is.mono HZW.out.size))
                        clear S0 S1 S2 S3
                        go_wp2
                        go_ret2
                        refine ⟨HB9.out, .inr ⟨fun h => (h k hlt).2 p hltp ⟨?_, ?_⟩, rfl⟩⟩
                        · rw [HX.out, GX.out]; simpa using HAA.out
                        · rw [HY.out, GY.out]; simpa using HBB.out
                  · have HZ := hide (HB3.out.trans (hbz.mono HB3.out.size))
                    clear hbz d0 d1 i0 i1 k0 k1 hg hg2 hxx hyy hxy
                    go_wp2
                    go_roundw
                    case rel =>
                      refine ⟨k + 1, by omega, by go_num, hide fun q hq => ?_, HZ.out⟩
                      by_cases hqp : q = k
                      · subst hqp
                        exact ⟨HO.out, fun a ha => HN.out a (by omega)⟩
                      · exact HE.out q (by omega)
                    case measure => simp [intOf]; omega
      · have hd : ((ln k : Int) == 2) = false := by simp; omega
        have hd3 : ((ln k : Int) != 2) = true := by simp; omega
        have hd4 : decide ((ln k : Int) = 2) = false := by simp; omega
        have hd5 : decide (ln k = 2) = false := by simpa using hl
        have hd6 : ¬ ((ln k : Int) = 2) := by omega
        have HO : Hid (ordB n (ln k) (nv F) (R k) = false) := hide (by simp [ordB, edgeB, hl])
        clear hs1
        go_wp2_with fail
        refine wp_region_later (w1 := wr) (by kernel_rfl) (by kernel_rfl) ?_
        repeat (first | go_big_quiet_skip | (go_big_quiet_want; go_big_quiet_op; go_big_quiet_on))
        refine wpQuiet_nil ?_
        rintro _ ⟨z, rfl⟩
        have HB3 := hide (HW.out.trans (z.is.mono HW.out.size))
        clear P0 P1
        go_wp2
        go_ret2
        refine ⟨HB3.out, .inr ⟨fun h => ?_, rfl⟩⟩
        have := (h k hlt).1
        rw [HO.out] at this
        cases this
    · have hkm : k = m := by omega
      subst hkm
      have HB := hide (HB1.out.trans (hb.mono HB1.out.size))
      clear hb c0 c1
      go_wp2_with fail
      refine (paEven_any _ _ n _ _ k _ F _ Ai ln C R _ hn (by omega) (fun q hq => ?_) (fun q hq => (HE.out q hq).1)).mono ?_
      · obtain ⟨b, off, hA, hbl, hc0, hs0⟩ := HR.out q hq
        exact ⟨b, off, hA, Nat.lt_of_lt_of_le hbl HB.out.size, (HB.out.cell (p := ⟨b, off + q, none⟩) hbl).trans hc0, hs0.below HB.out⟩
      rintro e w3 ⟨rfl, hb3⟩
      have HB3 := hide (HB.out.trans (hb3.mono HB.out.size))
      clear hb3 p0 p1
      go_wp2
      go_ret2
      exact ⟨HB3.out, .inl ⟨HE.out, rfl⟩⟩
end Go.Proofs.Ytcpbbpgiicakcaa
