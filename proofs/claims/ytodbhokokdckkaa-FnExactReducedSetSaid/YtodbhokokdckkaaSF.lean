import Derived.Test.YtodbhokokdckkaaSE
import Derived.Deep.RegionHeld3
namespace Go.Proofs.Ytodbhokokdckkaa
open Go.RowKit
set_option maxHeartbeats 2000000
theorem nat_ne0 {z : Nat} (h : z ≠ 0) : ((z : Int) == 0) = false := by simp [h]
theorem nat_gt0 {z : Nat} (h : z ≠ 0) : decide ((0 : Int) < (z : Int)) = true := decide_eq_true (by omega)
theorem two_below {W w' : World} {a : Nat} {u0 u1 : Value} (hb : Below W.heap.size W w')
    (h : W.cell? ⟨a, 0, none⟩ = some u0 ∧ W.cell? ⟨a, 1, none⟩ = some u1) : w'.cell? ⟨a, 0, none⟩ = some u0 ∧ w'.cell? ⟨a, 1, none⟩ = some u1 := by
  obtain ⟨h1, h2⟩ := h
  have l1 := World.block_lt_of_cell? W _ h1
  exact ⟨(hb.cell (p := ⟨a, 0, none⟩) l1).trans h1, (hb.cell (p := ⟨a, 1, none⟩) l1).trans h2⟩
theorem soQuiet_any (g n c : Nat) (F : Nat → Nat) (own : Bool) (w : World) (hn : n ≤ 16) (hF : ∀ j, j < n → F j < 2 ^ n) (ha : Arr w 3 g n (iv (nv F))) :
    Calls Try.prog 84 #[.agg #[.slice (some ⟨g, 0, none⟩) n c, .bool own]] w (NewL w (qS (tog F own) n n).1) := by
  have h16 := pow16n hn
  have HA := hide ha
  have HF := hide hF
  have HT := hide (tog_all (own := own) hF)
  have hgl := ha.lt
  clear ha hF
  go_enter Try.func84, Try.ntmps84
  go_wp2
  go_loopw [4, 5, 15] (fun pv qv i wr => ∃ (k m1 m2 : Nat) (A1 A2 : Option Addr) (d1 d2 : Nat), k ≤ n ∧ i = .int .i64 k ∧ pv = .slice A1 m1 d1 ∧ qv = .slice A2 m2 d2 ∧ Hid ((qS (tog F own) n k).2.length = m1) ∧ Hid ((qS (tog F own) n k).1.length = m2) ∧ Src wr A1 m1 (lv (qS (tog F own) n k).2) ∧ Src wr A2 m2 (lv (qS (tog F own) n k).1) ∧ Below (w.heap.size + 1) (w.alloc (.cells #[.slice (some ⟨g, 0, none⟩) n c, .bool own] 26)) wr) (fun _ _ i _ => n - (intOf i).toNat)
  case atStart => exact ⟨0, 0, 0, none, none, 0, 0, by omega, rfl, rfl, rfl, hide rfl, hide rfl, Src.nil, Src.nil, Below.refl _ _⟩
  case round =>
    obtain ⟨k, m1, m2, A1, A2, d1, d2, hk, rfl, rfl, rfl, HM1, HM2, hs1, hs2, hb⟩ := hrel
    have hp := (Arr.box w 26 (.slice (some ⟨g, 0, none⟩) n c) (.bool own)).below hb (by omega)
    have HAr := hide ((HA.out.alloc (.cells #[.slice (some ⟨g, 0, none⟩) n c, .bool own] 26)).below hb (by omega))
    have hlb : w.heap.size < wr.heap.size := hp.lt
    have HS1 := hide hs1
    have HS2 := hide hs2
    have HB := hide hb
    have hsz := hb.size
    simp only [World.size_alloc] at hsz
    have HP := hide hp
    clear hp hs1 hs2 hb
    by_cases hlt : k < n
    · have KK : Hid (wr.drew.cell? ⟨w.heap.size, 0, none⟩ = some (.slice (some ⟨g, 0, none⟩) n c) ∧ wr.drew.cell? ⟨w.heap.size, 1, none⟩ = some (.bool own)) := hide ⟨HP.out.cell (k := 0) (by omega), HP.out.cell (k := 1) (by omega)⟩
      have hFk := HF.out k hlt
      have htk := HT.out k hlt
      obtain ⟨QR, hQR⟩ : ∃ QR, qS (tog F own) n k = QR := ⟨_, rfl⟩
      obtain ⟨s0, hs0⟩ : ∃ s, sv (tog F own) n k = s := ⟨_, rfl⟩
      have HI := inv_at (tog F own) n k (by omega)
      obtain ⟨hq1, hq2⟩ := qS_lt HT.out k (by omega)
      have hs32 := sv_lt (T := tog F own) (n := n) (k := k) hlt (HT.out k hlt)
      have HN : Hid (qS (tog F own) n (k + 1) = qstep n QR s0) := hide (by rw [← hQR, ← hs0]; rfl)
      have e1 : bits .or .i64 (IntKind.i64.wrap ((tog F own k : Nat) * 2 ^ n)) (IntKind.i64.wrap (2 ^ k)) = (s0 : Nat) := by rw [← hs0]; exact or_shl' (tog F own k) n k (by omega) hn (by omega)
      rw [hQR] at HM1 HM2 HS1 HS2 HI hq1 hq2
      rw [hs0] at hs32
      have hs40 : s0 < 1099511627776 := Nat.lt_of_lt_of_le hs32 (pow40 (by omega))
      have HF1 := hide (fit_of hn HI.br hq2)
      have HF2 := hide (fit_of hn HI.bq hq1)
      have HB1 := hide HI.br
      have HB2 := hide HI.bq
      have hu40 : lin QR.2 s0 < 1099511627776 := by rw [← rdr_lin HI.br]; exact rdr40 HF1.out.1 hs40
      have hm1 : m1 ≤ 64 := by have h1 := HF1.out.2; have h2 := HM1.out; omega
      have hm2 : m2 ≤ 64 := by have h1 := HF2.out.2; have h2 := HM2.out; omega
      obtain ⟨u, hu⟩ : ∃ u, lin QR.2 s0 = u := ⟨_, rfl⟩
      rw [hu] at hu40
      have HU := hide hu
      clear hQR hs0 HI hq1 hq2 hs32 hu
      go_wp2
      go_region_held3 (fun w' => w'.cell? ⟨w.heap.size, 0, none⟩ = some (.slice (some ⟨g, 0, none⟩) n c) ∧ w'.cell? ⟨w.heap.size, 1, none⟩ = some (.bool own)) (first | exact KK.out | exact two_below (by assumption) KK.out) ((go_at_call 111; refine (grToggles_any _ _ _ F _ _ _ hn hlt (by omega) (by exact HAr.out.drew)).mono ?_; rintro e w3 ⟨rfl, hb3⟩))
      have hb4 : Below wr.heap.size wr w3 := (Below.drew (Below.refl _ _)).trans hb3
      have HS1' := hide (HS1.out.below hb4)
      have HS2' := hide (HS2.out.below hb4)
      have HB4 := hide (HB.out.trans (hb4.mono (by omega)))
      have hz4 := HB4.out.size
      simp only [World.size_alloc] at hz4
      clear hb3 hb4 e1 KK HS1 HS2 HB hFk htk HP HAr
      go_wp2
      go_loop [7, 8] (fun t i => ∃ m : Nat, m ≤ m1 ∧ i = .int .i64 ((m : Int) - 1) ∧ t = .int .i64 (rdr (QR.2.drop m) s0 : Nat)) (fun _ i => (intOf i + 1).toNat)
      case atStart => exact ⟨m1, by omega, rfl, by rw [List.drop_of_length_le (by rw [HM1.out]; omega)]; rfl⟩
      case round =>
        obtain ⟨m, hm, rfl, rfl⟩ := hrel
        have hx40 : rdr (QR.2.drop m) s0 < 1099511627776 := rdr40 (fun b hb => HF1.out.1 b (List.mem_of_mem_drop hb)) hs40
        obtain ⟨x, hx⟩ : ∃ x, rdr (QR.2.drop m) s0 = x := ⟨_, rfl⟩
        rw [hx] at hx40 ⊢
        have HX := hide hx
        clear hx
        by_cases hp : 0 < m
        · obtain ⟨j, rfl⟩ : ∃ j, m = j + 1 := ⟨m - 1, by omega⟩
          have hjn : j < QR.2.length := by rw [HM1.out]; omega
          obtain ⟨b, off, hA, hbl, hc0⟩ := HS1'.out j (by omega)
          subst hA
          obtain ⟨y, hy⟩ : ∃ y, QR.2[j] = y := ⟨_, rfl⟩
          have hym : y ∈ QR.2 := by rw [← hy]; exact List.getElem_mem hjn
          have hy40 := HF1.out.1 y hym
          have hyn := HB1.out.1 y hym
          have hc : w3.cell? ⟨b, off + j, none⟩ = some (.int .i64 (y : Nat)) := by rw [hc0, lv_get hjn, hy]
          have hlog := log40 hyn hy40
          have HD : Hid (rdr (QR.2.drop j) s0 = stp x y) := hide (by rw [List.drop_eq_getElem_cons hjn, hy]; show stp (rdr (QR.2.drop (j + 1)) s0) y = _; rw [HX.out])
          have e1 := i64_xor_nat x y (by omega) (by omega)
          clear hy hc0 hjn hym
          have ej : ((j + 1 : Nat) : Int) - 1 = j := by omega
          rw [ej]
          cases hb : x.testBit y.log2
          · go_wp2_with (first | (go_at_call 112; refine (soTop_any _ _ hy40 hyn).mono ?_; rintro e w5 ⟨rfl, rfl⟩) | (go_at_call 106; refine (grIn_any _ _ (by omega) (by omega) (by omega) _).mono ?_; rintro e w5 ⟨rfl, rfl⟩; simp only [Int.toNat_natCast, bt_nat, hb]))
            go_round
            case rel => exact ⟨j, by omega, rfl, by rw [HD.out, stp, hb]; rfl⟩
            case measure => simp [intOf] <;> omega
          · go_wp2_with (first | (go_at_call 112; refine (soTop_any _ _ hy40 hyn).mono ?_; rintro e w5 ⟨rfl, rfl⟩) | (go_at_call 106; refine (grIn_any _ _ (by omega) (by omega) (by omega) _).mono ?_; rintro e w5 ⟨rfl, rfl⟩; simp only [Int.toNat_natCast, bt_nat, hb]))
            go_round
            case rel => exact ⟨j, by omega, rfl, by rw [HD.out, stp, hb]; rfl⟩
            case measure => simp [intOf] <;> omega
        · have hz : (m : Int) - 1 = -1 := by omega
          have hxu : x = u := by
            have h1 := HX.out
            rw [show m = 0 by omega] at h1
            rw [← h1, ← HU.out, ← rdr_lin HB1.out]; rfl
          subst hxu
          rw [hz]
          by_cases hz2 : x >>> n = 0
          · have e2 : (x : Int) / 2 ^ n = 0 := by rw [shr_nat, hz2]; rfl
            have HZ : Hid (qstep n QR s0 = (add QR.1 x, QR.2)) := hide (by simp only [qstep]; rw [HU.out, if_pos hz2])
            clear hz2
            go_wp2_with fail
            refine (soPut_any _ _ _ _ _ _ HF2.out.1 HB2.out hu40 HM2.out hm2 HS2'.out).mono ?_
            rintro e w6 ⟨A3, d3, m3, rfl, hm3, hs3, hb6⟩
            have HM3 := hide hm3
            have HS3 := hide hs3
            have HS4 := hide (HS1'.out.below hb6)
            have HB6 := hide (HB4.out.trans (hb6.mono (by omega)))
            clear hm3 hs3 hb6 e2
            go_wp2
            go_roundw
            case rel => exact ⟨k + 1, m1, m3, A1, A3, d1, d3, by omega, by go_num, rfl, rfl, hide (by rw [HN.out, HZ.out]; exact HM1.out), hide (by rw [HN.out, HZ.out]; exact HM3.out), by rw [HN.out, HZ.out]; exact HS4.out, by rw [HN.out, HZ.out]; exact HS3.out, HB6.out⟩
            case measure => simp [intOf]; omega
          · have e2 : ((x : Int) / 2 ^ n == 0) = false := by rw [shr_nat]; exact nat_ne0 hz2
            have HZ : Hid (qstep n QR s0 = (QR.1, add QR.2 x)) := hide (by simp only [qstep]; rw [HU.out, if_neg hz2])
            clear hz2
            go_wp2_with fail
            refine (soPut_any _ _ _ _ _ _ HF1.out.1 HB1.out hu40 HM1.out hm1 HS1'.out).mono ?_
            rintro e w6 ⟨A3, d3, m3, rfl, hm3, hs3, hb6⟩
            have HM3 := hide hm3
            have HS3 := hide hs3
            have HS4 := hide (HS2'.out.below hb6)
            have HB6 := hide (HB4.out.trans (hb6.mono (by omega)))
            clear hm3 hs3 hb6 e2
            go_wp2
            go_roundw
            case rel => exact ⟨k + 1, m3, m2, A3, A2, d3, d2, by omega, by go_num, rfl, rfl, hide (by rw [HN.out, HZ.out]; exact HM3.out), hide (by rw [HN.out, HZ.out]; exact HM2.out), by rw [HN.out, HZ.out]; exact HS3.out, by rw [HN.out, HZ.out]; exact HS4.out, HB6.out⟩
            case measure => simp [intOf]; omega
    · have hkn : k = n := by omega
      subst hkn
      go_wp2
      go_ret
      exact ⟨A2, d2, m2, rfl, HM2.out, HS2.out, by have h := HB.out; exact ((Below.refl _ _).alloc (Nat.le_refl _) _).trans (h.mono (by omega))⟩
end Go.Proofs.Ytodbhokokdckkaa
