import Derived.Test.YtodbhokokdckkaaSF
import Derived.Deep.RegionHeld3
namespace Go.Proofs.Ytodbhokokdckkaa
open Go.RowKit
set_option maxHeartbeats 2000000
/-- Does a set of presses solve s, and which one? -/
def solB (T : Nat → Nat) (n s : Nat) : Bool := decide (lin (pS T n n) (s <<< n) >>> n = 0)
def solV (T : Nat → Nat) (n s : Nat) : Nat := if lin (pS T n n) (s <<< n) >>> n = 0 then lin (pS T n n) (s <<< n) else 0
theorem shl_lt {s n : Nat} (h : s < 2 ^ n) : s <<< n < 2 ^ (n + n) := by
  rw [Nat.shiftLeft_eq, Nat.pow_add]
  exact Nat.mul_lt_mul_of_pos_right h (Nat.two_pow_pos n)
theorem shl_wrap (x n : Nat) (hx : x < 65536) (hn : n ≤ 16) : RowKit.wrap64 ((x : Int) * 2 ^ n) = ((x <<< n : Nat) : Int) := by
  have h1 := pow16n hn
  have h2 : x * 2 ^ n ≤ 65536 * 65536 := Nat.mul_le_mul (by omega) h1
  rw [Nat.shiftLeft_eq, Int.natCast_mul, pow_nat, IntWalk.wrap64_in _ (by rw [← pow_nat, ← Int.natCast_mul]; generalize x * 2 ^ n = z at h2; omega)]
theorem shl_bare (x n : Nat) : ((x : Int) * 2 ^ n) = ((x <<< n : Nat) : Int) := by rw [Nat.shiftLeft_eq, Int.natCast_mul, pow_nat]
theorem soSolve_any (g n c : Nat) (F : Nat → Nat) (own : Bool) (q : Nat) (w : World) (hq : q < 2 ^ n) (hn : n ≤ 16) (hF : ∀ j, j < n → F j < 2 ^ n) (ha : Arr w 3 g n (iv (nv F))) :
    Calls Try.prog 91 #[.agg #[.slice (some ⟨g, 0, none⟩) n c, .bool own], .int .i64 q] w (Pair w (solV (tog F own) n q : Nat) (solB (tog F own) n q)) := by
  have h16 := pow16n hn
  have HA := hide ha
  have HF := hide hF
  have HT := hide (tog_all (own := own) hF)
  have hgl := ha.lt
  clear ha hF
  go_enter Try.func91, Try.ntmps91
  go_wp2
  go_loopw [7, 18] (fun pv i wr => ∃ (k m1 : Nat) (A1 : Option Addr) (d1 : Nat), k ≤ n ∧ i = .int .i64 k ∧ pv = .slice A1 m1 d1 ∧ Hid ((qS (tog F own) n k).2.length = m1) ∧ Src wr A1 m1 (lv (qS (tog F own) n k).2) ∧ Below (w.heap.size + 1) (w.alloc (.cells #[.slice (some ⟨g, 0, none⟩) n c, .bool own] 26)) wr) (fun _ i _ => n - (intOf i).toNat)
  case atStart => exact ⟨0, 0, none, 0, by omega, rfl, rfl, hide rfl, Src.nil, Below.refl _ _⟩
  case round =>
    obtain ⟨k, m1, A1, d1, hk, rfl, rfl, HM1, hs1, hb⟩ := hrel
    have hp := (Arr.box w 26 (.slice (some ⟨g, 0, none⟩) n c) (.bool own)).below hb (by omega)
    have HAr := hide ((HA.out.alloc (.cells #[.slice (some ⟨g, 0, none⟩) n c, .bool own] 26)).below hb (by omega))
    have hlb : w.heap.size < wr.heap.size := hp.lt
    have HS1 := hide hs1
    have HB := hide hb
    have hsz := hb.size
    simp only [World.size_alloc] at hsz
    have HP := hide hp
    clear hp hs1 hb
    by_cases hlt : k < n
    · have KK : Hid (wr.drew.cell? ⟨w.heap.size, 0, none⟩ = some (.slice (some ⟨g, 0, none⟩) n c) ∧ wr.drew.cell? ⟨w.heap.size, 1, none⟩ = some (.bool own)) := hide ⟨HP.out.cell (k := 0) (by omega), HP.out.cell (k := 1) (by omega)⟩
      have hFk := HF.out k hlt
      have htk := HT.out k hlt
      obtain ⟨QR, hQR⟩ : ∃ QR, qS (tog F own) n k = QR := ⟨_, rfl⟩
      obtain ⟨s0, hs0⟩ : ∃ s, sv (tog F own) n k = s := ⟨_, rfl⟩
      have HI := inv_at (tog F own) n k (by omega)
      obtain ⟨hq1, hq2⟩ := qS_lt HT.out k (by omega)
      have hs32 := sv_lt (T := tog F own) (n := n) (k := k) hlt (HT.out k hlt)
      have HN : Hid (qS (tog F own) n (k + 1) = qstep n QR s0) := hide (by rw [← hQR, ← hs0]; rfl)
      have e1 : bits .or .i64 (IntKind.i64.wrap ((tog F own k : Nat) * 2 ^ n)) (IntKind.i64.wrap (2 ^ k)) = (s0 : Nat) := by rw [← hs0]; exact or_shl' (tog F own k) n k (by omega) hn (by omega)
      rw [hQR] at HM1 HS1 HI hq1 hq2
      rw [hs0] at hs32
      have hs40 : s0 < 1099511627776 := Nat.lt_of_lt_of_le hs32 (pow40 (by omega))
      have HF1 := hide (fit_of hn HI.br hq2)
      have HB1 := hide HI.br
      have hu40 : lin QR.2 s0 < 1099511627776 := by rw [← rdr_lin HI.br]; exact rdr40 HF1.out.1 hs40
      have hm1 : m1 ≤ 64 := by have h1 := HF1.out.2; have h2 := HM1.out; omega
      obtain ⟨u, hu⟩ : ∃ u, lin QR.2 s0 = u := ⟨_, rfl⟩
      rw [hu] at hu40
      have HU := hide hu
      clear hQR hs0 HI hq1 hq2 hs32 hu
      go_wp2
      go_region_held3 (fun w' => w'.cell? ⟨w.heap.size, 0, none⟩ = some (.slice (some ⟨g, 0, none⟩) n c) ∧ w'.cell? ⟨w.heap.size, 1, none⟩ = some (.bool own)) (first | exact KK.out | exact two_below (by assumption) KK.out) ((go_at_call 111; refine (grToggles_any _ _ _ F _ _ _ hn hlt (by omega) (by exact HAr.out.drew)).mono ?_; rintro e w3 ⟨rfl, hb3⟩))
      have hb4 : Below wr.heap.size wr w3 := (Below.drew (Below.refl _ _)).trans hb3
      have HS1' := hide (HS1.out.below hb4)
      have HB4 := hide (HB.out.trans (hb4.mono (by omega)))
      have hz4 := HB4.out.size
      simp only [World.size_alloc] at hz4
      clear hb3 hb4 e1 KK HS1 HB hFk htk HP HAr
      go_wp2
      go_loop [9, 10] (fun t i => ∃ m : Nat, m ≤ m1 ∧ i = .int .i64 ((m : Int) - 1) ∧ t = .int .i64 (rdr (QR.2.drop m) s0 : Nat)) (fun _ i => (intOf i + 1).toNat)
      case atStart => exact ⟨m1, by omega, rfl, by rw [List.drop_of_length_le (by rw [HM1.out]; omega)]; rfl⟩
      case round =>
        obtain ⟨m, hm, rfl, rfl⟩ := hrel
        have hx40 : rdr (QR.2.drop m) s0 < 1099511627776 := rdr40 (fun b hb => HF1.out.1 b (List.mem_of_mem_drop hb)) hs40
        obtain ⟨x, hx⟩ : ∃ x, rdr (QR.2.drop m) s0 = x := ⟨_, rfl⟩
        rw [hx] at hx40 ⊢
        have HX := hide hx
        clear hx
        by_cases hp : 0 < m
        · obtain ⟨j, rfl⟩ : ∃ j, m = j + 1 := ⟨m - 1, by omega⟩
          have hjn : j < QR.2.length := by rw [HM1.out]; omega
          obtain ⟨b, off, hA, hbl, hc0⟩ := HS1'.out j (by omega)
          subst hA
          obtain ⟨y, hy⟩ : ∃ y, QR.2[j] = y := ⟨_, rfl⟩
          have hym : y ∈ QR.2 := by rw [← hy]; exact List.getElem_mem hjn
          have hy40 := HF1.out.1 y hym
          have hyn := HB1.out.1 y hym
          have hc : w3.cell? ⟨b, off + j, none⟩ = some (.int .i64 (y : Nat)) := by rw [hc0, lv_get hjn, hy]
          have hlog := log40 hyn hy40
          have HD : Hid (rdr (QR.2.drop j) s0 = stp x y) := hide (by rw [List.drop_eq_getElem_cons hjn, hy]; show stp (rdr (QR.2.drop (j + 1)) s0) y = _; rw [HX.out])
          have e1 := i64_xor_nat x y (by omega) (by omega)
          clear hy hc0 hjn hym
          have ej : ((j + 1 : Nat) : Int) - 1 = j := by omega
          rw [ej]
          cases hb : x.testBit y.log2
          · go_wp2_with (first | (go_at_call 112; refine (soTop_any _ _ hy40 hyn).mono ?_; rintro e w5 ⟨rfl, rfl⟩) | (go_at_call 106; refine (grIn_any _ _ (by omega) (by omega) (by omega) _).mono ?_; rintro e w5 ⟨rfl, rfl⟩; simp only [Int.toNat_natCast, bt_nat, hb]))
            go_round
            case rel => exact ⟨j, by omega, rfl, by rw [HD.out, stp, hb]; rfl⟩
            case measure => simp [intOf] <;> omega
          · go_wp2_with (first | (go_at_call 112; refine (soTop_any _ _ hy40 hyn).mono ?_; rintro e w5 ⟨rfl, rfl⟩) | (go_at_call 106; refine (grIn_any _ _ (by omega) (by omega) (by omega) _).mono ?_; rintro e w5 ⟨rfl, rfl⟩; simp only [Int.toNat_natCast, bt_nat, hb]))
            go_round
            case rel => exact ⟨j, by omega, rfl, by rw [HD.out, stp, hb]; rfl⟩
            case measure => simp [intOf] <;> omega
        · have hz : (m : Int) - 1 = -1 := by omega
          have hxu : x = u := by
            have h1 := HX.out
            rw [show m = 0 by omega] at h1
            rw [← h1, ← HU.out, ← rdr_lin HB1.out]; rfl
          subst hxu
          rw [hz]
          by_cases hz2 : x >>> n = 0
          · have e2 : (x : Int) / 2 ^ n = 0 := by rw [shr_nat, hz2]; rfl
            have HZ : Hid (qstep n QR s0 = (add QR.1 x, QR.2)) := hide (by simp only [qstep]; rw [HU.out, if_pos hz2])
            clear hz2
            go_wp2
            go_roundw
            case rel => exact ⟨k + 1, m1, A1, d1, by omega, by go_num, rfl, hide (by rw [HN.out, HZ.out]; exact HM1.out), by rw [HN.out, HZ.out]; exact HS1'.out, HB4.out⟩
            case measure => simp [intOf]; omega
          · have e2 : decide ((0 : Int) < (x : Int) / 2 ^ n) = true := by rw [shr_nat]; exact nat_gt0 hz2
            have HZ : Hid (qstep n QR s0 = (QR.1, add QR.2 x)) := hide (by simp only [qstep]; rw [HU.out, if_neg hz2])
            clear hz2
            go_wp2_with fail
            refine (soPut_any _ _ _ _ _ _ HF1.out.1 HB1.out hu40 HM1.out hm1 HS1'.out).mono ?_
            rintro e w6 ⟨A3, d3, m3, rfl, hm3, hs3, hb6⟩
            have HM3 := hide hm3
            have HS3 := hide hs3
            have HB6 := hide (HB4.out.trans (hb6.mono (by omega)))
            clear hm3 hs3 hb6 e2
            go_wp2
            go_roundw
            case rel => exact ⟨k + 1, m3, A3, d3, by omega, by go_num, rfl, hide (by rw [HN.out, HZ.out]; exact HM3.out), by rw [HN.out, HZ.out]; exact HS3.out, HB6.out⟩
            case measure => simp [intOf]; omega
    · have hkn : k = n := by omega
      subst hkn
      obtain ⟨QR, hQR⟩ : ∃ QR, qS (tog F own) k k = QR := ⟨_, rfl⟩
      have HI := inv_at (tog F own) k k (by omega)
      obtain ⟨hq1, hq2⟩ := qS_lt HT.out k (by omega)
      have HQ1 := hide (congrArg Prod.fst hQR)
      rw [hQR] at HM1 HS1 HI hq1 hq2
      have HF1 := hide (fit_of hn HI.br hq2)
      have HF2 := hide (fit_of hn HI.bq hq1)
      have HB1 := hide HI.br
      have HB2 := hide HI.bq
      have hm1 : m1 ≤ 64 := by have h1 := HF1.out.2; have h2 := HM1.out; omega
      have hq40 : q <<< k < 1099511627776 := Nat.lt_of_lt_of_le (shl_lt hq) (pow40 (by omega))
      have e0 := shl_wrap q k (by omega) hn
      have e0' := shl_bare q k
      obtain ⟨y, hy⟩ : ∃ y, q <<< k = y := ⟨_, rfl⟩
      rw [hy] at hq40 e0 e0'
      obtain ⟨x, hx⟩ : ∃ x, rdr QR.2 y = x := ⟨_, rfl⟩
      have hx40 : x < 1099511627776 := by rw [← hx]; exact rdr40 HF1.out.1 hq40
      have hlx : lin QR.2 y = x := by rw [← rdr_lin HI.br]; exact hx
      have htop := (HI.tops y)
      have HX := hide hx
      have HPL : Hid (lin (pS (tog F own) k k) (q <<< k) = lin QR.1 x) := hide (by rw [hy, ← HI.par y, hlx])
      have HPT : Hid (lin (pS (tog F own) k k) (q <<< k) >>> k = x >>> k) := hide (by rw [hy, htop.2, ← htop.1, hlx])
      have c0 : wr.cell? ⟨w.heap.size, 0, none⟩ = some (.slice (some ⟨g, 0, none⟩) k c) := HP.out.cell (k := 0) (by omega)
      have c1 : wr.cell? ⟨w.heap.size, 1, none⟩ = some (.bool own) := HP.out.cell (k := 1) (by omega)
      clear hQR HI hq1 hq2 hy hx hlx htop
      go_wp2_with fail
      refine (soReduce_any _ _ _ _ _ _ HF1.out.1 HB1.out.1 hq40 HM1.out hm1 HS1.out).mono ?_
      rintro e w2 ⟨rfl, rfl⟩
      simp only [HX.out]
      clear e0 e0'
      by_cases hz2 : x >>> k = 0
      · have e2 : (x : Int) / 2 ^ k = 0 := by rw [shr_nat, hz2]; rfl
        have HZ : Hid (lin (pS (tog F own) k k) (q <<< k) >>> k = 0) := hide (by rw [HPT.out, hz2])
        clear hz2
        go_wp2_with fail
        refine (soQuiet_any _ _ _ F _ _ hn HF.out HAr.out).mono ?_
        rintro e w3 ⟨A3, d3, m3, rfl, hm3, hs3, hb3⟩
        rw [HQ1.out] at hm3 hs3
        have HM3 := hide hm3
        have HS3 := hide hs3
        have HB3 := hide (HB.out.trans (hb3.mono (by omega)))
        have hm64 : m3 ≤ 64 := by have h1 := HF2.out.2; omega
        clear hm3 hs3 hb3 e2 c0 c1
        go_wp2_with fail
        refine (soReduce_any _ _ _ _ _ _ HF2.out.1 HB2.out.1 hx40 HM3.out hm64 HS3.out).mono ?_
        rintro e w4 ⟨rfl, rfl⟩
        go_wp2
        go_ret2
        refine ⟨?_, by have h := HB3.out; exact ((Below.refl _ _).alloc (Nat.le_refl _) _).trans (h.mono (by omega))⟩
        rw [solV, solB, if_pos HZ.out, decide_eq_true HZ.out, HPL.out, rdr_lin HB2.out]; rfl
      · have e2 : decide ((0 : Int) < (x : Int) / 2 ^ k) = true := by rw [shr_nat]; exact nat_gt0 hz2
        have HZ : Hid (¬ lin (pS (tog F own) k k) (q <<< k) >>> k = 0) := hide (by rw [HPT.out]; exact hz2)
        clear hz2
        go_wp2
        go_ret2
        refine ⟨?_, by have h := HB.out; exact ((Below.refl _ _).alloc (Nat.le_refl _) _).trans (h.mono (by omega))⟩
        rw [solV, solB, if_neg HZ.out, decide_eq_false HZ.out]; rfl
end Go.Proofs.Ytodbhokokdckkaa
