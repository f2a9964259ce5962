import Derived.Test.YtodbhokokdckkaaSN
import Derived.Deep.RegionHeld3
namespace Go.Proofs.Ytodbhokokdckkaa
open Go.RowKit
set_option maxHeartbeats 2000000
theorem isBoard_any (g n c : Nat) (f : Nat → Int) (own : Bool) (s : Int) (w : World) (hn : n ≤ 1048576) (ha : Arr w 3 g n (iv f)) :
    Calls Try.prog 90 #[.agg #[.slice (some ⟨g, 0, none⟩) n c, .bool own], .int .i64 s] w fun e w' => e = .returned (.bool (setB n f s)) ∧ Below w.heap.size w w' := by
  have HA := hide ha
  clear ha
  cases hgd : goodB n f
  · have HV : Hid (setB n f s = false) := hide (by simp [setB, hgd])
    go_enter Try.func90, Try.ntmps90
    go_wp2_with fail
    refine (isGraph_any _ _ _ f _ _ hn (HA.out.alloc _)).mono ?_
    rintro e w1 ⟨rfl, hb1⟩
    have HB := hide ((by go_grown : Below w.heap.size w _).trans (hb1.mono (by simp)))
    clear hb1
    go_wp2
    go_ret
    exact ⟨by rw [HV.out]; rfl, HB.out⟩
  · have hn16 := (goodB_iff.1 hgd).n16
    have HV : Hid (setB n f s = inB s 0 (2 ^ n - 1)) := hide (by simp [setB, hgd])
    go_enter Try.func90, Try.ntmps90
    go_wp2_with fail
    refine (isGraph_any _ _ _ f _ _ hn (HA.out.alloc _)).mono ?_
    rintro e w1 ⟨rfl, hb1⟩
    have hp := (Arr.box w 26 (.slice (some ⟨g, 0, none⟩) n c) (.bool own)).all hb1
    have HA1 := hide ((HA.out.alloc _).all hb1)
    have HB1 := hide ((by go_grown : Below w.heap.size w _).trans (hb1.mono (by simp)))
    have c0_1 : w1.cell? ⟨w.heap.size, 0, none⟩ = some (.slice (some ⟨g, 0, none⟩) n c) := hp.cell (by omega)
    have c1_1 : w1.cell? ⟨w.heap.size, 1, none⟩ = some (.bool own) := hp.cell (by omega)
    have HX1 := hide hp
    clear hp hb1
    go_wp2_with fail
    refine (isSet_any _ _ _ _ _ _ hn16).mono ?_
    rintro e w2 ⟨rfl, hb2⟩
    have HB2 := hide (HB1.out.trans (hb2.mono HB1.out.size))
    clear hb2
    cases hv : inB s 0 (2 ^ n - 1)
    · go_wp2
      go_ret
      exact ⟨by rw [HV.out, hv]; rfl, HB2.out⟩
    · go_wp2
      go_ret
      exact ⟨by rw [HV.out, hv]; rfl, HB2.out⟩
theorem solveImpl_no (g n c : Nat) (f : Nat → Int) (own : Bool) (s : Int) (w : World) (hn : n ≤ 1048576) (hno : setB n f s = false) (ha : Arr w 3 g n (iv f)) :
    Calls Try.prog 53 #[.agg #[.slice (some ⟨g, 0, none⟩) n c, .bool own], .int .i64 s] w (Two w (.int .i64 0) false) := by
  have HA := hide ha
  clear ha
  go_enter Try.func53, Try.ntmps53
  go_wp2_with fail
  refine (isBoard_any _ _ _ f _ _ _ hn (HA.out.alloc _)).mono ?_
  rintro e w1 ⟨rfl, hb1⟩
  go_wp2
  go_ret2
  exact ⟨rfl, (by go_grown : Below w.heap.size w _).trans (hb1.mono (by simp))⟩
theorem shl_wrap' (x n : Nat) (hx : x < 65536) (hn : n ≤ 16) : IntKind.i64.wrap ((x : Int) * 2 ^ n) = ((x <<< n : Nat) : Int) := by
  have h1 := pow16n hn
  have h2 : x * 2 ^ n ≤ 65536 * 65536 := Nat.mul_le_mul (by omega) h1
  rw [Nat.shiftLeft_eq, Int.natCast_mul, pow_nat, IntWalk.i64_in _ (by rw [← pow_nat, ← Int.natCast_mul]; generalize x * 2 ^ n = z at h2; omega)]
theorem solveImpl_ok (g n c : Nat) (F : Nat → Nat) (own : Bool) (q : Nat) (w : World) (hn : n ≤ 16) (hF : ∀ j, j < n → F j < 2 ^ n) (hq : q < 2 ^ n) (hset : setB n (nv F) q = true) (ha : Arr w 3 g n (iv (nv F))) :
    Calls Try.prog 53 #[.agg #[.slice (some ⟨g, 0, none⟩) n c, .bool own], .int .i64 q] w (Two w (.int .i64 (solV (tog F own) n q : Nat)) (solB (tog F own) n q)) := by
  have h16 := pow16n hn
  have HA := hide ha
  have HF := hide hF
  have HT := hide (tog_all (own := own) hF)
  have HI := inv_at (tog F own) n n (by omega)
  have hfit := fit_of hn HI.bp (pS_lt HT.out n (by omega))
  have hbas := HI.bp
  obtain ⟨P, hP⟩ : ∃ P, pS (tog F own) n n = P := ⟨_, rfl⟩
  rw [hP] at hfit hbas
  have HP := hide hP
  have HFit := hide hfit
  have HBas := hide hbas
  have hy40 : q <<< n < 1099511627776 := Nat.lt_of_lt_of_le (shl_lt hq) (pow40 (by omega))
  have e0 := shl_wrap' q n (by omega) hn
  have HV : Hid (solV (tog F own) n q = if lin P (q <<< n) >>> n = 0 then lin P (q <<< n) else 0) := hide (by rw [← hP]; rfl)
  have HW : Hid (solB (tog F own) n q = decide (lin P (q <<< n) >>> n = 0)) := hide (by rw [← hP]; rfl)
  obtain ⟨y, hy⟩ : ∃ y, q <<< n = y := ⟨_, rfl⟩
  rw [hy] at hy40 e0 HV HW
  obtain ⟨x, hx⟩ : ∃ x, lin P y = x := ⟨_, rfl⟩
  rw [hx] at HV HW
  have HX : Hid (rd P y = x) := hide (by rw [rd_lin hbas, hx])
  have hx40 : x < 1099511627776 := by rw [← HX.out]; exact rd40 hfit.1 hy40
  have HSet := hide hset
  clear ha hF HI hfit hbas hP hy hx hset
  go_enter Try.func53, Try.ntmps53
  go_wp2_with fail
  refine (isBoard_any _ _ _ (nv F) _ _ _ (by omega) (HA.out.alloc _)).mono ?_
  rintro e w1 ⟨rfl, hb1⟩
  have hp := (Arr.box w 26 (.slice (some ⟨g, 0, none⟩) n c) (.bool own)).all hb1
  have HA1 := hide ((HA.out.alloc _).all hb1)
  have HB1 := hide ((by go_grown : Below w.heap.size w _).trans (hb1.mono (by simp)))
  have c0_1 : w1.cell? ⟨w.heap.size, 0, none⟩ = some (.slice (some ⟨g, 0, none⟩) n c) := hp.cell (by omega)
  have c1_1 : w1.cell? ⟨w.heap.size, 1, none⟩ = some (.bool own) := hp.cell (by omega)
  have HX1 := hide hp
  clear hp hb1
  have KK : Hid (w1.drew.cell? ⟨w.heap.size, 0, none⟩ = some (.slice (some ⟨g, 0, none⟩) n c) ∧ w1.drew.cell? ⟨w.heap.size, 1, none⟩ = some (.bool own)) := hide ⟨c0_1, c1_1⟩
  simp only [HSet.out]
  go_wp2
  go_region_held3 (fun w' => w'.cell? ⟨w.heap.size, 0, none⟩ = some (.slice (some ⟨g, 0, none⟩) n c) ∧ w'.cell? ⟨w.heap.size, 1, none⟩ = some (.bool own)) (first | exact KK.out | exact two_below (by assumption) KK.out) (first | (go_at_call 93; refine (pressBasis_any _ _ _ F own _ hn HF.out (by exact HA1.out.drew)).mono ?_; rintro e w3 ⟨AP, dP, p, rfl, hp, ho, hb3⟩; rw [HP.out] at hp ho; have HPp := hide hp; have HO := hide ho; have hp64 : p ≤ 1048576 := (by have h1 := HFit.out.2; omega); clear hp ho) | (go_at_call 92; refine (reduced_any _ _ _ P y _ HFit.out.1 HBas.out.1 hy40 HPp.out hp64 (by exact HO.out.src HPp.out)).mono ?_; rintro e w4 ⟨rfl, rfl⟩; simp only [HX.out]))
  have HB3 := hide (HB1.out.trans (((Below.drew (Below.refl w1.heap.size w1)).trans hb3).mono HB1.out.size))
  clear hb3 e0 KK
  by_cases hz : x >>> n = 0
  · have e2 : (x : Int) / 2 ^ n = 0 := by rw [shr_nat, hz]; rfl
    have HZ := hide hz
    clear hz
    go_wp2
    go_ret2
    exact ⟨by rw [HV.out, HW.out, if_pos HZ.out, decide_eq_true HZ.out]; rfl, HB3.out⟩
  · have e2 : ((x : Int) / 2 ^ n != 0) = true := by rw [shr_nat, bne, nat_ne0 hz]; rfl
    have HZ := hide hz
    clear hz
    go_wp2
    go_ret2
    exact ⟨by rw [HV.out, HW.out, if_neg HZ.out, decide_eq_false HZ.out]; rfl, HB3.out⟩
end Go.Proofs.Ytodbhokokdckkaa
