import Derived.Test.YtodbhokokdckkaaSL
namespace Go.Proofs.Ytodbhokokdckkaa
open Go.RowKit
set_option maxHeartbeats 2000000
theorem quietAndImage_any (g n c : Nat) (F : Nat → Nat) (own : Bool) (w : World) (hn : n ≤ 16) (hF : ∀ j, j < n → F j < 2 ^ n) (ha : Arr w 3 g n (iv (nv F))) :
    Calls Try.prog 85 #[.agg #[.slice (some ⟨g, 0, none⟩) n c, .bool own]] w (TwoL w (qS (tog F own) n n).1 (iS (tog F own) n)) := by
  have HI := inv_at (tog F own) n n (by omega)
  have HT := hide (tog_all (own := own) hF)
  have hfit := fit_of hn HI.bp (pS_lt HT.out n (by omega))
  have hparts := parts (tog F own) n
  obtain ⟨P, hP⟩ : ∃ P, pS (tog F own) n n = P := ⟨_, rfl⟩
  rw [hP] at hfit hparts
  have HP := hide hP
  have HFit := hide hfit
  have HParts := hide hparts
  have HA := hide ha
  have HF := hide hF
  clear ha hF HI hfit hparts hP
  go_enter Try.func85, Try.ntmps85
  go_wp2_with fail
  refine (pressBasis_any _ _ _ F own _ hn HF.out (HA.out.alloc _)).mono ?_
  rintro e w1 ⟨AP, dP, p, rfl, hp, ho, hb⟩
  rw [HP.out] at hp ho
  have hbox := (Arr.box w 26 (.slice (some ⟨g, 0, none⟩) n c) (.bool own)).all hb
  have hz1 := hb.size
  simp only [World.size_alloc] at hz1
  have hp64 : p ≤ 64 := by rw [← hp]; exact HFit.out.2
  have HPL := hide hp
  have HS := hide (ho.src hp)
  have HBox := hide hbox
  have HB1 := hide ((by go_grown : Below w.heap.size w _).trans (hb.mono (by simp)))
  clear hp ho hb hbox
  go_wp2
  go_loopw [4, 5, 12] (fun qv uv i wr => ∃ (k m1 m2 : Nat) (A1 A2 : Option Addr) (d1 d2 : Nat), k ≤ p ∧ i = .int .i64 k ∧ qv = .slice A1 m1 d1 ∧ uv = .slice A2 m2 d2 ∧ Hid ((lowP P n k).length = m1) ∧ Hid ((upP P n k).length = m2) ∧ OL wr w1.heap.size (.slice A1 m1 d1) (lowP P n k) ∧ OL wr w1.heap.size (.slice A2 m2 d2) (upP P n k) ∧ Sep (.slice A1 m1 d1) (.slice A2 m2 d2) ∧ Below w1.heap.size w1 wr) (fun _ _ i _ => p - (intOf i).toNat)
  case atStart => exact ⟨0, 0, 0, none, none, 0, 0, by omega, rfl, rfl, rfl, hide rfl, hide rfl, OL.nil _ _, OL.nil _ _, Sep.none _ _ _, Below.refl _ _⟩
  case round =>
    obtain ⟨k, m1, m2, A1, A2, d1, d2, hk, rfl, rfl, rfl, HM1, HM2, ho1, ho2, hsep, hb⟩ := hrel
    have hsz := hb.size
    have c0 : wr.cell? ⟨w.heap.size, 0, none⟩ = some (.slice (some ⟨g, 0, none⟩) n c) := (HBox.out.all hb).cell (k := 0) (by omega)
    have HO1 := hide ho1
    have HO2 := hide ho2
    have HSep := hide hsep
    have HB := hide hb
    have hm1 : m1 ≤ 64 := by have h1 := lowP_len P n k; have h2 := HM1.out; have h3 := HPL.out; omega
    have hm2 : m2 ≤ 64 := by have h1 := upP_len P n k; have h2 := HM2.out; have h3 := HPL.out; omega
    clear ho1 ho2 hsep hb
    by_cases hlt : k < p
    · have hkn : k < P.length := by rw [HPL.out]; exact hlt
      obtain ⟨b, off, hA, hbl, hc0⟩ := HS.out k hlt
      subst hA
      obtain ⟨y, hy⟩ : ∃ y, P[k] = y := ⟨_, rfl⟩
      have hym : y ∈ P := by rw [← hy]; exact List.getElem_mem hkn
      have hy40 := HFit.out.1 y hym
      have hc : wr.cell? ⟨b, off + k, none⟩ = some (.int .i64 (y : Nat)) := by rw [HB.out.cell (p := ⟨b, off + k, none⟩) hbl, hc0, lv_get hkn, hy]
      have HK1 : Hid (lowP P n (k + 1) = lowP P n k ++ (if decide (y >>> n = 0) then [y] else [])) := hide (by rw [lowP_succ hkn, hy])
      have HK2 : Hid (upP P n (k + 1) = upP P n k ++ (if decide (¬ y >>> n = 0) then [y >>> n] else [])) := hide (by rw [upP_succ hkn, hy])
      clear hy hc0 hkn hym
      by_cases hz : y >>> n = 0
      · have e2 : (y : Int) / 2 ^ n = 0 := by rw [shr_nat, hz]; rfl
        have HZ := hide hz
        clear hz
        go_wp2_with (at_builtin; refine wpList_append_two _ rfl _ _ rfl w1.heap.size A1 d1 m1 (lowP P n k) y wr.heap.size rfl (HO1.out.alloc _) HM1.out rfl (by simp [go_sem]) (by omega) (by simp; omega) (.slice A2 m2 d2) (upP P n k) (HO2.out.alloc _) HSep.out ?_; intro A5 c5 w5 ho5 ho6 hsep5 hb5; have HO5 := hide ho5; have HO6 := hide ho6; have HSep5 := hide hsep5; have HB5 := hide ((HB.out.alloc (by omega) _).trans hb5); clear ho5 ho6 hsep5 hb5)
        go_roundw
        case rel => exact ⟨k + 1, m1 + 1, m2, A5, A2, c5, d2, by omega, by go_num, rfl, rfl, hide (by rw [HK1.out, decide_eq_true HZ.out, if_pos rfl, List.length_append, HM1.out]; rfl), hide (by rw [HK2.out, decide_eq_false (not_not_intro HZ.out)]; simpa using HM2.out), by rw [HK1.out, decide_eq_true HZ.out, if_pos rfl]; exact HO5.out, by rw [HK2.out, decide_eq_false (not_not_intro HZ.out)]; simpa using HO6.out, HSep5.out, HB5.out⟩
        case measure => simp [intOf]; omega
      · have e2 : (y : Int) / 2 ^ n = ((y >>> n : Nat) : Int) := shr_nat y n
        have e3 : (((y >>> n : Nat) : Int) == 0) = false := nat_ne0 hz
        have e4 : (((y >>> n : Nat) : Int) != 0) = true := by rw [bne, e3]; rfl
        have HZ := hide hz
        clear hz
        obtain ⟨z, hz⟩ : ∃ z, y >>> n = z := ⟨_, rfl⟩
        rw [hz] at e2 e3 e4 HK2
        rw [hz] at HK1
        have HZ2 : Hid (¬ z = 0) := by rw [← hz]; exact HZ
        clear hz HZ
        go_wp2_with (at_builtin; refine wpList_append_two _ rfl _ _ rfl w1.heap.size A2 d2 m2 (upP P n k) z wr.heap.size rfl (HO2.out.alloc _) HM2.out rfl (by simp [go_sem]) (by omega) (by simp; omega) (.slice A1 m1 d1) (lowP P n k) (HO1.out.alloc _) HSep.out.symm ?_; intro A5 c5 w5 ho5 ho6 hsep5 hb5; have HO5 := hide ho5; have HO6 := hide ho6; have HSep5 := hide hsep5.symm; have HB5 := hide ((HB.out.alloc (by omega) _).trans hb5); clear ho5 ho6 hsep5 hb5)
        go_roundw
        case rel => exact ⟨k + 1, m1, m2 + 1, A1, A5, d1, c5, by omega, by go_num, rfl, rfl, hide (by rw [HK1.out, decide_eq_false HZ2.out]; simpa using HM1.out), hide (by rw [HK2.out, decide_eq_true HZ2.out, if_pos rfl, List.length_append, HM2.out]; rfl), by rw [HK1.out, decide_eq_false HZ2.out]; simpa using HO6.out, by rw [HK2.out, decide_eq_true HZ2.out, if_pos rfl]; exact HO5.out, HSep5.out, HB5.out⟩
        case measure => simp [intOf]; omega
    · have hkn : k = p := by omega
      subst hkn
      have HQ : Hid (lowP P n k = (qS (tog F own) n n).1) := hide (by rw [← HPL.out]; exact HParts.out.1)
      have HU : Hid (upP P n k = iS (tog F own) n) := hide (by rw [← HPL.out]; exact HParts.out.2)
      go_wp2
      go_ret2
      exact ⟨A1, A2, m1, m2, d1, d2, rfl, by rw [← HQ.out]; exact HM1.out, by rw [← HU.out]; exact HM2.out, by rw [← HQ.out]; exact HO1.out.mono (by omega), by rw [← HU.out]; exact HO2.out.mono (by omega), HB1.out.trans (HB.out.mono (by omega))⟩
end Go.Proofs.Ytodbhokokdckkaa
