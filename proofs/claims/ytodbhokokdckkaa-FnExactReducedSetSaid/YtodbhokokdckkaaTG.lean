import Derived.Test.YtodbhokokdckkaaTE
namespace Go.Proofs.Ytodbhokokdckkaa
open Go.RowKit
set_option maxHeartbeats 2000000
theorem isBasis_out (g n : Nat) (f : Nat → Int) (w : World) (hno : allB n f 1 65535 = false) (hn2 : n ≤ 1048576) (ha : Arr w 3 g n (iv f)) :
    Calls Try.prog 105 #[.slice (some ⟨g, 0, none⟩) n n] w fun e w' => e = .returned (.bool false) ∧ Below w.heap.size w w' := by
  have HA := hide ha
  have HN : Hid (¬ ∀ k, k < n → 1 ≤ f k ∧ f k ≤ 65535) := hide (by simpa [allB] using hno)
  have hgl := ha.lt
  clear ha hno
  go_enter Try.func105, Try.ntmps105
  go_wp2
  go_loop [7] (fun i => ∃ k : Nat, k ≤ n ∧ i = .int .i64 k ∧ Hid (∀ j, j < k → 1 ≤ f j ∧ f j ≤ 65535)) (fun i => n - (intOf i).toNat)
  case atStart => exact ⟨0, by omega, rfl, hide (fun j hj => absurd hj (by omega))⟩
  case round =>
    obtain ⟨k, hk, rfl, HK⟩ := hrel
    by_cases hlt : k < n
    · have hc : (w.alloc (.cells #[.slice (some ⟨g, 0, none⟩) n n] 22)).cell? ⟨g, k, none⟩ = some (.int .i64 (f k)) := (HA.out.alloc _).cell hlt
      obtain ⟨y, hy⟩ : ∃ y, f k = y := ⟨_, rfl⟩
      rw [hy] at hc
      have HY := hide hy
      clear hy
      by_cases h1 : y < 1
      · go_wp2
        go_ret
        exact ⟨rfl, by go_grown⟩
      · by_cases h2 : 65535 < y
        · go_wp2
          go_ret
          exact ⟨rfl, by go_grown⟩
        · go_wp2
          go_round
          case rel => exact ⟨k + 1, by omega, by go_num, hide (fun j hj => by
            by_cases hjk : j = k
            · subst hjk; rw [HY.out]; omega
            · exact HK.out j (by omega))⟩
          case measure => simp [intOf] <;> omega
    · exact absurd (fun j hj => HK.out j (by omega)) HN.out
theorem bas_iff {L : List Nat} {n : Nat} (hn : L.length = n) : L = fS L n ↔ Bas L := by
  have e : fS L n = L.foldl add [] := by unfold fS; rw [List.take_of_length_le (by omega)]
  rw [e]
  constructor
  · intro h; exact (fold_add_iff L).1 h.symm
  · intro h; exact ((fold_add_iff L).2 h).symm
/-- The set k is in order in its list. -/
def okAt (L : List Nat) (k : Nat) : Prop := (0 < k → (L.getD (k - 1) 0).log2 < (L.getD k 0).log2) ∧ ∀ j, k < j → j < L.length → (L.getD j 0).testBit (L.getD k 0).log2 = false
theorem getD_at {L : List Nat} {k : Nat} (h : k < L.length) : L.getD k 0 = L[k] := by simp [h]
theorem bas_ok {L : List Nat} (h : Bas L) {k : Nat} (hk : k < L.length) : okAt L k := by
  have hp := List.pairwise_iff_getElem.1 h.2
  refine ⟨fun h0 => ?_, fun j hj hjl => ?_⟩
  · rw [getD_at hk, getD_at (by omega)]
    exact (hp (k - 1) k (by omega) hk (by omega)).1
  · rw [getD_at hk, getD_at hjl]
    exact (hp k j hk hjl hj).2
theorem ok_bas {L : List Nat} (h0 : ∀ b ∈ L, b ≠ 0) (h : ∀ k, k < L.length → okAt L k) : Bas L := by
  refine ⟨h0, List.pairwise_iff_getElem.2 fun i j hi hj hij => ⟨?_, ?_⟩⟩
  · have hc : ∀ d, i + 1 + d < L.length → (L.getD i 0).log2 < (L.getD (i + 1 + d) 0).log2 := by
      intro d
      induction d with
      | zero => intro hd; exact (h (i + 1) (by omega)).1 (by omega)
      | succ d ih =>
        intro hd
        have h1 := ih (by omega)
        have h2 := (h (i + 1 + (d + 1)) hd).1 (by omega)
        rw [show i + 1 + (d + 1) - 1 = i + 1 + d by omega] at h2
        omega
    have := hc (j - (i + 1)) (by omega)
    rw [show i + 1 + (j - (i + 1)) = j by omega, getD_at hi, getD_at hj] at this
    exact this
  · have := (h i hi).2 j hij hj
    rw [getD_at hi, getD_at hj] at this
    exact this
theorem soTop_k (s : Nat) (w : World) (hs : s < 1099511627776) (h0 : s ≠ 0) : Calls Try.prog 112 #[.int .i64 s] w fun e w' => e = .returned (.int .i64 (s.log2 : Nat)) ∧ w = w' :=
  (soTop_any s w hs h0).mono fun _ _ ⟨h, hw⟩ => ⟨h, hw.symm⟩
theorem soBasis_in (g n : Nat) (L : List Nat) (w : World) (hL : ∀ b ∈ L, 1 ≤ b ∧ b < 65536) (hn : L.length = n) (hn2 : n ≤ 1048576) (ha : Arr w 3 g n (lv L)) :
    Calls Try.prog 102 #[.slice (some ⟨g, 0, none⟩) n n] w fun e w' => e = .returned (.bool (decide (L = fS L n))) ∧ w' = w := by
  by_cases h16 : 16 < n
  · have HV : Hid (decide (L = fS L n) = false) := hide (decide_eq_false (fun e => by
      have := (fS_fit (fun b hb => (hL b hb).2) n).2.2
      rw [← e] at this; omega))
    clear ha hL
    have HN := hide hn
    clear hn
    go_enter Try.func102, Try.ntmps102
    go_wp2
    go_ret
    exact ⟨by rw [HV.out]; rfl, rfl⟩
  · have hall : allB n (fun k => ((L.getD k 0 : Nat) : Int)) 1 65535 = true := by
      simp only [allB, decide_eq_true_eq]
      intro k hk
      rw [getD_at (by omega)]
      have := hL _ (List.getElem_mem (l := L) (n := k) (by omega))
      omega
    have HAll := hide hall
    have hsrc : Src w (some ⟨g, 0, none⟩) n (iv (fun k => ((L.getD k 0 : Nat) : Int))) := Src.of_arr ha
    have HS := hide hsrc
    have HA := hide ha
    have HL := hide hL
    have HN := hide hn
    have HIff := hide (bas_iff hn)
    have hgl := ha.lt
    clear hall hsrc ha hL hn
    go_enter Try.func102, Try.ntmps102
    go_wp2_with fail
    refine (l1All_any _ _ _ _ _ _ _ hn2 HS.out).mono ?_
    rintro e w2 ⟨rfl, rfl⟩
    simp only [HAll.out]
    go_wp2
    go_loop [17] (fun i => ∃ k : Nat, k ≤ n ∧ i = .int .i64 k ∧ Hid (∀ i, i < k → okAt L i)) (fun i => n - (intOf i).toNat)
    case atStart => exact ⟨0, by omega, rfl, hide (fun j hj => absurd hj (by omega))⟩
    case round =>
      obtain ⟨k, hk, rfl, HK⟩ := hrel
      by_cases hlt : k < n
      · have hkn : k < L.length := by rw [HN.out]; exact hlt
        obtain ⟨y, hy⟩ : ∃ y, L.getD k 0 = y := ⟨_, rfl⟩
        have hyL := HL.out y (by rw [← hy, getD_at hkn]; exact List.getElem_mem hkn)
        have hy40 : y < 1099511627776 := by omega
        have hyn : y ≠ 0 := by omega
        have hlog := log40 hyn hy40
        have hc : w2.cell? ⟨g, k, none⟩ = some (.int .i64 (y : Nat)) := by rw [HA.out.cell hlt]; simp only [lv, hy]
        have HY := hide hy
        clear hy hkn
        have hfirst : k = 0 ∨ 0 < k := by omega
        by_cases hord : 0 < k ∧ ¬ (L.getD (k - 1) 0).log2 < y.log2
        · -- the greatest elements are out of order
          obtain ⟨hk0, hge⟩ := hord
          obtain ⟨x, hx⟩ : ∃ x, L.getD (k - 1) 0 = x := ⟨_, rfl⟩
          have hxk : k - 1 < L.length := by rw [HN.out]; omega
          have hxL := HL.out x (by rw [← hx, getD_at hxk]; exact List.getElem_mem hxk)
          have hx40 : x < 1099511627776 := by omega
          have hxn : x ≠ 0 := by omega
          have hcx : w2.cell? ⟨g, k - 1, none⟩ = some (.int .i64 (x : Nat)) := by rw [HA.out.cell (by omega)]; simp only [lv, hx]
          have HV : Hid (decide (L = fS L n) = false) := hide (decide_eq_false (fun e => by
            have := (bas_ok (HIff.out.1 e) (k := k) (by rw [HN.out]; exact hlt)).1 hk0
            rw [HY.out] at this; exact hge this))
          rw [hx] at hge
          have hge2 : y.log2 ≤ x.log2 := by omega
          obtain ⟨j, rfl⟩ : ∃ j, k = j + 1 := ⟨k - 1, by omega⟩
          rw [Nat.add_sub_cancel] at hcx
          have ej : ((j + 1 : Nat) : Int) - 1 = (j : Int) := by omega
          clear hx hge hxk hxL hyL
          go_wp2_with (go_at_call 112; first | ((with_reducible refine (soTop_k x _ hx40 hxn).mono ?_); rintro e w3 ⟨rfl, rfl⟩) | ((with_reducible refine (soTop_k y _ hy40 hyn).mono ?_); rintro e w3 ⟨rfl, rfl⟩))
          go_ret
          exact ⟨by rw [HV.out]; rfl, rfl⟩
        · rcases hfirst with rfl | hk0
          · by_cases hlast : 0 + 1 = n
            · have HOk : Hid (∀ i, i < 0 + 1 → okAt L i) := hide (fun i hi => by
                by_cases hik : i = 0
                · subst hik; exact ⟨fun h => absurd h (by omega), fun j hj hjl => by rw [HN.out] at hjl; omega⟩
                · exact HK.out i (by omega))
              have hla : n ≤ 0 + 1 := by omega
              have hlb : 0 + 1 ≤ n := by omega
              clear hlast
              go_wp2_with fail
              go_loop [40] (fun i => i = .int .i64 0) (fun i => 0)
              case atStart => rfl
              case round =>
                subst hrel
                go_wp2
                go_round
                case rel => exact ⟨0 + 1, by omega, by go_num, HOk⟩
                case measure => simp [intOf] <;> omega
            · go_wp2_with fail
              go_loop [40] (fun i => ∃ j : Nat, j ≤ n - (1) ∧ i = .int .i64 j ∧ Hid (∀ j', j' < j → (L.getD (0 + 1 + j') 0).testBit y.log2 = false)) (fun i => n - (intOf i).toNat)
              case atStart => exact ⟨0, by omega, rfl, hide (fun j hj => absurd hj (by omega))⟩
              case round =>
                obtain ⟨j, hj, rfl, HJ⟩ := hrel
                by_cases hjl : j < n - (1)
                · obtain ⟨z, hz⟩ : ∃ z, L.getD (0 + 1 + j) 0 = z := ⟨_, rfl⟩
                  have hzk : 0 + 1 + j < L.length := by rw [HN.out]; omega
                  have hzL := HL.out z (by rw [← hz, getD_at hzk]; exact List.getElem_mem hzk)
                  have hcz : w2.cell? ⟨g, 1 + j, none⟩ = some (.int .i64 (z : Nat)) := by
                    rw [show 1 + j = 0 + 1 + j by omega, HA.out.cell (by omega)]; simp only [lv, hz]
                  have HZ := hide hz
                  clear hz hzk
                  cases hbit : z.testBit y.log2
                  · go_wp2_with (first | (go_at_call 112; refine (soTop_k y _ hy40 hyn).mono ?_; rintro e w3 ⟨rfl, rfl⟩) | (go_at_call 106; refine (grIn_any _ _ (by omega) (by omega) (by omega) _).mono ?_; rintro e w3 ⟨rfl, rfl⟩; simp only [Int.toNat_natCast, bt_nat, hbit]))
                    go_round
                    case rel =>
                      have HJ2 : Hid (∀ j', j' < j + 1 → (L.getD (0 + 1 + j') 0).testBit y.log2 = false) := hide (fun j' hj' => by
                        by_cases hjj : j' = j
                        · subst hjj; rw [HZ.out]; exact hbit
                        · exact HJ.out j' (by omega))
                      exact ⟨j + 1, by omega, by go_num, HJ2⟩
                    case measure => simp [intOf] <;> omega
                  · have HV : Hid (decide (L = fS L n) = false) := hide (decide_eq_false (fun e => by
                      have := (bas_ok (HIff.out.1 e) (k := 0) (by rw [HN.out]; exact hlt)).2 (0 + 1 + j) (by omega) (by rw [HN.out]; omega)
                      rw [HY.out, HZ.out, hbit] at this; cases this))
                    go_wp2_with (first | (go_at_call 112; refine (soTop_k y _ hy40 hyn).mono ?_; rintro e w3 ⟨rfl, rfl⟩) | (go_at_call 106; refine (grIn_any _ _ (by omega) (by omega) (by omega) _).mono ?_; rintro e w3 ⟨rfl, rfl⟩; simp only [Int.toNat_natCast, bt_nat, hbit]))
                    go_ret
                    exact ⟨by rw [HV.out]; rfl, rfl⟩
                · have HOk : Hid (∀ i, i < 0 + 1 → okAt L i) := hide (fun i hi => by
                    by_cases hik : i = 0
                    · subst hik
                      refine ⟨fun h => absurd h (by omega), fun j2 hj2 hjl2 => ?_⟩
                      rw [HN.out] at hjl2
                      have := HJ.out (j2 - (0 + 1)) (by omega)
                      rw [show 0 + 1 + (j2 - (0 + 1)) = j2 by omega] at this
                      rw [HY.out]; exact this
                    · exact HK.out i (by omega))
                  go_wp2
                  go_round
                  case rel => exact ⟨0 + 1, by omega, by go_num, HOk⟩
                  case measure => simp [intOf] <;> omega
          · have hlt3 : (L.getD (k - 1) 0).log2 < y.log2 := by
              by_cases h : (L.getD (k - 1) 0).log2 < y.log2
              · exact h
              · exact absurd ⟨hk0, h⟩ hord
            obtain ⟨x, hx⟩ : ∃ x, L.getD (k - 1) 0 = x := ⟨_, rfl⟩
            have hxk : k - 1 < L.length := by rw [HN.out]; omega
            have hxL := HL.out x (by rw [← hx, getD_at hxk]; exact List.getElem_mem hxk)
            have hx40 : x < 1099511627776 := by omega
            have hxn : x ≠ 0 := by omega
            have hcx : w2.cell? ⟨g, k - 1, none⟩ = some (.int .i64 (x : Nat)) := by rw [HA.out.cell (by omega)]; simp only [lv, hx]
            rw [hx] at hlt3
            have HFst : Hid (0 < k → (L.getD (k - 1) 0).log2 < (L.getD k 0).log2) := hide (fun _ => by rw [hx, HY.out]; exact hlt3)
            obtain ⟨m, rfl⟩ : ∃ m, k = m + 1 := ⟨k - 1, by omega⟩
            rw [Nat.add_sub_cancel] at hcx
            have ej : ((m + 1 : Nat) : Int) - 1 = (m : Int) := by omega
            have hdec : decide (y.log2 ≤ x.log2) = false := decide_eq_false (by omega)
            clear hx hxk hxL hord
            by_cases hlast : (m + 1) + 1 = n
            · have HOk : Hid (∀ i, i < (m + 1) + 1 → okAt L i) := hide (fun i hi => by
                by_cases hik : i = (m + 1)
                · subst hik; exact ⟨HFst.out, fun j hj hjl => by rw [HN.out] at hjl; omega⟩
                · exact HK.out i (by omega))
              have hla : n ≤ (m + 1) + 1 := by omega
              have hlb : (m + 1) + 1 ≤ n := by omega
              clear hlast
              go_wp2_with (go_at_call 112; first | ((with_reducible refine (soTop_k x _ hx40 hxn).mono ?_); rintro e w3 ⟨rfl, rfl⟩) | ((with_reducible refine (soTop_k y _ hy40 hyn).mono ?_); rintro e w3 ⟨rfl, rfl⟩))
              go_loop [40] (fun i => i = .int .i64 0) (fun i => 0)
              case atStart => rfl
              case round =>
                subst hrel
                go_wp2
                go_round
                case rel => exact ⟨(m + 1) + 1, by omega, by go_num, HOk⟩
                case measure => simp [intOf] <;> omega
            · go_wp2_with (go_at_call 112; first | ((with_reducible refine (soTop_k x _ hx40 hxn).mono ?_); rintro e w3 ⟨rfl, rfl⟩) | ((with_reducible refine (soTop_k y _ hy40 hyn).mono ?_); rintro e w3 ⟨rfl, rfl⟩))
              go_loop [40] (fun i => ∃ j : Nat, j ≤ n - (m + 1 + 1) ∧ i = .int .i64 j ∧ Hid (∀ j', j' < j → (L.getD ((m + 1) + 1 + j') 0).testBit y.log2 = false)) (fun i => n - (intOf i).toNat)
              case atStart => exact ⟨0, by omega, rfl, hide (fun j hj => absurd hj (by omega))⟩
              case round =>
                obtain ⟨j, hj, rfl, HJ⟩ := hrel
                by_cases hjl : j < n - (m + 1 + 1)
                · obtain ⟨z, hz⟩ : ∃ z, L.getD ((m + 1) + 1 + j) 0 = z := ⟨_, rfl⟩
                  have hzk : (m + 1) + 1 + j < L.length := by rw [HN.out]; omega
                  have hzL := HL.out z (by rw [← hz, getD_at hzk]; exact List.getElem_mem hzk)
                  have hcz : w2.cell? ⟨g, m + 1 + 1 + j, none⟩ = some (.int .i64 (z : Nat)) := by
                    rw [show m + 1 + 1 + j = (m + 1) + 1 + j by omega, HA.out.cell (by omega)]; simp only [lv, hz]
                  have HZ := hide hz
                  clear hz hzk
                  cases hbit : z.testBit y.log2
                  · go_wp2_with (first | (go_at_call 112; refine (soTop_k y _ hy40 hyn).mono ?_; rintro e w3 ⟨rfl, rfl⟩) | (go_at_call 106; refine (grIn_any _ _ (by omega) (by omega) (by omega) _).mono ?_; rintro e w3 ⟨rfl, rfl⟩; simp only [Int.toNat_natCast, bt_nat, hbit]))
                    go_round
                    case rel =>
                      have HJ2 : Hid (∀ j', j' < j + 1 → (L.getD ((m + 1) + 1 + j') 0).testBit y.log2 = false) := hide (fun j' hj' => by
                        by_cases hjj : j' = j
                        · subst hjj; rw [HZ.out]; exact hbit
                        · exact HJ.out j' (by omega))
                      exact ⟨j + 1, by omega, by go_num, HJ2⟩
                    case measure => simp [intOf] <;> omega
                  · have HV : Hid (decide (L = fS L n) = false) := hide (decide_eq_false (fun e => by
                      have := (bas_ok (HIff.out.1 e) (k := (m + 1)) (by rw [HN.out]; exact hlt)).2 ((m + 1) + 1 + j) (by omega) (by rw [HN.out]; omega)
                      rw [HY.out, HZ.out, hbit] at this; cases this))
                    go_wp2_with (first | (go_at_call 112; refine (soTop_k y _ hy40 hyn).mono ?_; rintro e w3 ⟨rfl, rfl⟩) | (go_at_call 106; refine (grIn_any _ _ (by omega) (by omega) (by omega) _).mono ?_; rintro e w3 ⟨rfl, rfl⟩; simp only [Int.toNat_natCast, bt_nat, hbit]))
                    go_ret
                    exact ⟨by rw [HV.out]; rfl, rfl⟩
                · have HOk : Hid (∀ i, i < (m + 1) + 1 → okAt L i) := hide (fun i hi => by
                    by_cases hik : i = (m + 1)
                    · subst hik
                      refine ⟨HFst.out, fun j2 hj2 hjl2 => ?_⟩
                      rw [HN.out] at hjl2
                      have := HJ.out (j2 - ((m + 1) + 1)) (by omega)
                      rw [show (m + 1) + 1 + (j2 - ((m + 1) + 1)) = j2 by omega] at this
                      rw [HY.out]; exact this
                    · exact HK.out i (by omega))
                  go_wp2
                  go_round
                  case rel => exact ⟨(m + 1) + 1, by omega, by go_num, HOk⟩
                  case measure => simp [intOf] <;> omega
      · have hkn : k = n := by omega
        subst hkn
        have HV : Hid (decide (L = fS L k) = true) := hide (decide_eq_true (HIff.out.2 (ok_bas (fun b hb => by have := HL.out b hb; omega) (fun i hi => HK.out i (by rw [HN.out] at hi; exact hi)))))
        go_wp2
        go_ret
        exact ⟨by rw [HV.out]; rfl, rfl⟩
end Go.Proofs.Ytodbhokokdckkaa
