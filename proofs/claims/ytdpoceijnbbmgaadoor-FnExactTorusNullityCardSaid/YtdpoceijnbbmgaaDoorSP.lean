/-
A set reduced by a basis, and put into it: the model's side.
-/
import Derived.Test.YtdpoceijnbbmgaaDoorZd
import Derived.Test.YtdpoceijnbbmgaaDoorD
import Derived.Handy
namespace Go.Proofs.YtdpoceijnbbmgaaDoor
open Go.RowKit
set_option maxHeartbeats 1000000
theorem soTop_any (s : Nat) (w : World) (hs : s < 1099511627776) (h0 : s ≠ 0) :
    Calls Tryd.prog 98 #[.int .i64 s] w fun e w' => e = .returned (.int .i64 (s.log2 : Nat)) ∧ w' = w := by
  have hL := log40 h0 hs
  go_enter Tryd.func98, Tryd.ntmps98
  go_wp2
  go_loop [0, 3] (fun x t => ∃ k : Nat, k ≤ s.log2 + 1 ∧ x = .int .i64 ((s / 2 ^ k : Nat) : Int) ∧ t = .int .i64 ((k : Int) - 1)) (fun x _ => (intOf x).toNat)
  case atStart => exact ⟨0, by omega, by simp, rfl⟩
  case round =>
    obtain ⟨k, hk, rfl, rfl⟩ := hrel
    obtain ⟨x, hx⟩ : ∃ x, s / 2 ^ k = x := ⟨_, rfl⟩
    have hx2 : Hid (s / 2 ^ (k + 1) = x / 2) := hide (by rw [Nat.pow_succ, ← Nat.div_div_eq_div_mul, hx])
    have hxs : x ≤ s := by rw [← hx]; exact Nat.div_le_self _ _
    rw [hx]
    by_cases hp : 0 < x
    · have hkl : k ≤ s.log2 := by
        apply (Nat.le_log2 h0).2
        rcases Nat.lt_or_ge s (2 ^ k) with h | h
        · rw [Nat.div_eq_of_lt h] at hx; omega
        · exact h
      clear hx
      go_wp2
      go_round
      case rel => exact ⟨k + 1, by omega, by rw [hx2.out]; go_num, by go_num⟩
      case measure => simp [intOf] <;> omega
    · have hke : s.log2 + 1 = k := by
        have h1 : s < 2 ^ k := by
          have := (Nat.div_eq_zero_iff (a := s) (b := 2 ^ k)).1 (by omega)
          have := Nat.two_pow_pos k
          omega
        have := (Nat.log2_lt h0).2 h1
        omega
      have hz : ((x : Nat) : Int) = 0 := by omega
      rw [hz]
      clear hx hz
      go_wp2
      go_ret
      exact ⟨ret_int (by omega), rfl⟩
theorem soReduce_any (A : Option Addr) (c n : Nat) (L : List Nat) (s : Nat) (w : World) (hL : M40 L) (h0 : NZ L) (hs : s < 1099511627776) (hn : L.length = n) (hlen : n ≤ 64) (hsrc : Src w A n (lv L)) :
    Calls Tryd.prog 122 #[.slice A n c, .int .i64 s] w fun e w' => e = .returned (.int .i64 (rdr L s : Nat)) ∧ w' = w := by
  have HL := hide hL
  have H0 := hide h0
  have HS := hide hsrc
  clear hL h0 hsrc
  have HN := hide hn
  clear hn
  go_enter Tryd.func122, Tryd.ntmps122
  go_wp2
  go_loop [1, 5] (fun t i => ∃ m : Nat, m ≤ n ∧ i = .int .i64 ((m : Int) - 1) ∧ t = .int .i64 (rdr (L.drop m) s : Nat)) (fun _ i => (intOf i + 1).toNat)
  case atStart => exact ⟨n, by omega, rfl, by rw [List.drop_of_length_le (by rw [HN.out]; omega)]; rfl⟩
  case round =>
    obtain ⟨m, hm, rfl, rfl⟩ := hrel
    have hx40 : rdr (L.drop m) s < 1099511627776 := rdr40 (fun b hb => HL.out b (List.mem_of_mem_drop hb)) hs
    obtain ⟨x, hx⟩ : ∃ x, rdr (L.drop m) s = x := ⟨_, rfl⟩
    rw [hx] at hx40 ⊢
    have HX := hide hx
    clear hx
    by_cases hp : 0 < m
    · obtain ⟨j, rfl⟩ : ∃ j, m = j + 1 := ⟨m - 1, by omega⟩
      have hjn : j < L.length := by rw [HN.out]; omega
      obtain ⟨b, off, hA, hbl, hc0⟩ := HS.out j (by omega)
      subst hA
      obtain ⟨y, hy⟩ : ∃ y, L[j] = y := ⟨_, rfl⟩
      have hym : y ∈ L := by rw [← hy]; exact List.getElem_mem hjn
      have hy40 := HL.out y hym
      have hyn := H0.out y hym
      have hc : w.cell? ⟨b, off + j, none⟩ = some (.int .i64 (y : Nat)) := by rw [hc0, lv_get hjn, hy]
      have hlog := log40 hyn hy40
      have HD : Hid (rdr (L.drop j) s = stp x y) := hide (by rw [List.drop_eq_getElem_cons hjn, hy]; show stp (rdr (L.drop (j + 1)) s) y = _; rw [HX.out])
      have e1 := i64_xor_nat x y (by omega) (by omega)
      clear hy hc0 hjn hym
      have ej : ((j + 1 : Nat) : Int) - 1 = j := by omega
      rw [ej]
      cases hb : x.testBit y.log2
      · go_wp2_with (first | (go_at_call 98; refine (soTop_any _ _ hy40 hyn).mono ?_; rintro e w3 ⟨rfl, rfl⟩) | (go_at_call 79; refine (grInG_any _ _ (by omega) (by omega) (by omega) _).mono ?_; rintro e w3 ⟨rfl, rfl⟩; simp only [Int.toNat_natCast, bt_nat, hb]))
        go_round
        case rel => exact ⟨j, by omega, rfl, by rw [HD.out, stp, hb]; rfl⟩
        case measure => simp [intOf] <;> omega
      · go_wp2_with (first | (go_at_call 98; refine (soTop_any _ _ hy40 hyn).mono ?_; rintro e w3 ⟨rfl, rfl⟩) | (go_at_call 79; refine (grInG_any _ _ (by omega) (by omega) (by omega) _).mono ?_; rintro e w3 ⟨rfl, rfl⟩; simp only [Int.toNat_natCast, bt_nat, hb]))
        go_round
        case rel => exact ⟨j, by omega, rfl, by rw [HD.out, stp, hb]; rfl⟩
        case measure => simp [intOf] <;> omega
    · have hz : (m : Int) - 1 = -1 := by omega
      have hm0 : m = 0 := by omega
      rw [hz]
      go_wp2
      go_ret
      exact ⟨ret_int (by have := HX.out; rw [hm0] at this; rw [← this]; rfl), rfl⟩
theorem soPut_zero (A : Option Addr) (c n : Nat) (L : List Nat) (s : Nat) (w : World) (hL : M40 L) (hB : Bas L) (hs : s < 1099511627776) (hn : L.length = n) (hlen : n ≤ 64) (hz : lin L s = 0) (hsrc : Src w A n (lv L)) :
    Calls Tryd.prog 104 #[.slice A n c, .int .i64 s] w fun e w' => e = .returned (.slice A n c) ∧ w' = w := by
  have hr : rdr L s = 0 := by rw [rdr_lin hB, hz]
  have HR := hide hr
  have HL := hide hL
  have H0 := hide hB.1
  have HS := hide hsrc
  have HN := hide hn
  clear hr hz hL hB hsrc hn
  go_enter Tryd.func104, Tryd.ntmps104
  go_wp2_with fail
  refine (soReduce_any _ _ _ _ _ _ HL.out H0.out hs HN.out hlen HS.out).mono ?_
  rintro e w2 ⟨rfl, rfl⟩
  simp only [HR.out]
  go_wp2
  go_ret
  exact ⟨rfl, rfl⟩
theorem soPut_put (A : Option Addr) (c n : Nat) (L : List Nat) (s : Nat) (w : World) (hL : M40 L) (hB : Bas L) (hs : s < 1099511627776) (hn : L.length = n) (hlen : n ≤ 64) (hz : lin L s ≠ 0) (hsrc : Src w A n (lv L)) :
    Calls Tryd.prog 104 #[.slice A n c, .int .i64 s] w (NewL w (put L (lin L s))) := by
  obtain ⟨r, hr⟩ : ∃ r, lin L s = r := ⟨_, rfl⟩
  have hrr : rdr L s = r := by rw [rdr_lin hB, hr]
  rw [hr] at hz ⊢
  have hr40 : r < 1099511627776 := by rw [← hrr]; exact rdr40 hL hs
  have hlog := log40 hz hr40
  have HR := hide hrr
  have HL := hide hL
  have HS := hide hsrc
  have H0 := hide hB.1
  have HN := hide hn
  clear hr hrr hL hB hsrc hn
  go_enter Tryd.func104, Tryd.ntmps104
  go_wp2_with fail
  refine (soReduce_any _ _ _ _ _ _ HL.out H0.out hs HN.out hlen HS.out).mono ?_
  rintro e w2 ⟨rfl, rfl⟩
  simp only [HR.out]
  go_wp2_with fail
  refine (soTop_any _ _ hr40 hz).mono ?_
  rintro e w3 ⟨rfl, rfl⟩
  go_wp2
  go_loopw [6, 21] (fun v i wr => ∃ (k m : Nat) (A' : Option Addr) (c' : Nat), k ≤ n ∧ i = .int .i64 k ∧ v = .slice A' m c' ∧ (lowL L r k).length = m ∧ OL wr w3.heap.size (.slice A' m c') (lowL L r k) ∧ Below w3.heap.size w3 wr) (fun _ i _ => n - (intOf i).toNat)
  case atStart => exact ⟨0, 0, none, 0, by omega, rfl, rfl, rfl, OL.nil _ _, Below.refl _ _⟩
  case round =>
    obtain ⟨k, m, A', c', hk, rfl, rfl, hm, hown, hb⟩ := hrel
    have hsz := hb.size
    have HO := hide hown
    have HB := hide hb
    have HM := hide hm
    have hm64 : m ≤ 64 := by have := lowL_len L r k; rw [HN.out] at this; omega
    clear hown hb hm
    by_cases hlt : k < n
    · have hkn : k < L.length := by rw [HN.out]; exact hlt
      obtain ⟨b, off, hA, hbl, hc0⟩ := HS.out k hlt
      subst hA
      obtain ⟨y, hy⟩ : ∃ y, L[k] = y := ⟨_, rfl⟩
      have hym : y ∈ L := by rw [← hy]; exact List.getElem_mem hkn
      have hy40 := HL.out y hym
      have hyn := H0.out y hym
      have hc : wr.cell? ⟨b, off + k, none⟩ = some (.int .i64 (y : Nat)) := by rw [HB.out.cell (p := ⟨b, off + k, none⟩) hbl, hc0, lv_get hkn, hy]
      have HK : Hid (lowL L r (k + 1) = lowL L r k ++ (if decide (y.log2 < r.log2) then [y] else [])) := hide (by rw [lowL_succ hkn, hy])
      clear hy hc0 hkn hym
      by_cases ht : y.log2 < r.log2
      · go_wp2_with (first | (go_at_call 98; refine (soTop_any _ _ hy40 hyn).mono ?_; rintro e w4 ⟨rfl, rfl⟩) | (at_builtin; refine wpList_append_nat _ rfl _ _ rfl w3.heap.size A' c' m (lowL L r k) y w4.heap.size rfl (HO.out.alloc _) HM.out rfl (by simp [go_sem]) (by omega) (by simp; omega) ?_; intro A2 c2 w5 ho2 hb2; have HO2 := hide ho2; have HB2 := hide hb2; clear ho2 hb2))
        go_roundw
        case rel =>
          refine ⟨k + 1, m + 1, A2, c2, by omega, by go_num, rfl, ?_, ?_, ?_⟩
          · rw [HK.out, decide_eq_true ht, if_pos rfl, List.length_append, HM.out]; rfl
          · rw [HK.out, decide_eq_true ht, if_pos rfl]; exact HO2.out
          · exact (HB.out.alloc (by omega) _).trans HB2.out
        case measure => simp [intOf]; omega
      · go_wp2_with (first | (go_at_call 98; refine (soTop_any _ _ hy40 hyn).mono ?_; rintro e w4 ⟨rfl, rfl⟩))
        go_roundw
        case rel =>
          have e1 : lowL L r (k + 1) = lowL L r k := by rw [HK.out, decide_eq_false ht]; simp
          exact ⟨k + 1, m, A', c', by omega, by go_num, rfl, by rw [e1]; exact HM.out, by rw [e1]; exact HO.out, HB.out⟩
        case measure => simp [intOf]; omega
    · have hkn : k = n := by omega
      subst hkn
      have HP : Hid (hiL L r 0 = lowL L r k ++ [r]) := hide (by simp [hiL, lowL, ← HN.out])
      have HF : Hid (hiL L r k = put L r) := hide (by rw [← HN.out]; simp [hiL, put])
      go_wp2_with (first | (at_builtin; refine wpList_append_nat _ rfl _ _ rfl w3.heap.size A' c' m (lowL L r k) r wr.heap.size rfl (HO.out.alloc _) HM.out rfl (by simp [go_sem]) (by omega) (by simp; omega) ?_; intro A2 c2 w5 ho2 hb2; have HO2 := hide ho2; have HB2 := hide ((HB.out.alloc (by omega) _).trans hb2); clear ho2 hb2))
      go_loopw [6, 40] (fun v i wr => ∃ (j m : Nat) (A' : Option Addr) (c' : Nat), j ≤ k ∧ i = .int .i64 j ∧ v = .slice A' m c' ∧ (hiL L r j).length = m ∧ OL wr w3.heap.size (.slice A' m c') (hiL L r j) ∧ Below w3.heap.size w3 wr) (fun _ i _ => k - (intOf i).toNat)
      case atStart => exact ⟨0, m + 1, A2, c2, by omega, rfl, rfl, by rw [HP.out, List.length_append, HM.out]; rfl, by rw [HP.out]; exact HO2.out, HB2.out⟩
      case round =>
        clear HO HB HM HO2 HB2 HP
        obtain ⟨j, m', A', c', hj, rfl, rfl, hm, hown, hb⟩ := hrel
        have hsz := hb.size
        have HO := hide hown
        have HB := hide hb
        have HM := hide hm
        have hm64 : m' ≤ 129 := by have := hiL_len L r j; rw [HN.out] at this; omega
        clear hown hb hm
        by_cases hlt : j < k
        · have hkn : j < L.length := by rw [HN.out]; exact hlt
          obtain ⟨b, off, hA, hbl, hc0⟩ := HS.out j hlt
          subst hA
          obtain ⟨y, hy⟩ : ∃ y, L[j] = y := ⟨_, rfl⟩
          have hym : y ∈ L := by rw [← hy]; exact List.getElem_mem hkn
          have hy40 := HL.out y hym
          have hyn := H0.out y hym
          have hc : wr.cell? ⟨b, off + j, none⟩ = some (.int .i64 (y : Nat)) := by rw [HB.out.cell (p := ⟨b, off + j, none⟩) hbl, hc0, lv_get hkn, hy]
          have HK : Hid (hiL L r (j + 1) = hiL L r j ++ (if decide (r.log2 < y.log2) then [stp y r] else [])) := hide (by rw [hiL_succ hkn, hy])
          have e1 := i64_xor_nat y r (by omega) (by omega)
          clear hy hc0 hkn hym
          by_cases ht : r.log2 < y.log2
          · cases hbit : y.testBit r.log2
            · have HX : Hid (stp y r = y) := hide (by rw [stp, hbit]; rfl)
              go_wp2_with (first | (go_at_call 98; refine (soTop_any _ _ hy40 hyn).mono ?_; rintro e w4 ⟨rfl, rfl⟩) | (go_at_call 79; refine (grInG_any _ _ (by omega) (by omega) (by omega) _).mono ?_; rintro e w4 ⟨rfl, rfl⟩; simp only [Int.toNat_natCast, bt_nat, hbit]) | (at_builtin; refine wpList_append_nat _ rfl _ _ rfl w3.heap.size A' c' m' (hiL L r j) y w4.heap.size rfl (HO.out.alloc _) HM.out rfl (by simp [go_sem]) (by omega) (by simp; omega) ?_; intro A2 c2 w5 ho2 hb2; have HO2 := hide ho2; have HB2 := hide hb2; clear ho2 hb2))
              go_roundw
              case rel =>
                refine ⟨j + 1, m' + 1, A2, c2, by omega, by go_num, rfl, ?_, ?_, ?_⟩
                · rw [HK.out, decide_eq_true ht, if_pos rfl, List.length_append, HM.out]; rfl
                · rw [HK.out, decide_eq_true ht, if_pos rfl, HX.out]; exact HO2.out
                · exact (HB.out.alloc (by omega) _).trans HB2.out
              case measure => simp [intOf]; omega
            · have HX : Hid (stp y r = y ^^^ r) := hide (by rw [stp, hbit]; rfl)
              go_wp2_with (first | (go_at_call 98; refine (soTop_any _ _ hy40 hyn).mono ?_; rintro e w4 ⟨rfl, rfl⟩) | (go_at_call 79; refine (grInG_any _ _ (by omega) (by omega) (by omega) _).mono ?_; rintro e w4 ⟨rfl, rfl⟩; simp only [Int.toNat_natCast, bt_nat, hbit]) | (at_builtin; refine wpList_append_nat _ rfl _ _ rfl w3.heap.size A' c' m' (hiL L r j) (y ^^^ r) w4.heap.size rfl (HO.out.alloc _) HM.out rfl (by simp [go_sem]) (by omega) (by simp; omega) ?_; intro A2 c2 w5 ho2 hb2; have HO2 := hide ho2; have HB2 := hide hb2; clear ho2 hb2))
              go_roundw
              case rel =>
                refine ⟨j + 1, m' + 1, A2, c2, by omega, by go_num, rfl, ?_, ?_, ?_⟩
                · rw [HK.out, decide_eq_true ht, if_pos rfl, List.length_append, HM.out]; rfl
                · rw [HK.out, decide_eq_true ht, if_pos rfl, HX.out]; exact HO2.out
                · exact (HB.out.alloc (by omega) _).trans HB2.out
              case measure => simp [intOf]; omega
          · go_wp2_with (first | (go_at_call 98; refine (soTop_any _ _ hy40 hyn).mono ?_; rintro e w4 ⟨rfl, rfl⟩))
            go_roundw
            case rel =>
              have e1 : hiL L r (j + 1) = hiL L r j := by rw [HK.out, decide_eq_false ht]; simp
              exact ⟨j + 1, m', A', c', by omega, by go_num, rfl, by rw [e1]; exact HM.out, by rw [e1]; exact HO.out, HB.out⟩
            case measure => simp [intOf]; omega
        · have hjk : j = k := by omega
          subst hjk
          go_wp2
          go_ret
          refine ⟨A', c', m', rfl, ?_, ?_, HB.out⟩
          · rw [← HF.out]; exact HM.out
          · rw [← HF.out]; exact HO.out.src HM.out
end Go.Proofs.YtdpoceijnbbmgaaDoor
