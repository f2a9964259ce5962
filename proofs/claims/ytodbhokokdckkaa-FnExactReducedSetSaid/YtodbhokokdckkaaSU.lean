import Derived.Test.YtodbhokokdckkaaST
namespace Go.Proofs.Ytodbhokokdckkaa
open Go.RowKit
set_option maxHeartbeats 2000000
theorem soSums_any (A : Option Addr) (c n : Nat) (Q : List Nat) (w : World) (hQ : ∀ b ∈ Q, b < 65536) (hn : Q.length = n) (hlen : n ≤ 16) (hsrc : Src w A n (lv Q)) :
    Calls Try.prog 86 #[.slice A n c] w (GrownL w.heap.size w (sums Q)) := by
  have HQ := hide hQ
  have HS := hide hsrc
  have HN := hide hn
  clear hQ hn hsrc
  go_enter Try.func86, Try.ntmps86
  go_wp2
  go_loopw [3, 11] (fun v i wr => ∃ (k m : Nat) (A' : Option Addr) (c' : Nat), k ≤ n ∧ i = .int .i64 k ∧ v = .slice A' m c' ∧ Hid ((sums (Q.take k)).length = m) ∧ OL wr w.heap.size (.slice A' m c') (sums (Q.take k)) ∧ Below w.heap.size w wr) (fun _ i _ => n - (intOf i).toNat)
  case atStart => exact ⟨0, 1, some ⟨w.heap.size, 0, none⟩, 1, by omega, rfl, rfl, hide rfl, OL.one w 0 (Nat.le_refl _), by go_grown⟩
  case round =>
    obtain ⟨k, m, A', c', hk, rfl, rfl, HM, ho, hb⟩ := hrel
    have HO := hide ho
    have HB := hide hb
    have hsz := hb.size
    have hm16 : m ≤ 65536 := by
      have h1 := sums_length (Q.take k)
      have h2 : (Q.take k).length ≤ 16 := by have := List.length_take_le k Q; omega
      rw [HM.out] at h1
      rw [h1]; exact two_pow_le16 h2
    clear ho hb
    by_cases hlt : k < n
    · have hkn : k < Q.length := by rw [HN.out]; exact hlt
      obtain ⟨b, off, hA, hbl, hc0⟩ := HS.out k hlt
      subst hA
      obtain ⟨y, hy⟩ : ∃ y, Q[k] = y := ⟨_, rfl⟩
      have hy16 := HQ.out y (by rw [← hy]; exact List.getElem_mem hkn)
      have hc : wr.cell? ⟨b, off + k, none⟩ = some (.int .i64 (y : Nat)) := by rw [HB.out.cell (p := ⟨b, off + k, none⟩) hbl, hc0, lv_get hkn, hy]
      obtain ⟨S, hS⟩ : ∃ S, sums (Q.take k) = S := ⟨_, rfl⟩
      have HK : Hid (sums (Q.take (k + 1)) = S ++ S.map (fun s => s ^^^ y)) := hide (by rw [sums_take hkn, hy, hS])
      have HSb : Hid (∀ s ∈ S, s < 65536) := hide (by rw [← hS]; exact sums_lt (m := 16) (fun b hb => HQ.out b (List.mem_of_mem_take hb)))
      have HM0 := HM
      rw [hS] at HM HO
      clear hy hc0 hkn hS
      have hmp : 0 < m := by have h1 := sums_length (Q.take k); rw [HM0.out] at h1; have := Nat.two_pow_pos (Q.take k).length; omega
      go_wp2_with fail
      refine (l1Own_any _ _ _ (fun i => ((S.getD i 0 : Nat) : Int)) _ hmp (by omega) (HO.out.src HM.out)).mono ?_
      rintro e w3 ⟨gc, cc, rfl, hgc, hac, hb3⟩
      have HAC := hide hac
      have HO3 := hide (HO.out.all hb3)
      have HB3 := hide (HB.out.trans (hb3.mono hsz))
      have hne : (Value.slice A' m c').ownBlock ≠ some gc := by
        intro e
        have := (World.ownsRow.lt HO.out gc e).2
        omega
      have HNE := hide hne
      clear hac hb3 hne hc
      go_wp2
      go_loopw [3, 18] (fun v i wr => ∃ (j m2 : Nat) (A2 : Option Addr) (c2 : Nat), j ≤ m ∧ i = .int .i64 j ∧ v = .slice A2 m2 c2 ∧ m2 = m + j ∧ OL wr w.heap.size (.slice A2 m2 c2) (sumL S y j) ∧ Arr wr 3 gc m (iv (fun i => ((S.getD i 0 : Nat) : Int))) ∧ Hid ((Value.slice A2 m2 c2).ownBlock ≠ some gc) ∧ Below w.heap.size w wr) (fun _ i _ => m - (intOf i).toNat)
      case atStart => exact ⟨0, m, A', c', by omega, rfl, rfl, rfl, by rw [sumL_zero]; exact HO3.out, HAC.out, HNE, HB3.out⟩
      case round =>
        obtain ⟨j, m2, A2, c2, hj, rfl, rfl, hm2, ho, hac, HNE2, hb⟩ := hrel
        have HAC2 := hide hac
        have HO2 := hide ho
        have HB2 := hide hb
        have hsz2 := hb.size
        have HM2 : Hid ((sumL S y j).length = m2) := hide (by rw [sumL_length _ _ _ (by rw [HM.out]; exact hj), HM.out, hm2])
        have hm2' : m2 ≤ 131072 := by omega
        have hm2a : m2 ≤ m + j := by omega
        have hm2b : m + j ≤ m2 := by omega
        clear ho hb hm2 hac
        by_cases hjl : j < m
        · have hjS : j < S.length := by rw [HM.out]; exact hjl
          obtain ⟨z, hz⟩ : ∃ z, S[j] = z := ⟨_, rfl⟩
          have hz16 := HSb.out z (by rw [← hz]; exact List.getElem_mem hjS)
          have hcz : wr.cell? ⟨gc, j, none⟩ = some (.int .i64 (z : Nat)) := by rw [HAC2.out.cell hjl]; simp [iv, hjS, hz]
          have HJ : Hid (sumL S y (j + 1) = sumL S y j ++ [z ^^^ y]) := hide (by rw [sumL_succ hjS, hz])
          have e1 := i64_xor_nat z y (by omega) (by omega)
          clear hz hjS
          go_wp2_with (at_builtin; refine wpList_append_beside _ rfl _ _ rfl w.heap.size A2 c2 m2 (sumL S y j) (z ^^^ y) wr.heap.size rfl (HO2.out.alloc _) HM2.out rfl (by simp [go_sem]) (by omega) (by simp; omega) gc m (iv (fun i => ((S.getD i 0 : Nat) : Int))) (HAC2.out.alloc _) HNE2.out ?_; intro A3 c3 w5 ho5 ha5 hne5 hb5; have HO5 := hide ho5; have HA5 := hide ha5; have HNE5 := hide hne5; have HB5 := hide hb5; clear ho5 ha5 hne5 hb5)
          go_roundw
          case rel => exact ⟨j + 1, m2 + 1, A3, c3, by omega, by go_num, rfl, by omega, by rw [HJ.out]; exact HO5.out, HA5.out, HNE5, (HB2.out.alloc (by omega) _).trans HB5.out⟩
          case measure => simp [intOf]; omega
        · have hjm : j = m := by omega
          subst hjm
          have HF : Hid (sumL S y j = S ++ S.map (fun s => s ^^^ y)) := hide (by rw [← HM.out]; exact sumL_all S y)
          go_wp2
          go_roundw
          case rel => exact ⟨k + 1, m2, A2, c2, by omega, by go_num, rfl, hide (by rw [HK.out, ← HF.out]; exact HM2.out), by rw [HK.out, ← HF.out]; exact HO2.out, HB2.out⟩
          case measure => simp [intOf]; omega
    · have hkn : k = n := by omega
      subst hkn
      have HT : Hid (Q.take k = Q) := hide (List.take_of_length_le (by rw [HN.out]; omega))
      rw [HT.out] at HM HO
      go_wp2
      go_ret
      exact ⟨A', c', m, rfl, HM.out, HO.out, HB.out⟩
end Go.Proofs.Ytodbhokokdckkaa
