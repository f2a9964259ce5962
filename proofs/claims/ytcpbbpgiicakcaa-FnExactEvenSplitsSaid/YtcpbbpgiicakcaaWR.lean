import Derived.Test.YtcpbbpgiicakcaaWQ
namespace Go.Proofs.Ytcpbbpgiicakcaa
open Go.RowKit
set_option maxHeartbeats 2000000
/-- An append that leaves another array as it was. -/
theorem wpList_append_beside {ops : Array Oper} {rest : List Oper} {o : Oper} {a : Act} {Q : Exit → Act → World → Prop} (w : World) (hgd : o.guard = none) (s x : Operand)
    (ho : o.op = .call { callee := .builtin .append, args := #[s, x], argTypes := #[22, 22] }) (B : Nat) (A : Option Addr) (c n : Nat) (L : List Nat) (b g : Nat)
    (hs : a.eval s = .slice A n c) (hown : OL w B (.slice A n c) L) (hn : L.length = n)
    (hx : a.eval x = .slice (some ⟨g, 0, none⟩) 1 1) (hnew : w.cell? ⟨g, 0, none⟩ = some (.int .i64 (b : Nat))) (hlen : n ≤ 1048576) (hB : B ≤ w.heap.size)
    (g2 n2 : Nat) (f2 : Nat → Value) (h2 : Arr w 3 g2 n2 f2) (hsep : (Value.slice A n c).ownBlock ≠ some g2)
    (h : ∀ A' c' w', OL w' B (.slice A' (n + 1) c') (L ++ [b]) → Arr w' 3 g2 n2 f2 → (Value.slice A' (n + 1) c').ownBlock ≠ some g2 → Below B w w' → wpList Try.prog ops Q rest (a.put o.dst (.slice A' (n + 1) c')) w') : wpList Try.prog ops Q (o :: rest) a w := by
  obtain ⟨i0, hi, hz0, hz1, hz2⟩ := info_parts int_info
  subst hn
  refine wpList_plain hgd fun K hK => ?_
  obtain ⟨v', w', hrun, h2', h3, _, h5⟩ := run_append_own_at (P := Try.prog) w B 22 o.type 3 i0 (.int .i64 0) 1 8 Try.underlying22 hi hz0 hz1 hz2 rfl (by decide) _ L.length (vl L) hown ⟨g, 0, none⟩ 1 1 [.int .i64 (b : Nat)] rfl
    (fun j u hu => by
      match j, hu with
      | 0, hu => simp at hu; subst hu; simpa [Addr.add] using hnew)
    (by intro u hu; simp at hu; subst hu; rfl) (by unfold maxLen; omega) (by omega) hB
  obtain ⟨A', c', rfl⟩ := own_form h2'
  have hlt2 := h2.lt
  unfold Oper.wp execOp
  simp only [ho, resolve, invoke, builtin, Sem.run_bind, Sem.run_pure, Result.andThen_ok, List.map_toArray, List.map_cons, List.map_nil, hs, hx, hrun]
  refine hK _ _ (h A' c' w' ?_ (h2.of_block (h3.block g2 hlt2 (fun e => hsep e.symm))) ?_ (Below.own_grown (Below.refl B w) hown h3 (Nat.le_refl _) hB))
  · unfold OL
    rw [vl_snoc, List.length_append]
    exact h2'
  · intro e
    rcases h5 with h5 | h5
    · rw [h5] at e; exact hsep e
    · rw [h5] at e; injection e with e; omega
/-- The sums behind j of those that b is added to. -/
def sumL (S : List Nat) (b j : Nat) : List Nat := S ++ (S.take j).map (fun s => s ^^^ b)
theorem sumL_zero (S : List Nat) (b : Nat) : sumL S b 0 = S := by simp [sumL]
theorem sumL_all (S : List Nat) (b : Nat) : sumL S b S.length = S ++ S.map (fun s => s ^^^ b) := by simp [sumL]
theorem sumL_length (S : List Nat) (b j : Nat) (h : j ≤ S.length) : (sumL S b j).length = S.length + j := by simp [sumL, Nat.min_eq_left h]
theorem sumL_succ {S : List Nat} {b j : Nat} (h : j < S.length) : sumL S b (j + 1) = sumL S b j ++ [S[j] ^^^ b] := by
  simp only [sumL]
  rw [List.take_succ_eq_append_getElem h, List.map_append, List.append_assoc]; rfl
theorem sumL_get {S : List Nat} {b j i : Nat} (h : i < S.length) : lv (sumL S b j) i = .int .i64 (S[i] : Nat) := by
  simp only [lv, sumL, List.getD_eq_getElem?_getD]
  rw [List.getElem?_append_left h]
  simp [h]
theorem sums_take {Q : List Nat} {k : Nat} (h : k < Q.length) : sums (Q.take (k + 1)) = sums (Q.take k) ++ (sums (Q.take k)).map (fun s => s ^^^ Q[k]) := by
  rw [List.take_succ_eq_append_getElem h, sums_snoc]
theorem sums_lt {Q : List Nat} {m : Nat} (h : ∀ b ∈ Q, b < 2 ^ m) : ∀ s ∈ sums Q, s < 2 ^ m := by
  induction Q using snoc_ind with
  | h0 => intro s hs; simp [sums] at hs; rw [hs]; exact Nat.two_pow_pos m
  | h1 A a ih =>
    intro s hs
    rw [sums_snoc, List.mem_append, List.mem_map] at hs
    have hA := ih (fun b hb => h b (by simp [hb]))
    rcases hs with hs | ⟨t, ht, rfl⟩
    · exact hA s hs
    · exact Nat.xor_lt_two_pow (hA t ht) (h a (by simp))
theorem two_pow_le16 {k : Nat} (h : k ≤ 16) : 2 ^ k ≤ 65536 := pow16n h
theorem sumsOf_any (A : Option Addr) (c n : Nat) (Q : List Nat) (w : World) (hQ : ∀ b ∈ Q, b < 65536) (hn : Q.length = n) (hlen : n ≤ 16) (hsrc : Src w A n (lv Q)) :
    Calls Try.prog 76 #[.slice A n c] w (GrownL w.heap.size w (sums Q)) := by
  have HQ := hide hQ
  have HS := hide hsrc
  have HN := hide hn
  clear hQ hn hsrc
  go_enter Try.func76, Try.ntmps76
  go_wp2
  go_loopw [3, 10] (fun v i wr => ∃ (k m : Nat) (A' : Option Addr) (c' : Nat), k ≤ n ∧ i = .int .i64 k ∧ v = .slice A' m c' ∧ Hid ((sums (Q.take k)).length = m) ∧ OL wr w.heap.size (.slice A' m c') (sums (Q.take k)) ∧ Below w.heap.size w wr) (fun _ i _ => n - (intOf i).toNat)
  case atStart => exact ⟨0, 1, some ⟨w.heap.size, 0, none⟩, 1, by omega, rfl, rfl, hide rfl, OL.one w 0 (Nat.le_refl _), by go_grown⟩
  case round =>
    obtain ⟨k, m, A', c', hk, rfl, rfl, HM, ho, hb⟩ := hrel
    have HO := hide ho
    have HB := hide hb
    have hsz := hb.size
    have hm16 : m ≤ 65536 := by
      have h1 := sums_length (Q.take k)
      have h2 : (Q.take k).length ≤ 16 := by have := List.length_take_le k Q; omega
      rw [HM.out] at h1
      rw [h1]; exact two_pow_le16 h2
    clear ho hb
    by_cases hlt : k < n
    · have hkn : k < Q.length := by rw [HN.out]; exact hlt
      obtain ⟨b, off, hA, hbl, hc0⟩ := HS.out k hlt
      subst hA
      obtain ⟨y, hy⟩ : ∃ y, Q[k] = y := ⟨_, rfl⟩
      have hy16 := HQ.out y (by rw [← hy]; exact List.getElem_mem hkn)
      have hc : wr.cell? ⟨b, off + k, none⟩ = some (.int .i64 (y : Nat)) := by rw [HB.out.cell (p := ⟨b, off + k, none⟩) hbl, hc0, lv_get hkn, hy]
      obtain ⟨S, hS⟩ : ∃ S, sums (Q.take k) = S := ⟨_, rfl⟩
      have HK : Hid (sums (Q.take (k + 1)) = S ++ S.map (fun s => s ^^^ y)) := hide (by rw [sums_take hkn, hy, hS])
      have HSb : Hid (∀ s ∈ S, s < 65536) := hide (by rw [← hS]; exact sums_lt (m := 16) (fun b hb => HQ.out b (List.mem_of_mem_take hb)))
      rw [hS] at HM HO
      clear hy hc0 hkn hS
      go_wp2
      clear hc
      go_loopw [3, 16] (fun v i wr2 => ∃ (j m2 : Nat) (A2 : Option Addr) (c2 : Nat), j ≤ m ∧ i = .int .i64 j ∧ v = .slice A2 m2 c2 ∧ m2 = m + j ∧ OL wr2 w.heap.size (.slice A2 m2 c2) (sumL S y j) ∧ Below w.heap.size w wr2) (fun _ i _ => m - (intOf i).toNat)
      case atStart => exact ⟨0, m, A', c', by omega, rfl, rfl, rfl, by rw [sumL_zero]; exact HO.out, HB.out⟩
      case round =>
        obtain ⟨j, m2, A2, c2, hj, rfl, rfl, hm2, ho, hb⟩ := hrel
        have HO2 := hide ho
        have HB2 := hide hb
        have hsz2 := hb.size
        have HM2 : Hid ((sumL S y j).length = m2) := hide (by rw [sumL_length _ _ _ (by rw [HM.out]; exact hj), HM.out, hm2])
        have hm2' : m2 ≤ 131072 := by omega
        have hm2a : m2 ≤ m + j := by omega
        have hm2b : m + j ≤ m2 := by omega
        clear ho hb hm2
        by_cases hjl : j < m
        · have hjS : j < S.length := by rw [HM.out]; exact hjl
          obtain ⟨b2, off2, hA2, hbl2, hc2⟩ := (HO2.out.src HM2.out) j (by omega)
          subst hA2
          obtain ⟨z, hz⟩ : ∃ z, S[j] = z := ⟨_, rfl⟩
          have hz16 := HSb.out z (by rw [← hz]; exact List.getElem_mem hjS)
          have hcz : wr.cell? ⟨b2, off2 + j, none⟩ = some (.int .i64 (z : Nat)) := by rw [hc2, sumL_get hjS, hz]
          have HJ : Hid (sumL S y (j + 1) = sumL S y j ++ [z ^^^ y]) := hide (by rw [sumL_succ hjS, hz])
          have e1 := i64_xor_nat z y (by omega) (by omega)
          clear hc2 hz hjS
          go_wp2_with (at_builtin; refine wpList_append_nat _ rfl _ _ rfl w.heap.size (some ⟨b2, off2, none⟩) c2 m2 (sumL S y j) (z ^^^ y) wr.heap.size rfl (HO2.out.alloc _) HM2.out rfl (by simp [go_sem]) (by omega) (by simp; omega) ?_; intro A3 c3 w5 ho5 hb5; have HO5 := hide ho5; have HB5 := hide hb5; clear ho5 hb5)
          go_roundw
          case rel => exact ⟨j + 1, m2 + 1, A3, c3, by omega, by go_num, rfl, by omega, by rw [HJ.out]; exact HO5.out, (HB2.out.alloc (by omega) _).trans HB5.out⟩
          case measure => simp [intOf]; omega
        · have hjm : j = m := by omega
          subst hjm
          have HF : Hid (sumL S y j = S ++ S.map (fun s => s ^^^ y)) := hide (by rw [← HM.out]; exact sumL_all S y)
          go_wp2
          go_roundw
          case rel => exact ⟨k + 1, m2, A2, c2, by omega, by go_num, rfl, hide (by rw [HK.out, ← HF.out]; exact HM2.out), by rw [HK.out, ← HF.out]; exact HO2.out, HB2.out⟩
          case measure => simp [intOf]; omega
    · have hkn : k = n := by omega
      subst hkn
      have HT : Hid (Q.take k = Q) := hide (List.take_of_length_le (by rw [HN.out]; omega))
      rw [HT.out] at HM HO
      go_wp2
      go_ret
      exact ⟨A', c', m, rfl, HM.out, HO.out, HB.out⟩
end Go.Proofs.Ytcpbbpgiicakcaa
