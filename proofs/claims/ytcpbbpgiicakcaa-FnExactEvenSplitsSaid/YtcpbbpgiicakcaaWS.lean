import Derived.Test.YtcpbbpgiicakcaaWR
namespace Go.Proofs.Ytcpbbpgiicakcaa
open Go.RowKit
set_option maxHeartbeats 2000000
/-- x added to the first k sets. -/
def addL (S : List Nat) (x k : Nat) : List Nat := (S.take k).map (fun s => s ^^^ x) ++ S.drop k
theorem addL_length (S : List Nat) (x k : Nat) : (addL S x k).length = S.length := by
  simp only [addL, List.length_append, List.length_map, List.length_take, List.length_drop]; omega
theorem addL_zero (S : List Nat) (x : Nat) : addL S x 0 = S := by simp [addL]
theorem addL_all (S : List Nat) (x n : Nat) (h : S.length = n) : addL S x n = S.map (fun s => s ^^^ x) := by subst h; simp [addL]
theorem addL_get {S : List Nat} {x k : Nat} (h : k < S.length) : lv (addL S x k) k = .int .i64 (S[k] : Nat) := by
  simp only [lv, addL, List.getD_eq_getElem?_getD]
  rw [List.getElem?_append_right (by simp; omega)]
  simp [Nat.min_eq_left (Nat.le_of_lt h), h]
theorem addL_succ {S : List Nat} {x k : Nat} (h : k < S.length) : addL S x (k + 1) = (addL S x k).set k (S[k] ^^^ x) := by
  simp only [addL]
  rw [List.take_succ_eq_append_getElem h, List.map_append, List.set_append_right _ _ (by simp; omega)]
  have : k - ((S.take k).map (fun s => s ^^^ x)).length = 0 := by simp; omega
  rw [this, List.drop_eq_getElem_cons h]
  simp only [List.map_cons, List.map_nil, List.set_cons_zero, List.append_assoc, List.cons_append, List.nil_append]
theorem solV_lt {T : Nat → Nat} {n q : Nat} : solV T n q < 2 ^ n := by
  unfold solV; split
  · exact shr_eq_zero.1 ‹_›
  · exact Nat.two_pow_pos n
theorem qS_lt16 {T : Nat → Nat} {n : Nat} (hn : n ≤ 16) : ∀ b ∈ (qS T n n).1, b < 65536 := fun b hb =>
  Nat.lt_of_lt_of_le ((inv_at T n n (by omega)).low b hb) (pow16n hn)
theorem solutions_yes (g n c : Nat) (T : Nat → Nat) (q : Nat) (w : World) (hn : n ≤ 16) (hT : ∀ j, j < n → T j < 2 ^ n) (hq : q < 2 ^ n) (hsol : solB T n q = true) (ha : Arr w 3 g n (iv (nv T))) :
    Calls Try.prog 51 #[.slice (some ⟨g, 0, none⟩) n c, .int .i64 q] w (GrownL w.heap.size w ((sums (qS T n n).1).map (fun s => s ^^^ solV T n q))) := by
  have h16 := pow16n hn
  have HA := hide ha
  have HT := hide hT
  have HSol := hide hsol
  have hxlt := solV_lt (T := T) (n := n) (q := q)
  have HQ16 := hide (qS_lt16 (T := T) hn)
  have hQl := qS_fit hn HT.out
  obtain ⟨x, hx⟩ : ∃ x, solV T n q = x := ⟨_, rfl⟩
  obtain ⟨Q, hQ⟩ : ∃ Q, (qS T n n).1 = Q := ⟨_, rfl⟩
  rw [hx] at hxlt
  rw [hQ] at HQ16 hQl
  have HX := hide hx
  have HQ := hide hQ
  have HSb : Hid (∀ s ∈ sums Q, s < 65536) := hide (sums_lt (m := 16) HQ16.out)
  have hlS := sums_length Q
  have hl16 := two_pow_le16 hQl
  obtain ⟨S, hS⟩ : ∃ S, sums Q = S := ⟨_, rfl⟩
  rw [hS] at HSb hlS
  have HSs := hide hS
  have HLS := hide hlS
  clear ha hT hsol hx hQ hS hlS
  go_enter Try.func51, Try.ntmps51
  go_wp2_with fail
  refine (least_any _ _ _ T _ _ hn HT.out hq HA.out).mono ?_
  rintro e w1 ⟨rfl, hb1⟩
  simp only [HSol.out, HX.out]
  have HA1 := hide (HA.out.all hb1)
  have HB1 := hide hb1
  clear hb1
  go_wp2_with fail
  refine (quietAndImage_any _ _ _ T _ hn HT.out HA1.out).mono ?_
  rintro e w2 ⟨A, A2, m, n2, d, d2, rfl, hm, _, ho, _, hb2⟩
  rw [HQ.out] at hm ho
  have HM := hide hm
  have HO := hide ho
  have hm16 : m ≤ 16 := by omega
  have HB2 := hide (HB1.out.trans (hb2.mono HB1.out.size))
  have hz2 := hb2.size
  have hz1 := HB1.out.size
  clear hm ho hb2
  go_wp2_with fail
  refine (sumsOf_any _ _ _ _ _ HQ16.out HM.out hm16 (HO.out.src HM.out)).mono ?_
  rintro e w3 ⟨A3, d3, p, rfl, hp, ho3, hb3⟩
  rw [HSs.out] at hp ho3
  have HPl := hide hp
  have hp16 : p ≤ 65536 := by have := HLS.out; omega
  have HO3 := hide (ho3.mono (by omega : w.heap.size ≤ w2.heap.size))
  have HB3 := hide (HB2.out.trans (hb3.mono (by omega)))
  clear hp ho3 hb3
  go_wp2
  go_loopw [28] (fun i wr => ∃ k : Nat, k ≤ p ∧ i = .int .i64 k ∧ OL wr w.heap.size (.slice A3 p d3) (addL S x k) ∧ Below w.heap.size w wr) (fun i _ => p - (intOf i).toNat)
  case atStart => exact ⟨0, by omega, rfl, by rw [addL_zero]; exact HO3.out, HB3.out⟩
  case round =>
    obtain ⟨k, hk, rfl, ho, hb⟩ := hrel
    have HO' := hide ho
    have HB' := hide hb
    have hml : Hid ((addL S x k).length = p) := hide (by rw [addL_length]; exact HPl.out)
    clear ho hb
    by_cases hlt : k < p
    · have hkn : k < S.length := by rw [HPl.out]; exact hlt
      rcases HO'.out.cases hml.out with ⟨_, h1, _⟩ | ⟨g3, cur, rfl, hBg, hg, hnc, hmx, hcs, hcur⟩
      · omega
      · obtain ⟨y, hy⟩ : ∃ y, S[k] = y := ⟨_, rfl⟩
        have hy16 := HSb.out y (by rw [← hy]; exact List.getElem_mem hkn)
        have hc : wr.cell? ⟨g3, k, none⟩ = some (.int .i64 (y : Nat)) := by rw [hg.cell, hcur k hlt, addL_get hkn, hy]
        have hfz : wr.frozen? ⟨g3, k, none⟩ = false := hg.frozen k
        have HK : Hid (addL S x (k + 1) = (addL S x k).set k (y ^^^ x)) := hide (by rw [addL_succ hkn, hy])
        have e1 := i64_xor_nat y x (by omega) (by omega)
        clear hy hkn hg hcur hcs
        go_wp2
        go_roundw
        case rel => exact ⟨k + 1, by omega, by go_num, by rw [HK.out]; exact HO'.out.set hml.out k _, HB'.out.setCell (by simp; omega) _⟩
        case measure => simp [intOf]; omega
    · have hkp : k = p := by omega
      subst hkp
      have HF : Hid (addL S x k = S.map (fun s => s ^^^ x)) := hide (addL_all S x k HPl.out)
      go_wp2
      go_ret
      refine ⟨A3, d3, k, rfl, ?_, ?_, HB'.out⟩
      · rw [HQ.out, HSs.out, HX.out, ← HF.out]; exact hml.out
      · rw [HQ.out, HSs.out, HX.out, ← HF.out]; exact HO'.out

end Go.Proofs.Ytcpbbpgiicakcaa
