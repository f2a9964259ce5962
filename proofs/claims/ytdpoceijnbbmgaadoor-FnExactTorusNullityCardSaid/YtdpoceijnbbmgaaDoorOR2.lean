/-
CircleProduct: both sides, and the statement, walked.
-/
import Derived.Test.YtdpoceijnbbmgaaDoorOR1
import Derived.StillTailTactics
import Derived.Deep.QuietTactic
namespace Go.Proofs.YtdpoceijnbbmgaaDoor
open Go.RowKit
set_option maxHeartbeats 4000000
theorem step_append_nat {ops : Array Oper} {o : Oper} {a : Act} {w : World} {K : Act → World → Prop} {Q : Exit → Act → World → Prop} {E : Prop}
    (hgd : o.guard = none) (s x : Operand) (ho : o.op = Op.call { callee := Callee.builtin Builtin.append, args := #[s, x], argTypes := #[22, 22] })
    (B : Nat) (A : Option Addr) (c n : Nat) (L : List Nat) (b g : Nat)
    (hs : a.eval s = .slice A n c) (hown : OL w B (.slice A n c) L) (hn : L.length = n)
    (hx : a.eval x = .slice (some ⟨g, 0, none⟩) 1 1) (hnew : w.cell? ⟨g, 0, none⟩ = some (.int .i64 (b : Nat))) (hlen : n ≤ 1048576) (hB : B ≤ w.heap.size)
    (h : ∀ A' c' w', OL w' B (.slice A' (n + 1) c') (L ++ [b]) → Below B w w' → K (a.put o.dst (.slice A' (n + 1) c')) w') :
    if Region.wanted o (yielded ops a.tmps) = true then Oper.wp Tryd.prog o a w K Q else E := by
  have hw : Region.wanted o (yielded ops a.tmps) = true := by simp [Region.wanted, hgd]
  rw [if_pos hw]
  obtain ⟨i0, hi, hz0, hz1, hz2⟩ := info_parts int_info
  subst hn
  obtain ⟨v', w', hrun, h3, h4, _, h5⟩ := run_append_own_at (P := Tryd.prog) w B 22 o.type 3 i0 (.int .i64 0) 1 8 Tryd.underlying22 hi hz0 hz1 hz2 rfl (by decide) _ L.length (vl L) hown ⟨g, 0, none⟩ 1 1 [.int .i64 (b : Nat)] rfl
    (fun j u hj => by
      match j, hj with
      | 0, hj => simp at hj; subst hj; simpa [Addr.add] using hnew)
    (by intro u hu; simp at hu; subst hu; rfl) (by unfold maxLen; omega) (by omega) hB
  obtain ⟨A', c', rfl⟩ := own_form h3
  unfold Oper.wp execOp
  simp only [ho, resolve, invoke, builtin, Sem.run_bind, Sem.run_pure, Result.andThen_ok, List.map_toArray, List.map_cons, List.map_nil, hs, hx, hrun]
  refine h A' c' w' ?_ (Below.own_grown (Below.refl B w) hown h4 (Nat.le_refl _) hB)
  unfold OL
  rw [vl_snoc, List.length_append]
  exact h3
/-- The first k steps of pairs. -/
def pcL (T : Nat → Nat) (n k : Nat) : List Nat := (List.range k).map (psT T n)
theorem pcL_succ (T : Nat → Nat) (n k : Nat) : pcL T n (k + 1) = pcL T n k ++ [psT T n k] := by simp [pcL, List.range_succ]
theorem pcL_len (T : Nat → Nat) (n k : Nat) : (pcL T n k).length = k := by simp [pcL]
theorem pcL_get (T : Nat → Nat) (n m k : Nat) (h : k < m) : (pcL T n m).getD k 0 = psT T n k := by simp [pcL, h]
/-- The nullity of the product with a circle. -/
def ccN (n : Nat) (F : Nat → Nat) (own : Bool) (m : Nat) : Nat := nl (n + n) (fun j => pw (n + n) (psT (tog F own) n) m j ^^^ 2 ^ j)
theorem cc_lt {n m : Nat} {T : Nat → Nat} (hT : ∀ k, k < n → T k < 2 ^ n) (j : Nat) (hj : j < n + n) : pw (n + n) (psT T n) m j ^^^ 2 ^ j < 2 ^ (n + n) :=
  Nat.xor_lt_two_pow (pw_lt (psT_lt hT) m j hj) (Nat.pow_lt_pow_right (by decide) hj)
theorem prCircle_any (g n c m : Nat) (F : Nat → Nat) (own : Bool) (w : World) (h1 : 1 ≤ n) (hn : n ≤ 16) (hm : m ≤ 1000) (hF : ∀ k, k < n → F k < 2 ^ n) (ha : Arr w 3 g n (iv (nv F))) :
    Calls Tryd.prog 73 #[.agg #[.slice (some ⟨g, 0, none⟩) n c, .bool own], .int .i64 m] w fun e w' => e = .returned (.int .i64 (ccN n F own m : Nat)) ∧ Below w.heap.size w w' := by
  have HF16 : Hid (∀ k, k < n → F k < 65536) := hide fun k hk => Nat.lt_of_lt_of_le (hF k hk) (p16 hn)
  have HTL : Hid (∀ k, k < n → tog F own k < 2 ^ n) := hide fun k hk => tog_lt2 hk (hF k hk)
  have hp := p16 hn
  have HT16 : Hid (∀ k, k < n → tog F own k < 65536) := hide fun k hk => Nat.lt_of_lt_of_le (tog_lt2 hk (hF k hk)) hp
  have HSL : Hid (∀ k, k < n + n → psT (tog F own) n k < 2 ^ (n + n)) := hide (psT_lt HTL.out)
  have HCL : Hid (∀ k, k < n + n → pw (n + n) (psT (tog F own) n) m k ^^^ 2 ^ k < 2 ^ (n + n)) := hide (cc_lt HTL.out)
  obtain ⟨R, hR⟩ : ∃ R, ccN n F own m = R := ⟨_, rfl⟩
  rw [hR]
  have HR : Hid (nl (n + n) (fun j => pw (n + n) (psT (tog F own) n) m j ^^^ 2 ^ j) = R) := hide hR
  obtain ⟨T, hTT⟩ : ∃ T, tog F own = T := ⟨_, rfl⟩
  rw [hTT] at HTL HT16 HSL HCL HR
  have HTT := hide hTT
  have HPS1 : Hid (∀ k, k < n → psT T n k = T k ||| 2 ^ (n + k)) := hide fun k hk => by rw [psT, if_pos hk]
  have HPS2 : Hid (∀ k, psT T n (n + k) = 2 ^ k) := hide fun k => by rw [psT, if_neg (by omega)]; congr 1; omega
  have HA := hide (ha.alloc (.cells #[.slice (some ⟨g, 0, none⟩) n c, .bool own] 26))
  have hmi : (m : Int) ≤ 1000 := by omega
  obtain ⟨N, hN⟩ : ∃ N, n + n = N := ⟨_, rfl⟩
  rw [hN] at HSL HCL HR
  have HNN := hide hN
  have e1 : 2 * (n : Int) = (N : Nat) := by omega
  have hN32 : N ≤ 32 := by omega
  have hN1 : 1 ≤ N := by omega
  clear hF ha hp hR hTT hN
  go_enter Tryd.func73, Tryd.ntmps73
  go_wp2_with fail
  refine (prMap_any _ _ _ F own _ h1 hn HF16.out HA.out).mono ?_
  rintro e w2 ⟨g2, d2, rfl, hlo2, ha2, hb2⟩
  rw [HTT.out] at ha2
  have HA2 := hide ha2
  have HB2 := hide ((by go_grown : Below w.heap.size w _).trans (hb2.mono (by simp)))
  clear ha2 hb2
  go_wp2
  go_loopw [7, 8] (fun o i wr => ∃ (k d : Nat) (A : Option Addr), k ≤ n ∧ i = .int .i64 k ∧ o = .slice A k d ∧ Hid (OL wr w2.heap.size (.slice A k d) (pcL T n k)) ∧ Below w2.heap.size w2 wr) (fun _ i _ => n - (intOf i).toNat)
  case atStart => exact ⟨0, 0, none, by omega, rfl, rfl, hide (OL.nil _ _), Below.refl _ _⟩
  case round =>
    obtain ⟨k, d, A, hk, rfl, rfl, HO, hb⟩ := hrel
    have hsz := hb.size
    have HM := hide (pcL_len T n k)
    have HL := hide (pcL_succ T n k)
    have HB := hide hb
    have HAr := hide (HA2.out.all hb)
    clear hb
    by_cases hlt : k < n
    · have hc : wr.cell? ⟨g2, k, none⟩ = some (.int .i64 (T k : Nat)) := HAr.out.cell hlt
      have hT16 := HT16.out k hlt
      have ho := or40 (T k) (n + k) (by omega) (by omega)
      obtain ⟨q, hq⟩ : ∃ q, n + k = q := ⟨_, rfl⟩
      have e2 : (n : Int) + (k : Int) = (q : Nat) := by omega
      have hq64 : (q : Int) < 64 := by omega
      have hki : (k : Int) < n := by omega
      have HP : Hid (psT T n k = T k ||| 2 ^ q) := hide (by rw [HPS1.out k hlt, hq])
      obtain ⟨t, ht⟩ : ∃ t, T k = t := ⟨_, rfl⟩
      rw [hq, ht] at ho
      rw [ht] at HP hc
      have e3 : IntKind.i64.wrap ((q : Nat) : Int) = (q : Nat) := IntWalk.i64_in _ (by omega)
      have ho2 : bits .or .i64 (t : Int) (IntKind.i64.wrap (2 ^ q)) = ((t ||| 2 ^ q : Nat) : Int) := by rw [wi40 (by omega), ← wr40 (by omega)]; exact ho
      obtain ⟨y, hy⟩ : ∃ y, t ||| 2 ^ q = y := ⟨_, rfl⟩
      rw [hy] at HP ho2
      clear hT16 hq ht hy ho
      go_wp2_with fail
      go_region_law (first | (refine step_append_nat rfl (.tmp 22) (.tmp 32) rfl w2.heap.size A d k (pcL T n k) y wr.heap.size rfl (by first | exact HO.out.alloc _ | exact (HO.out.all (below_drewN (Below.refl _ _) 1)).alloc _) HM.out rfl (by simp [go_sem, ho2]) (by omega) (by simp; omega) ?_; intro A2 c2 w5 ho5 hb5; have HO5 := hide ho5; have HB5 := hide hb5; clear ho5 hb5))
      go_wp2
      go_roundw
      case rel =>
        have hbb := HB.out
        exact ⟨k + 1, c2, A2, by omega, by go_num, rfl, hide (by rw [HL.out, HP.out]; exact HO5.out), Below.trans (by go_grown) HB5.out⟩
      case measure => simp [intOf]; omega
    · have hkn : k = n := by omega
      subst hkn
      go_wp2
      go_loopw [7, 9] (fun o i wr => ∃ (j d : Nat) (A : Option Addr), j ≤ k ∧ i = .int .i64 j ∧ o = .slice A (k + j) d ∧ Hid (OL wr w2.heap.size (.slice A (k + j) d) (pcL T k (k + j))) ∧ Below w2.heap.size w2 wr) (fun _ i _ => k - (intOf i).toNat)
      case atStart => exact ⟨0, d, A, by omega, rfl, rfl, HO, HB.out⟩
      case round =>
        clear HO HB HM HL HAr
        obtain ⟨j, d, A, hj, rfl, rfl, HO, hb⟩ := hrel
        have hsz := hb.size
        have HM := hide (pcL_len T k (k + j))
        have HL := hide (pcL_succ T k (k + j))
        have HB := hide hb
        clear hb
        by_cases hlt2 : j < k
        · have ew := wr40 (k := j) (by omega)
          obtain ⟨y, hy⟩ : ∃ y, 2 ^ j = y := ⟨_, rfl⟩
          have HP : Hid (psT T k (k + j) = y) := hide (by rw [HPS2.out j, hy])
          rw [hy] at ew
          have hj64 : (j : Int) < 64 := by omega
          obtain ⟨q, hq⟩ : ∃ q, k + j = q := ⟨_, rfl⟩
          rw [hq] at HO HM HL HP
          have HQ := hide hq
          have hq32 : q ≤ 32 := by omega
          clear hy
          rw [hq]
          clear hq
          go_wp2_with (first | (at_builtin; refine wpList_append_nat _ rfl _ _ rfl w2.heap.size A d q (pcL T k q) y wr.heap.size rfl (HO.out.alloc _) HM.out rfl (by simp [go_sem]) (by omega) (by simp; omega) ?_; intro A2 c2 w5 ho5 hb5; have HO5 := hide ho5; have HB5 := hide hb5; clear ho5 hb5))
          go_roundw
          case rel =>
            have hq := HQ.out
            subst hq
            exact ⟨j + 1, c2, A2, by omega, by go_num, rfl, hide (by rw [← Nat.add_assoc, HL.out, HP.out]; exact HO5.out), (HB.out.alloc (by omega) _).trans HB5.out⟩
          case measure => simp [intOf]; omega
        · have hjk : j = k := by omega
          subst hjk
          have hNN := HNN.out
          rw [hNN] at HO HM
          obtain ⟨gs, hAs, hlos, has⟩ := own_arr (w := w2) (S := psT T j) (by omega) HM.out (fun i hi => pcL_get T j N i hi) HO.out
          subst hAs
          have HAS := hide has
          have HB3 := hide (HB2.out.trans (HB.out.mono HB2.out.size))
          rw [hNN]
          clear has HO
          go_wp2_with (first | (go_at_call 92; refine (prOne_any N _ hN1 (by omega)).mono ?_; rintro e w4 ⟨g4, d4, rfl, hlo4, ha4, hb4⟩; have HA4 := hide ha4; have HAS4 := hide (HAS.out.all hb4); have HB4 := hide (HB3.out.trans (hb4.mono HB3.out.size)); clear ha4 hb4))
          go_loopw [10, 11] (fun o i wr => ∃ (q g d : Nat), q ≤ m ∧ i = .int .i64 q ∧ o = .slice (some ⟨g, 0, none⟩) N d ∧ Hid (Arr wr 3 g N (iv (nv fun i => pw N (psT T j) q i))) ∧ Hid (Below w4.heap.size w4 wr)) (fun _ i _ => m - (intOf i).toNat)
          case atStart => exact ⟨0, g4, d4, by omega, rfl, rfl, HA4, hide (Below.refl _ _)⟩
          case round =>
            obtain ⟨q, g5, d5, hq, rfl, rfl, HAq, HBq⟩ := hrel
            have hszq := HBq.out.size
            have HASq := hide (HAS4.out.all HBq.out)
            by_cases hlt3 : q < m
            · have HPL : Hid (∀ i, i < N → pw N (psT T j) q i < 2 ^ N) := hide fun i hi => pw_lt HSL.out q i hi
              have hqm : (q : Int) < m := by omega
              go_wp2_with (first | (go_at_call 52; refine (prCompose_any (some ⟨gs, 0, none⟩) (some ⟨g5, 0, none⟩) N N d d5 (psT T j) (fun i => pw N (psT T j) q i) _ hN1 (by omega) (by omega) (Src.of_arr HASq.out) (Src.of_arr HAq.out) HSL.out HPL.out).mono ?_; rintro e w6 ⟨g6, d6, rfl, hlo6, ha6, hb6⟩; have HA6 := hide ha6; have HB6 := hide (HBq.out.trans (hb6.mono hszq)); clear ha6 hb6))
              go_roundw
              case rel => exact ⟨q + 1, g6, d6, by omega, by go_num, rfl, hide (HA6.out.congr (fun i _ => rfl)), HB6⟩
              case measure => simp [intOf]; omega
            · have hqm : q = m := by omega
              subst hqm
              have hqq : ¬ (q : Int) < q := by omega
              have HB5 := hide (HB4.out.trans (HBq.out.mono HB4.out.size))
              have HE1 : Hid (∀ i, i < N → pw N (psT T j) q i < 4611686018427387904) := hide fun i hi => by
                have h1 := pw_lt HSL.out q i hi
                have h2 : (2 : Nat) ^ N ≤ 1099511627776 := Nat.pow_le_pow_right (n := 2) (j := 40) (by decide) (by omega)
                omega
              have HE2 : Hid (∀ i, i < N → 2 ^ i < 4611686018427387904) := hide fun i hi => by
                have h1 : 2 ^ i < 2 ^ N := Nat.pow_lt_pow_right (by decide) hi
                have h2 : (2 : Nat) ^ N ≤ 1099511627776 := Nat.pow_le_pow_right (n := 2) (j := 40) (by decide) (by omega)
                omega
              go_wp2_with fail
              refine (prOne_any N _ hN1 (by omega)).mono ?_
              rintro e w7 ⟨g7, d7, rfl, hlo7, ha7, hb7⟩
              have HA7 := hide ha7
              have HAq7 := hide (HAq.out.all hb7)
              have HB7 := hide (HB5.out.trans (hb7.mono HB5.out.size))
              clear ha7 hb7
              go_wp2_with fail
              refine (prAdd_any (some ⟨g5, 0, none⟩) (some ⟨g7, 0, none⟩) N d5 d7 (fun i => pw N (psT T j) q i) (fun i => 2 ^ i) _ hN1 (by omega) (Src.of_arr HAq7.out) (Src.of_arr HA7.out) HE1.out HE2.out).mono ?_
              rintro e w8 ⟨g8, d8, rfl, hlo8, ha8, hb8⟩
              have HA8 := hide ha8
              have HB8 := hide (HB7.out.trans (hb8.mono HB7.out.size))
              clear ha8 hb8
              go_wp2_with fail
              refine (prNullity_any (some ⟨g8, 0, none⟩) N d8 _ _ (by omega) HCL.out (Src.of_arr HA8.out)).mono ?_
              rintro e w9 ⟨rfl, hb9⟩
              have HB9 := hide (HB8.out.trans (hb9.mono HB8.out.size))
              rw [HR.out]
              go_wp2
              go_ret
              exact ⟨rfl, HB9.out⟩
end Go.Proofs.YtdpoceijnbbmgaaDoor
