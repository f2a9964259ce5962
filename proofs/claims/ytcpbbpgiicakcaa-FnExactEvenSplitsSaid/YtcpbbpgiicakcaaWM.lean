import Derived.Test.YtcpbbpgiicakcaaWL
namespace Go.Proofs.Ytcpbbpgiicakcaa
open Go.RowKit
set_option maxHeartbeats 2000000
theorem and_pow (d i : Nat) : d &&& 2 ^ i = if d.testBit i then 2 ^ i else 0 := by
  apply Nat.eq_of_testBit_eq
  intro j
  rw [Nat.testBit_and, Nat.testBit_two_pow]
  by_cases h : i = j
  · subst h; cases hb : d.testBit i <;> simp
  · cases hb : d.testBit i <;> simp [h]
theorem spT_eq (F : Nat → Nat) (d i : Nat) : spT F d i = if d.testBit i then F i ||| 2 ^ i else F i := by
  unfold spT; rw [and_pow]; cases d.testBit i <;> simp
theorem good_bits {n : Nat} {F : Nat → Nat} (hG : goodB n (nv F) = true) {i j : Nat} (hi : i < n) (hj : j < n) : (F i).testBit j = (F j).testBit i ∧ (F i).testBit i = false := by
  obtain ⟨_, _, _, h⟩ := goodB_iff.1 hG
  have e : ∀ a b, a < n → b < n → (F a).testBit b = true → a ≠ b ∧ (F b).testBit a = true := fun a b ha hb hab => by
    have := h a ha b hb (by simpa [nv, bt_nat] using hab)
    simpa [nv, bt_nat] using this
  constructor
  · cases h1 : (F i).testBit j <;> cases h2 : (F j).testBit i
    · rfl
    · have := (e j i hj hi h2).2; rw [h1] at this; cases this
    · have := (e i j hi hj h1).2; rw [h2] at this; cases this
    · rfl
  · cases h1 : (F i).testBit i
    · rfl
    · exact absurd rfl (e i i hi hi h1).1
theorem spT_sym {n : Nat} {F : Nat → Nat} {d : Nat} (hF : ∀ j, j < n → F j < 2 ^ n) (hd : d < 2 ^ n) (hG : goodB n (nv F) = true) : Sym n (spT F d) ∧ Diag n (spT F d) d := by
  have hb : ∀ i j, (spT F d i).testBit j = ((F i).testBit j || (d.testBit i && decide (i = j))) := fun i j => by
    rw [spT_eq]
    cases h : d.testBit i
    · simp
    · simp [Nat.testBit_two_pow]
  refine ⟨⟨spT_lt hF hd, fun i j hi hj => ?_⟩, hd, fun i hi => ?_⟩
  · rw [hb, hb, (good_bits hG hi hj).1]
    by_cases e : i = j
    · subst e; rfl
    · simp [e, show ¬ j = i from fun h => e h.symm]
  · rw [hb, (good_bits hG hi hi).2]; simp
/-- The buttons that are asked for. -/
def gvN (F : Nat → Nat) (odd : Bool) (k : Nat) : Nat := if odd then evenN F k else oddN F k
theorem gvN_bit (F : Nat → Nat) (odd : Bool) (k j : Nat) : (gvN F odd k).testBit j = (decide (j < k) && (decide (popN 16 (F j) % 2 = 1) != odd)) := by
  cases odd
  · show (oddN F k).testBit j = _
    rw [oddN_bit]; simp
  · show (evenN F k).testBit j = _
    rw [evenN, Nat.testBit_xor, oddN_bit, Nat.testBit_two_pow_sub_one]
    by_cases h : j < k <;> simp [h]
theorem gvN_lt (F : Nat → Nat) (odd : Bool) (k : Nat) (hk : k ≤ 16) : gvN F odd k < 2 ^ k := by
  cases odd
  · exact oddN_lt F k hk
  · exact evenN_lt F k hk
theorem gvN_succ (F : Nat → Nat) (odd : Bool) (k : Nat) : gvN F odd (k + 1) = if (decide (popN 16 (F k) % 2 = 1) != odd) = true then gvN F odd k ||| 2 ^ k else gvN F odd k := by
  apply Nat.eq_of_testBit_eq
  intro j
  rw [gvN_bit]
  split
  · rename_i h
    rw [Nat.testBit_or, gvN_bit, Nat.testBit_two_pow]
    rcases Nat.lt_trichotomy j k with g | g | g
    · simp [g, show j < k + 1 by omega, show ¬ k = j by omega]
    · subst g; simp [h]
    · simp [show ¬ j < k + 1 by omega, show ¬ j < k by omega, show ¬ k = j by omega]
  · rename_i h
    rw [gvN_bit]
    rcases Nat.lt_trichotomy j k with g | g | g
    · simp [g, show j < k + 1 by omega]
    · subst g; simp at h; simp [h]
    · simp [show ¬ j < k + 1 by omega, show ¬ j < k by omega]
theorem gvN_last (F : Nat → Nat) (odd : Bool) {n k : Nat} (hk : k < n) : (gvN F odd n).testBit k = (decide (popN 16 (F k) % 2 = 1) != odd) := by
  rw [gvN_bit]; simp [hk]
/-- The first k rows. -/
def rowsT (T : Nat → Nat) (k : Nat) : List Nat := (List.range k).map T
theorem rowsT_succ (T : Nat → Nat) (k : Nat) : rowsT T (k + 1) = rowsT T k ++ [T k] := by simp [rowsT, List.range_succ]
theorem rowsT_len (T : Nat → Nat) (k : Nat) : (rowsT T k).length = k := by simp [rowsT]
theorem rowsT_src {w : World} {A : Option Addr} {n : Nat} {T : Nat → Nat} (h : Src w A n (lv (rowsT T n))) : Src w A n (iv (nv T)) :=
  h.congr fun k hk => by rw [lv_get (by rw [rowsT_len]; exact hk)]; simp [rowsT, iv, nv]
theorem eqs_any (g n c : Nat) (F : Nat → Nat) (own odd : Bool) (w : World) (hn : n ≤ 16) (hF : ∀ j, j < n → F j < 2 ^ n) (ha : Arr w 3 g n (iv (nv F))) :
    Calls Try.prog 70 #[.agg #[.slice (some ⟨g, 0, none⟩) n c, .bool own], .bool odd] w fun e w' => ∃ A d', e = .returned (.tuple #[.slice A n d', .int .i64 (gvN F odd n : Nat)]) ∧ Src w' A n (iv (nv (spT F (gvN F odd n)))) ∧ Below w.heap.size w w' := by
  have HF16 := hide (goodB_F hn hF)
  have HA := hide (ha.alloc (.cells #[.slice (some ⟨g, 0, none⟩) n c, .bool own] 28))
  have hgl := ha.lt
  have HT : Hid (∀ k, k < n → spT F (gvN F odd n) k = if (decide (popN 16 (F k) % 2 = 1) != odd) = true then F k ||| 2 ^ k else F k) := hide fun k hk => by rw [spT_eq, gvN_last F odd hk]
  clear hF ha
  obtain ⟨T, hT⟩ : ∃ T, spT F (gvN F odd n) = T := ⟨_, rfl⟩
  rw [hT] at HT ⊢
  clear hT
  go_enter Try.func70, Try.ntmps70
  go_wp2
  go_loopw [6, 7, 13] (fun rv dv i wr => ∃ (k o : Nat) (A : Option Addr) (e : Nat), k ≤ n ∧ i = .int .i64 k ∧ rv = .slice A k e ∧ dv = .int .i64 o ∧ Hid (gvN F odd k = o) ∧ OL wr (w.heap.size + 1) (.slice A k e) (rowsT T k) ∧ Below (w.heap.size + 1) (w.alloc (.cells #[.slice (some ⟨g, 0, none⟩) n c, .bool own] 28)) wr) (fun _ _ i _ => n - (intOf i).toNat)
  case atStart => exact ⟨0, 0, none, 0, by omega, rfl, rfl, rfl, hide (by have := gvN_lt F odd 0 (by omega); simpa using this), OL.nil _ _, Below.refl _ _⟩
  case round =>
    obtain ⟨k, o, A, e, hk, rfl, rfl, rfl, HO, ho, hb⟩ := hrel
    have hsz := hb.size
    simp only [World.size_alloc] at hsz
    by_cases hlt : k < n
    · have hc := (HA.out.all (hb.mono (by simp))).cell hlt
      simp only [iv, nv] at hc
      have hTk := HT.out k hlt
      have hgs := gvN_succ F odd k
      obtain ⟨x, hx⟩ : ∃ x, F k = x := ⟨_, rfl⟩
      have hx16 := HF16.out k hlt
      have ho16 : o < 65536 := by have := gvN_lt F odd k (by omega); rw [HO.out] at this; exact Nat.lt_of_lt_of_le this (pow16n (by omega))
      rw [hx] at hc hx16 hTk hgs
      obtain ⟨p, hp⟩ : ∃ p, popN 16 x = p := ⟨_, rfl⟩
      rw [hp] at hTk hgs
      rw [HO.out] at hgs
      have hk16 := pow_lt16 (j := k) (by omega)
      have ew0 := wrap_pow (j := k) (by omega)
      rw [← pow_nat] at ew0
      obtain ⟨q, hq⟩ : ∃ q, 2 ^ k = q := ⟨_, rfl⟩
      have ew : RowKit.wrap64 (2 ^ k) = (q : Int) := by rw [← hq, ← pow_nat]; exact ew0
      rw [hq] at hk16 hTk hgs
      have e1 := i64_or_nat x q (Nat.lt_trans hx16 (by decide)) (Nat.lt_trans hk16 (by decide))
      have e2 := i64_or_nat o q (Nat.lt_trans ho16 (by decide)) (Nat.lt_trans hk16 (by decide))
      have HP := hide hp
      have HL := hide ho
      have HB := hide hb
      have hk64 : k ≤ 1048576 := by omega
      have HSu : Hid (rowsT T (k + 1) = rowsT T k ++ [T k]) := hide (rowsT_succ T k)
      have HLe : Hid ((rowsT T k).length = k) := hide (rowsT_len T k)
      by_cases hcond : (decide (p % 2 = 1) != odd) = true
      · have HTk : Hid (T k = x ||| q) := hide (by rw [hTk, if_pos hcond])
        have HGs : Hid (gvN F odd (k + 1) = o ||| q) := hide (by rw [hgs, if_pos hcond])
        have e3 : (((p : Int) % 2 == 1) == odd) = false := by
          have ep : ((p : Int) % 2 == 1) = decide (p % 2 = 1) := by rw [Bool.eq_iff_iff]; simp; omega
          rw [ep]; revert hcond; cases decide (p % 2 = 1) <;> cases odd <;> decide
        clear hx hp ew0 hq hTk hgs ho hb hcond
        go_wp2_with (first | (go_at_call 84; refine (grCount_any _ _ hx16).mono ?_; rintro e w3 ⟨rfl, hw3⟩; subst w3; simp only [HP.out]) | (at_builtin; refine wpList_append_nat _ rfl _ _ rfl (w.heap.size + 1) A e k (rowsT T k) (x ||| q) wr.heap.size rfl (HL.out.alloc _) HLe.out rfl (by simp [go_sem]) hk64 (by simp; omega) ?_; intro A5 c5 w5 ho5 hb5; have HO5 := hide ho5; have HB5 := hide ((HB.out.alloc (by omega) _).trans hb5); clear ho5 hb5))
        go_roundw
        case rel => exact ⟨k + 1, o ||| q, A5, c5, by omega, by go_num, rfl, by go_num, HGs, by rw [HSu.out, HTk.out]; exact HO5.out, HB5.out⟩
        case measure => simp [intOf]; omega
      · have HTk : Hid (T k = x) := hide (by rw [hTk, if_neg hcond])
        have HGs : Hid (gvN F odd (k + 1) = o) := hide (by rw [hgs, if_neg hcond])
        have e3 : (((p : Int) % 2 == 1) == odd) = true := by
          have ep : ((p : Int) % 2 == 1) = decide (p % 2 = 1) := by rw [Bool.eq_iff_iff]; simp; omega
          rw [ep]; revert hcond; cases decide (p % 2 = 1) <;> cases odd <;> decide
        clear hx hp ew0 hq hTk hgs ho hb hcond
        go_wp2_with (first | (go_at_call 84; refine (grCount_any _ _ hx16).mono ?_; rintro e w3 ⟨rfl, hw3⟩; subst w3; simp only [HP.out]) | (at_builtin; refine wpList_append_nat _ rfl _ _ rfl (w.heap.size + 1) A e k (rowsT T k) x wr.heap.size rfl (HL.out.alloc _) HLe.out rfl (by simp [go_sem]) hk64 (by simp; omega) ?_; intro A5 c5 w5 ho5 hb5; have HO5 := hide ho5; have HB5 := hide ((HB.out.alloc (by omega) _).trans hb5); clear ho5 hb5))
        go_roundw
        case rel => exact ⟨k + 1, o, A5, c5, by omega, by go_num, rfl, rfl, HGs, by rw [HSu.out, HTk.out]; exact HO5.out, HB5.out⟩
        case measure => simp [intOf]; omega
    · have hkn : k = n := by omega
      subst hkn
      have HL := hide ho
      have HB := hide hb
      clear ho hb
      go_wp2
      go_ret2
      exact ⟨A, e, by rw [HO.out]; rfl, rowsT_src (HL.out.src (rowsT_len T k)), (by go_grown : Below w.heap.size w _).trans (HB.out.mono (by simp))⟩
end Go.Proofs.Ytcpbbpgiicakcaa
