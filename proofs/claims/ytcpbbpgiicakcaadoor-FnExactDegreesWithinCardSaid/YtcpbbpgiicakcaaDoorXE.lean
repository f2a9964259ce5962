import Derived.Test.YtcpbbpgiicakcaaDoorXD
import Derived.Test.YtcpbbpgiicakcaaDoorEff
import Derived.OwnWalk
namespace Go.Proofs.YtcpbbpgiicakcaaDoor
open Go.RowKit
set_option maxHeartbeats 2000000
/-- The inner degrees of the set's buttons below k. -/
def degL (F : Nat → Nat) (q k : Nat) : List Nat := ((List.range k).filter (fun i => q.testBit i)).map (fun i => popN 16 (F i &&& q))
theorem degL_zero (F : Nat → Nat) (q : Nat) : degL F q 0 = [] := rfl
theorem degL_succ (F : Nat → Nat) (q k : Nat) : degL F q (k + 1) = if q.testBit k then degL F q k ++ [popN 16 (F k &&& q)] else degL F q k := by
  unfold degL
  rw [List.range_succ, List.filter_append, List.map_append]
  cases h : q.testBit k <;> simp [h]
theorem degL_skip (F : Nat → Nat) (q a : Nat) : ∀ b, a ≤ b → (∀ j, a ≤ j → j < b → q.testBit j = false) → degL F q b = degL F q a
  | 0, h, _ => by have : a = 0 := by omega
                  subst this; rfl
  | b + 1, h, hb => by
    by_cases e : a = b + 1
    · subst e; rfl
    · rw [degL_succ, hb b (by omega) (by omega)]
      exact degL_skip F q a b (by omega) fun j h1 h2 => hb j h1 (by omega)
theorem degL_len (F : Nat → Nat) (q k : Nat) : (degL F q k).length ≤ k := by
  unfold degL
  rw [List.length_map]
  have := List.length_filter_le (fun i => q.testBit i) (List.range k)
  rwa [List.length_range] at this
theorem eachDeg_any (Bd Bg Bs g n c q : Nat) (own : Bool) (F : Nat → Nat) (w : World) (hn : n ≤ 16) (hq : q < 2 ^ n) (hF : ∀ i, i < n → F i < 65536) (hE : Env w Bd Bg Bs g n c q own F)
    (hbx : Blk w 22 Bd #[.slice none 0 0]) (hT : Tab w) (hd1 : 1 < Bd) :
    Calls Tryd.prog 37 #[.int .i64 q, .func (.func 38) #[] #[.pointer (some ⟨Bd, 0, none⟩), .pointer (some ⟨Bg, 0, none⟩), .pointer (some ⟨Bs, 0, none⟩)]] w fun e w' => e = .returned (.tuple #[]) ∧ (∃ A m d, Blk w' 22 Bd #[.slice A m d] ∧ OL w' (Bd + 1) (.slice A m d) (degL F q n) ∧ (degL F q n).length = m) ∧ Below Bd w w' := by
  have p16 := pow16 hn
  have hq16 : q < 65536 := by have := pow_nat n; omega
  have HE := hide hE
  have HBX := hide hbx
  have HT := hide hT
  have HF := hide hF
  clear hE hbx hT hF
  go_enter Tryd.func37, Tryd.ntmps37
  go_wp2
  go_loopw [0] (fun i wr => ∃ (r k m d : Nat) (A : Option Addr), r ≤ q ∧ i = .int .i64 r ∧ k ≤ n ∧ Hid (∀ j, r.testBit j = (decide (k ≤ j) && q.testBit j)) ∧ Blk wr 22 Bd #[.slice A m d] ∧ OL wr (Bd + 1) (.slice A m d) (degL F q k) ∧ Hid ((degL F q k).length = m) ∧ Below Bd w wr)
    (fun i _ => (intOf i).toNat)
  case atStart => exact ⟨q, 0, 0, 0, none, Nat.le_refl _, rfl, by omega, hide (fun j => by simp), HBX.out, by rw [degL_zero]; exact OL.nil _ _, hide rfl, Below.refl _ _⟩
  case round =>
    obtain ⟨r, k, m, d, A, hrq, rfl, hk, HR, hx, ho, HM, hb⟩ := hrel
    by_cases h0 : r = 0
    · subst h0
      have HE2 : Hid (degL F q n = degL F q k) := hide (degL_skip F q k n hk fun j h1 h2 => by
        have := HR.out j
        rw [Nat.zero_testBit] at this
        simp only [h1, decide_true, Bool.true_and] at this
        exact this.symm)
      have HX := hide hx
      have HO := hide ho
      have HB := hide hb
      clear hx ho hb
      go_wp2
      go_end0
      exact ⟨rfl, ⟨A, m, d, HX.out, by rw [HE2.out]; exact HO.out, by rw [HE2.out]; exact HM.out⟩, HB.out⟩
    · have hlow := ctz_low h0 (by omega)
      obtain ⟨i, hi⟩ : ∃ i, Lib.ctz 64 r = i := ⟨_, rfl⟩
      rw [hi] at hlow
      have hrn : r < 2 ^ n := by
        apply Nat.lt_pow_two_of_testBit
        intro j hj
        rw [HR.out j, Nat.testBit_lt_two_pow (Nat.lt_of_lt_of_le hq (Nat.pow_le_pow_right (by decide) hj))]
        simp
      have hin := bit_lt hlow.1 hrn
      have hbit := HR.out i
      rw [hlow.1] at hbit
      have hki : k ≤ i ∧ q.testBit i = true := by
        have := hbit.symm
        simpa using this
      have HD : Hid (degL F q (i + 1) = degL F q k ++ [popN 16 (F i &&& q)]) := hide (by
        rw [degL_succ, hki.2, degL_skip F q k i hki.1 fun j h1 h2 => by
          have h3 := HR.out j
          rw [hlow.2 j h2] at h3
          simp only [h1, decide_true, Bool.true_and] at h3
          exact h3.symm]
        rfl)
      have HR2 : Hid (∀ j, (r &&& (r - 1)).testBit j = (decide (i + 1 ≤ j) && q.testBit j)) := hide (fun j => by
        rw [low_off hlow.1 hlow.2, Nat.testBit_xor, Nat.testBit_two_pow]
        rcases Nat.lt_trichotomy j i with h | h | h
        · rw [hlow.2 j h]; simp [show ¬ i = j by omega, show ¬ i + 1 ≤ j by omega]
        · subst h; rw [hlow.1]; simp [show ¬ j + 1 ≤ j by omega]
        · rw [HR.out j]; simp [show ¬ i = j by omega, show i + 1 ≤ j by omega, show k ≤ j by omega])
      have hlt := low_lt hlow.1 hlow.2
      have hneq : ((r : Int) == 0) = false := by simp; omega
      have hneq' : ((r : Int) != 0) = true := by simp; omega
      have hand : bits .and .i64 (r : Int) ((r : Int) - 1) = ((r &&& (r - 1) : Nat) : Int) := by
        rw [show (r : Int) - 1 = ((r - 1 : Nat) : Int) by omega]
        exact i64_and_nat _ _ (by omega) (by omega)
      have hwu : IntKind.u64.wrap (r : Int) = (r : Int) := by rw [IntKind.wrap_u64]; omega
      have HX := hide hx
      have HO := hide ho
      have HB := hide hb
      have HEr := hide (HE.out.below hb)
      have HTr := hide (HT.out.below' hb hd1)
      have hm64 : m ≤ 64 := by have := degL_len F q k; rw [HM.out] at this; omega
      have hFi := HF.out i hin
      have hr64 : r < 18446744073709551616 := by omega
      clear hx ho hb hlow hbit p16 hrn hki
      go_wp2_with (first
        | (go_at_call 54; refine (ctz_any _ hr64 _ HTr.out).mono ?_; rintro e w3 ⟨rfl, hw3⟩; subst w3; rw [hi])
        | (go_at_call 38; refine (deg_closure Bd Bg Bs g n c q i m d A own F (degL F q k) _ hin hFi hq16 hm64 HEr.out HX.out HO.out HM.out).mono ?_; rintro e w4 ⟨rfl, ⟨A4, d4, hx4, ho4⟩, hb4⟩; have HX4 := hide hx4; have HO4 := hide ho4; have HB4 := hide (HB.out.trans hb4); clear hx4 ho4 hb4))
      refine ⟨⟨r &&& (r - 1), i + 1, m + 1, d4, A4, by omega, rfl, by omega, HR2, HX4.out, by rw [HD.out]; exact HO4.out, hide (by rw [HD.out, List.length_append, HM.out]; rfl), HB4.out⟩, by simp [intOf]; omega⟩
end Go.Proofs.YtcpbbpgiicakcaaDoor
