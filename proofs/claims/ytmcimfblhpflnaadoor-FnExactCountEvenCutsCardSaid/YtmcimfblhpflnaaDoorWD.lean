import Derived.Test.YtmcimfblhpflnaaDoorWC
import Derived.Test.YtmcimfblhpflnaaDoorOC
import Derived.Test.YtmcimfblhpflnaaDoorZB
namespace Go.Proofs.YtmcimfblhpflnaaDoor
open Go.RowKit
set_option maxHeartbeats 2000000
/-- The buttons below k with an odd number of neighbours. -/
def oddN (F : Nat → Nat) : Nat → Nat
  | 0 => 0
  | k + 1 => oddN F k ||| (popN 16 (F k) % 2) <<< k
theorem rem_shl {r k : Nat} (hr : r < 2) (hk : k < 16) : r <<< k < 2 ^ (k + 1) := by
  rw [Nat.shiftLeft_eq, Nat.pow_succ, Nat.mul_comm]
  exact Nat.mul_lt_mul_of_le_of_lt (Nat.le_refl _) hr (Nat.two_pow_pos k)
theorem oddN_lt (F : Nat → Nat) : ∀ k, k ≤ 16 → oddN F k < 2 ^ k
  | 0, _ => by simp [oddN]
  | k + 1, h => by
    have h1 := oddN_lt F k (by omega)
    have h2 : 2 ^ k < 2 ^ (k + 1) := Nat.pow_lt_pow_right (by decide) (by omega)
    exact Nat.or_lt_two_pow (by omega) (rem_shl (Nat.mod_lt _ (by decide)) (by omega))
theorem oddN_bit (F : Nat → Nat) (j : Nat) : ∀ k, (oddN F k).testBit j = (decide (j < k) && decide (popN 16 (F j) % 2 = 1))
  | 0 => by simp [oddN]
  | k + 1 => by
    have ih := oddN_bit F j k
    rw [oddN, Nat.testBit_or, ih, Nat.testBit_shiftLeft]
    rcases Nat.lt_trichotomy j k with h | h | h
    · simp [h, show ¬ k ≤ j by omega, show j < k + 1 by omega]
    · subst h
      have : popN 16 (F j) % 2 = 0 ∨ popN 16 (F j) % 2 = 1 := by omega
      rcases this with e | e <;> simp [e]
    · have e : (popN 16 (F k) % 2).testBit (j - k) = false := Nat.testBit_lt_two_pow (Nat.lt_of_lt_of_le (Nat.mod_lt _ (by decide) : popN 16 (F k) % 2 < 2) (by
        have := Nat.pow_le_pow_right (n := 2) (i := 1) (j := j - k) (by decide) (by omega)
        simpa using this))
      simp [e, show ¬ j < k by omega, show ¬ j < k + 1 by omega]
theorem shl_rem (r k : Nat) (hr : r < 2) (hk : k < 16) : RowKit.wrap64 ((r : Int) * 2 ^ k) = ((r <<< k : Nat) : Int) := by
  have h := pow_lt16 hk
  have h2 := Nat.mul_le_mul (Nat.le_of_lt_succ hr) (Nat.le_of_lt h)
  rw [Nat.shiftLeft_eq, Int.natCast_mul, pow_nat, IntWalk.wrap64_in _ (by rw [← pow_nat, ← Int.natCast_mul]; generalize r * 2 ^ k = z at h2; omega)]
theorem odd_any (g n c : Nat) (F : Nat → Nat) (own : Bool) (w : World) (hn : n ≤ 16) (hF : ∀ k, k < n → F k < 65536) (ha : Arr w 3 g n (iv (nv F))) :
    Calls Tryd.prog 93 #[.agg #[.slice (some ⟨g, 0, none⟩) n c, .bool own]] w fun e w' => e = .returned (.int .i64 (oddN F n : Nat)) ∧ w' = w.alloc (.cells #[.slice (some ⟨g, 0, none⟩) n c, .bool own] 28) := by
  have HF := hide hF
  have HA := hide (ha.alloc (.cells #[.slice (some ⟨g, 0, none⟩) n c, .bool own] 28))
  have hgl := ha.lt
  clear hF ha
  go_enter Tryd.func93, Tryd.ntmps93
  go_wp2
  go_loop [3, 9] (fun t i => ∃ k o : Nat, k ≤ n ∧ i = .int .i64 k ∧ t = .int .i64 o ∧ Hid (oddN F k = o)) (fun _ i => n - (intOf i).toNat)
  case atStart => exact ⟨0, 0, by omega, rfl, rfl, hide rfl⟩
  case round =>
    obtain ⟨k, o, hk, rfl, rfl, HO⟩ := hrel
    by_cases hlt : k < n
    · have hc := HA.out.cell hlt
      simp only [iv, nv] at hc
      obtain ⟨x, hx⟩ : ∃ x, F k = x := ⟨_, rfl⟩
      have hx16 := HF.out k hlt
      rw [hx] at hc hx16
      obtain ⟨p, hp⟩ : ∃ p, popN 16 x = p := ⟨_, rfl⟩
      obtain ⟨r, hr⟩ : ∃ r, p % 2 = r := ⟨_, rfl⟩
      have hr2 : r < 2 := by omega
      have em : (p : Int) % 2 = (r : Int) := by omega
      have e0 := shl_rem r k hr2 (by omega)
      have ho := oddN_lt F k (by omega)
      rw [HO.out] at ho
      have hk16 := pow_lt16 (j := k) (by omega)
      have hs := rem_shl (k := k) hr2 (by omega)
      have hs2 : r <<< k < 131072 := Nat.lt_of_lt_of_le hs (Nat.pow_le_pow_right (n := 2) (i := k + 1) (j := 17) (by decide) (by omega))
      obtain ⟨y, hy⟩ : ∃ y, r <<< k = y := ⟨_, rfl⟩
      rw [hy] at e0 hs2
      have ho16 : o < 65536 := Nat.lt_of_lt_of_le ho (pow16n (by omega))
      have e1 := i64_or_nat o y (Nat.lt_trans ho16 (by decide)) (Nat.lt_trans hs2 (by decide))
      have HN : Hid (oddN F (k + 1) = o ||| y) := hide (by rw [oddN, HO.out, hx, hp, hr, hy])
      have HP := hide hp
      clear hx hp hr ho hs hy hk16
      go_wp2_with (go_at_call 55; refine (sizeOf_any _ _ hx16).mono ?_; rintro e w3 ⟨rfl, rfl⟩; simp only [HP.out])
      go_round
      case rel => exact ⟨k + 1, o ||| y, by omega, by go_num, rfl, HN⟩
      case measure => simp [intOf]; omega
    · have hkn : k = n := by omega
      subst hkn
      go_wp2
      go_ret
      exact ⟨ret_int (by rw [HO.out]), rfl⟩
end Go.Proofs.YtmcimfblhpflnaaDoor
