/-
The children of a button: its neighbours but its parent.
-/
import Derived.Test.YtmcimfblhpflnaaDoorFB
namespace Go.Proofs.YtmcimfblhpflnaaDoor
open Go.RowKit
set_option maxHeartbeats 2000000
theorem andNot_nat (a b : Nat) (ha : a < 65536) (hb : b < 65536) : bits .andNot .i64 (a : Int) (b : Int) = ((a ^^^ (a &&& b) : Nat) : Int) := by
  have hx : a ^^^ (a &&& b) < 2 ^ 16 := Nat.xor_lt_two_pow ha (Nat.lt_of_le_of_lt Nat.and_le_left ha)
  show IntKind.i64.wrap ((BitVec.ofInt 64 (a : Int) &&& ~~~ BitVec.ofInt 64 (b : Int)).toNat : Int) = _
  have e : (BitVec.ofInt 64 (a : Int) &&& ~~~ BitVec.ofInt 64 (b : Int)).toNat = a ^^^ (a &&& b) := by
    apply Nat.eq_of_testBit_eq
    intro j
    rw [BitVec.toNat_and, Nat.testBit_and, ofInt_i64 a (by omega), Nat.testBit_xor, Nat.testBit_and]
    by_cases hj : j < 64
    · have : (~~~ BitVec.ofInt 64 (b : Int)).toNat.testBit j = !b.testBit j := by
        rw [BitVec.testBit_toNat, BitVec.getLsbD_not, ← BitVec.testBit_toNat, ofInt_i64 b (by omega)]
        simp [hj]
      rw [this]
      cases a.testBit j <;> cases b.testBit j <;> rfl
    · have : a.testBit j = false := Nat.testBit_lt_two_pow (Nat.lt_of_lt_of_le ha (show 65536 ≤ 2 ^ j from Nat.le_trans (by decide) (Nat.pow_le_pow_right (n := 2) (i := 64) (by decide) (by omega))))
      simp [this]
  rw [e, IntKind.wrap_i64]
  omega
/-- The neighbours of i but its parent. -/
def ch (F : Nat → Nat) (p : Nat → Int) (i : Nat) : Nat := if p i = -1 then F i else F i ^^^ (F i &&& 2 ^ (p i).toNat)
theorem ch_bit (F : Nat → Nat) (p : Nat → Int) (i b : Nat) (hp : p i = -1 ∨ 0 ≤ p i) : (ch F p i).testBit b = true ↔ (F i).testBit b = true ∧ p i ≠ (b : Nat) := by
  unfold ch
  by_cases h : p i = -1
  · rw [if_pos h]
    constructor
    · intro hb; exact ⟨hb, by omega⟩
    · exact fun hb => hb.1
  · rw [if_neg h, Nat.testBit_xor, Nat.testBit_and, Nat.testBit_two_pow]
    have h0 : 0 ≤ p i := hp.resolve_left h
    by_cases e : (p i).toNat = b
    · have : p i = (b : Nat) := by omega
      simp [e, this]
    · have : p i ≠ (b : Nat) := by omega
      simp [e, this]
theorem ch_lt (F : Nat → Nat) (p : Nat → Int) (i : Nat) (hF : F i < 65536) : ch F p i < 65536 := by
  unfold ch
  split
  · exact hF
  · exact Nat.xor_lt_two_pow (n := 16) hF (Nat.lt_of_le_of_lt Nat.and_le_left hF)
set_option maxRecDepth 4000 in
theorem children_any (B fb g n c gp cp m d i : Nat) (own : Bool) (F : Nat → Nat) (A : Option Addr) (l : List Nat) (p : Nat → Int) (w : World) (hi : i < n) (hn : n ≤ 16) (hF : F i < 65536)
    (hS : FS w B fb g n c gp cp own F A m d l p) (hp : p i = -1 ∨ (0 ≤ p i ∧ p i < 16)) :
    Calls Tryd.prog 101 #[.pointer (some ⟨fb, 0, none⟩), .int .i64 i] w fun e w' => e = .returned (.int .i64 (ch F p i : Nat)) ∧ ∃ k, w' = w.drewN k := by
  have k0 : w.cell? ⟨fb, 0, none⟩ = some (.slice (some ⟨g, 0, none⟩) n c) := hS.blk.cell 0
  have k2 : w.cell? ⟨fb, 2, none⟩ = some (.slice (some ⟨gp, 0, none⟩) n cp) := hS.blk.cell 2
  have kn := hS.near.cell hi
  have kp := hS.par.cell hi
  have hin : (i : Int) < (n : Int) := by omega
  simp only [iv, nv] at kn kp
  clear hS
  by_cases h : p i = -1
  · rw [h] at kp
    have hc : ch F p i = F i := by rw [ch, if_pos h]
    rw [hc]
    clear h hp
    go_enter Tryd.func101, Tryd.ntmps101
    go_wp2
    go_ret
    exact ⟨rfl, 0, rfl⟩
  · obtain ⟨q, hq⟩ : ∃ q : Nat, p i = (q : Int) := ⟨(p i).toNat, by omega⟩
    have hq16 : q < 16 := by omega
    have hc : ch F p i = F i ^^^ (F i &&& 2 ^ q) := by rw [ch, if_neg h, hq, Int.toNat_natCast]
    rw [hc]
    rw [hq] at kp
    have e1 := wrap_pow hq16
    have e2 := andNot_nat (F i) (2 ^ q) hF (pow_lt16 hq16)
    have hqn : ((q : Int) == -1) = false := by simp
    have hq0 : (0 : Int) ≤ (q : Int) := by omega
    have hq1 : (q : Int) < 64 := by omega
    rw [pow_nat] at e2
    clear h hp hc hq
    go_enter Tryd.func101, Tryd.ntmps101
    go_wp2_with fail
    go_region
    first | go_ret | (go_wp2; go_ret)
    exact ⟨by simp [e1, e2], 1, rfl⟩
end Go.Proofs.YtmcimfblhpflnaaDoor
