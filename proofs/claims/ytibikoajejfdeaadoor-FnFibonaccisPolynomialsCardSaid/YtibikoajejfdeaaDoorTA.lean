import Derived.Test.YtibikoajejfdeaaDoorB
import Derived.Test.YtibikoajejfdeaaDoorMB
import Derived.Test.YtibikoajejfdeaaDoorPB
import Derived.Ground.NamesProg
import Derived.Shelf.Lay
import Derived.Shelf.Small.Bits
import Derived.Lib.ItoaNum
namespace Go.Proofs
open Go.Shelf
shelf_lay Lays.n125 Nm 125 at Tryd as Tryd.len
end Go.Proofs
namespace Go.Proofs.YtibikoajejfdeaaDoor
open Go.RowKit
set_option maxHeartbeats 1000000
theorem ret_i {k : IntKind} {a b : Int} (h : a = b) : Ending.returned (.int k a) = .returned (.int k b) := by rw [h]
theorem i64_and_nat (a b : Nat) (ha : a < 9223372036854775808) (hb : b < 9223372036854775808) : bits .and .i64 (a : Int) (b : Int) = ((a &&& b : Nat) : Int) := by
  have hx : a &&& b < 2 ^ 63 := Nat.and_lt_two_pow a (by omega)
  show IntKind.i64.wrap ((BitVec.ofInt 64 (a : Int) &&& BitVec.ofInt 64 (b : Int)).toNat : Int) = _
  rw [BitVec.toNat_and, ofInt_i64 a ha, ofInt_i64 b hb, IntKind.wrap_i64]
  omega
theorem wrap_in {x : Int} (h : -9223372036854775808 ≤ x ∧ x ≤ 9223372036854775807) : IntKind.i64.wrap x = x := IntWalk.i64_in _ h
theorem pow62 {n : Nat} (h : n ≤ 62) : 2 ^ n ≤ 4611686018427387904 := by
  have h1 : 2 ^ n ≤ 2 ^ 62 := Nat.pow_le_pow_right (by decide) h
  exact h1
theorem l1In_any (s lo hi : Int) (w : World) :
    Calls Tryd.prog 19 #[.int .i64 s, .int .i64 lo, .int .i64 hi] w fun e w' => e = .returned (.bool (inB s lo hi)) ∧ w' = w := by
  by_cases h1 : lo ≤ s <;> by_cases h2 : s ≤ hi
  all_goals
    go_enter Tryd.func19, Tryd.ntmps19
    go_wp2
    go_ret
    simp [inB, h1, h2]
theorem poGood_any (s : Int) (w : World) :
    Calls Tryd.prog 30 #[.int .i64 s] w fun e w' => e = .returned (.bool (inB s 0 2199023255551)) ∧ w' = w := by
  go_enter Tryd.func30, Tryd.ntmps30
  go_wp2_with (go_at_call 19; refine (l1In_any _ _ _ _).mono ?_; rintro e w' ⟨rfl, rfl⟩)
  go_ret
  exact ⟨rfl, rfl⟩
theorem isSetOf41 (s : Int) (w : World) :
    Calls Tryd.prog 38 #[.int .i64 41, .int .i64 s] w fun e w' => e = .returned (.bool (inB s 0 2199023255551)) ∧ w' = w := by
  go_enter Tryd.func38, Tryd.ntmps38
  go_wp2
  go_ret
  refine ⟨?_, rfl⟩
  have h := isSet_in s 41
  have e : (2 : Int) ^ 41 - 1 = 2199023255551 := by decide
  have e2 : (2 : Int) ^ 41 = 2199023255552 := by decide
  rw [e, e2] at h
  rw [← h]
  rfl
theorem isPoly_any (s : Int) (w : World) :
    Calls Tryd.prog 21 #[.int .i64 s] w fun e w' => e = .returned (.bool (inB s 0 2199023255551)) ∧ w' = w := by
  go_enter Tryd.func21, Tryd.ntmps21
  go_wp2_with (go_at_call 38; refine (isSetOf41 _ _).mono ?_; rintro e w' ⟨rfl, rfl⟩)
  go_ret
  exact ⟨rfl, rfl⟩
theorem poly_nat {s : Int} (h : inB s 0 2199023255551 = true) : ∃ p : Nat, s = p ∧ p < 2199023255552 := by
  simp only [inB, decide_eq_true_eq] at h
  exact ⟨s.toNat, by omega, by omega⟩
theorem bitLen_bl {x : Nat} (h : x < 4611686018427387904) : Lib.bitLen x = bl x := by
  by_cases h0 : x = 0
  · subst h0; rfl
  · have hb := Lib.bitLenAux_bounds 64 x (by have : (2 : Nat) ^ 64 = 18446744073709551616 := rfl; omega) h0
    show Lib.bitLenAux 64 x = _
    rw [bl_pos h0]
    obtain ⟨h1, h2, h3⟩ := hb
    have a1 := (Nat.le_log2 h0).2 h2
    have a2 := (Nat.log2_lt h0).2 h3
    omega
theorem bl62 {x : Nat} (h : x < 4611686018427387904) : bl x ≤ 62 := bl_le.2 h
theorem greatest_any (s : Nat) (w : World) (hs : s < 4611686018427387904) :
    Calls Tryd.prog 39 #[.int .i64 s] w fun e w' => e = .returned (.int .i64 ((bl s : Int) - 1)) ∧ w' = w := by
  have hb := bitLen_bl hs
  have hcon := Any.bits_Len Tryd.len (s : Int) w (by omega) (by omega)
  change Calls Tryd.prog 44 _ _ _ at hcon
  rw [Int.toNat_natCast, hb] at hcon
  have hl := bl62 hs
  have HC := hide hcon
  clear hcon hb
  go_enter Tryd.func39, Tryd.ntmps39
  go_wp2_with (go_at_call 44; refine HC.out.mono ?_; rintro e w3 ⟨rfl, rfl⟩)
  go_ret
  exact ⟨ret_i (by omega), rfl⟩
theorem degree_any (s : Nat) (w : World) (hs : s < 4611686018427387904) :
    Calls Tryd.prog 23 #[.int .i64 s] w fun e w' => e = .returned (.int .i64 ((bl s : Int) - 1)) ∧ w' = w := by
  go_enter Tryd.func23, Tryd.ntmps23
  go_wp2_with (go_at_call 39; refine (greatest_any _ _ hs).mono ?_; rintro e w3 ⟨rfl, rfl⟩)
  go_ret
  exact ⟨rfl, rfl⟩
theorem soTop_any (s : Nat) (w : World) (hs : s < 4611686018427387904) :
    Calls Tryd.prog 42 #[.int .i64 s] w fun e w' => e = .returned (.int .i64 ((bl s : Int) - 1)) ∧ w' = w := by
  have hL := bl62 hs
  obtain ⟨b, hb⟩ : ∃ b, bl s = b := ⟨_, rfl⟩
  rw [hb] at hL ⊢
  have HB := hide hb
  clear hb
  go_enter Tryd.func42, Tryd.ntmps42
  go_wp2
  go_loop [0, 3] (fun x t => ∃ k : Nat, k ≤ b ∧ x = .int .i64 ((s / 2 ^ k : Nat) : Int) ∧ t = .int .i64 ((k : Int) - 1)) (fun x _ => (intOf x).toNat)
  case atStart => exact ⟨0, by omega, by simp, rfl⟩
  case round =>
    obtain ⟨k, hk, rfl, rfl⟩ := hrel
    obtain ⟨x, hx⟩ : ∃ x, s / 2 ^ k = x := ⟨_, rfl⟩
    have hx2 : Hid (s / 2 ^ (k + 1) = x / 2) := hide (by rw [Nat.pow_succ, ← Nat.div_div_eq_div_mul, hx])
    have hxs : x ≤ s := by rw [← hx]; exact Nat.div_le_self _ _
    rw [hx]
    by_cases hp : 0 < x
    · have hkl : k < b := by
        rcases Nat.lt_or_ge k b with h | h
        · exact h
        · rw [Nat.div_eq_of_lt (bl_le.1 (by rw [HB.out]; exact h))] at hx; omega
      clear hx
      go_wp2
      go_round
      case rel => exact ⟨k + 1, by omega, by rw [hx2.out]; go_num, by go_num⟩
      case measure => simp [intOf] <;> omega
    · have hke : b = k := by
        have h1 : s < 2 ^ k := by
          have := (Nat.div_eq_zero_iff (a := s) (b := 2 ^ k)).1 (by omega)
          have := Nat.two_pow_pos k
          omega
        have := bl_le.2 h1
        rw [HB.out] at this
        omega
      have hz : ((x : Nat) : Int) = 0 := by omega
      rw [hz]
      clear hx hz
      go_wp2
      go_ret
      exact ⟨ret_i (by omega), rfl⟩
theorem poDegree_any (s : Nat) (w : World) (hs : s < 4611686018427387904) :
    Calls Tryd.prog 31 #[.int .i64 s] w fun e w' => e = .returned (.int .i64 ((bl s : Int) - 1)) ∧ w' = w := by
  go_enter Tryd.func31, Tryd.ntmps31
  go_wp2_with (go_at_call 42; refine (soTop_any _ _ hs).mono ?_; rintro e w3 ⟨rfl, rfl⟩)
  go_ret
  exact ⟨rfl, rfl⟩
theorem grIn_any (s : Nat) (i : Int) (h0 : 0 ≤ i) (h1 : i < 64) (w : World) :
    Calls Tryd.prog 46 #[.int .i64 s, .int .i64 i] w fun e w' => e = .returned (.bool (s.testBit i.toNat)) ∧ w' = w := by
  go_enter Tryd.func46, Tryd.ntmps46
  go_wp2
  go_ret
  refine ⟨?_, rfl⟩
  rw [← bt_nat, ← grIn_eq _ _ (by omega)]
  rfl
end Go.Proofs.YtibikoajejfdeaaDoor
