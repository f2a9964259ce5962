import Derived.Test.YtmcimfblhpflnaaDoorF
import Derived.Test.YtmcimfblhpflnaaDoorPC
namespace Go.Proofs.YtmcimfblhpflnaaDoor
open Go.RowKit
set_option maxHeartbeats 400000
theorem ofInt_u64 (a : Nat) (ha : a < 18446744073709551616) : (BitVec.ofInt 64 (a : Int)).toNat = a := by
  rw [BitVec.ofInt_natCast, BitVec.toNat_ofNat]; exact Nat.mod_eq_of_lt (by omega)
theorem u64_and_nat (a b : Nat) (ha : a < 18446744073709551616) (hb : b < 18446744073709551616) : bits .and .u64 (a : Int) (b : Int) = ((a &&& b : Nat) : Int) := by
  have hx : a &&& b ≤ a := Nat.and_le_left
  show IntKind.u64.wrap ((BitVec.ofInt 64 (a : Int) &&& BitVec.ofInt 64 (b : Int)).toNat : Int) = _
  rw [BitVec.toNat_and, ofInt_u64 a ha, ofInt_u64 b hb, IntKind.wrap_u64]
  omega
theorem i64_and_nat (a b : Nat) (ha : a < 9223372036854775808) (hb : b < 9223372036854775808) : bits .and .i64 (a : Int) (b : Int) = ((a &&& b : Nat) : Int) := by
  have hx : a &&& b ≤ a := Nat.and_le_left
  show IntKind.i64.wrap ((BitVec.ofInt 64 (a : Int) &&& BitVec.ofInt 64 (b : Int)).toNat : Int) = _
  rw [BitVec.toNat_and, ofInt_i64 a ha, ofInt_i64 b hb, IntKind.wrap_i64]
  omega
theorem ones_any (x : Nat) (w : World) (hx : x < 65536) : Calls Tryd.prog 98 #[.int .u64 x] w fun e w' => e = .returned (.int .i64 (onesN x : Nat)) ∧ w' = w := by
  obtain ⟨y1, h1⟩ : ∃ y, (x / 2 &&& 6148914691236517205) = y := ⟨_, rfl⟩
  obtain ⟨y2, h2⟩ : ∃ y, (x &&& 6148914691236517205) = y := ⟨_, rfl⟩
  have b1 : y1 ≤ x / 2 := h1 ▸ Nat.and_le_left
  have b2 : y2 ≤ x := h2 ▸ Nat.and_le_left
  obtain ⟨y3, h3⟩ : ∃ y, ((y1 + y2) / 4 &&& 3689348814741910323) = y := ⟨_, rfl⟩
  obtain ⟨y4, h4⟩ : ∃ y, (y1 + y2 &&& 3689348814741910323) = y := ⟨_, rfl⟩
  have b3 : y3 ≤ (y1 + y2) / 4 := h3 ▸ Nat.and_le_left
  have b4 : y4 ≤ y1 + y2 := h4 ▸ Nat.and_le_left
  obtain ⟨y5, h5⟩ : ∃ y, ((y3 + y4) / 16 + (y3 + y4) &&& 1085102592571150095) = y := ⟨_, rfl⟩
  have b5 : y5 ≤ (y3 + y4) / 16 + (y3 + y4) := h5 ▸ Nat.and_le_left
  obtain ⟨y6, h6⟩ : ∃ y, y5 + y5 / 256 = y := ⟨_, rfl⟩
  obtain ⟨y7, h7⟩ : ∃ y, y6 + y6 / 65536 = y := ⟨_, rfl⟩
  obtain ⟨y8, h8⟩ : ∃ y, y7 + y7 / 4294967296 = y := ⟨_, rfl⟩
  have b8 : y8 ≤ 1000000 := by omega
  have hfin : Hid (onesN x = (y8 &&& 127)) := hide (by rw [← h8, ← h7, ← h6, ← h5, ← h4, ← h3, ← h2, ← h1]; rfl)
  have e1 : bits .and .u64 ((x : Int) / 2) 6148914691236517205 = (y1 : Int) := by rw [← h1, ← u64_and_nat _ _ (by omega) (by omega)]; rfl
  have e2 : bits .and .u64 (x : Int) 6148914691236517205 = (y2 : Int) := by rw [← h2, ← u64_and_nat _ _ (by omega) (by omega)]; rfl
  have e3 : bits .and .u64 (((y1 : Int) + (y2 : Int)) / 4) 3689348814741910323 = (y3 : Int) := by rw [← h3, ← u64_and_nat _ _ (by omega) (by omega)]; rfl
  have e4 : bits .and .u64 ((y1 : Int) + (y2 : Int)) 3689348814741910323 = (y4 : Int) := by rw [← h4, ← u64_and_nat _ _ (by omega) (by omega)]; rfl
  have e5 : bits .and .u64 (((y3 : Int) + (y4 : Int)) / 16 + ((y3 : Int) + (y4 : Int))) 1085102592571150095 = (y5 : Int) := by rw [← h5, ← u64_and_nat _ _ (by omega) (by omega)]; rfl
  have e9 : bits .and .i64 (y8 : Int) 127 = ((y8 &&& 127 : Nat) : Int) := by rw [← i64_and_nat _ _ (by omega) (by omega)]; rfl
  have e6 : (y5 : Int) + (y5 : Int) / 256 = (y6 : Int) := by omega
  have e7 : (y6 : Int) + (y6 : Int) / 65536 = (y7 : Int) := by omega
  have e8 : (y7 : Int) + (y7 : Int) / 4294967296 = (y8 : Int) := by omega
  have b6 : y6 ≤ 1000000 := by omega
  have b7 : y7 ≤ 1000000 := by omega
  clear h1 h2 h3 h4 h5 h6 h7 h8
  go_enter Tryd.func98, Tryd.ntmps98
  go_wp2
  go_ret
  refine ⟨?_, rfl⟩
  rw [hfin.out]
  rfl
theorem ones88 (x : Nat) (w : World) (hx : x < 65536) : Calls Tryd.prog 78 #[.int .u64 x] w fun e w' => e = .returned (.int .i64 (onesN x : Nat)) ∧ w' = w := by
  go_enter Tryd.func78, Tryd.ntmps78
  go_wp2_with (go_at_call 98; refine (ones_any _ _ hx).mono ?_; rintro e w3 ⟨rfl, rfl⟩)
  go_ret
  exact ⟨rfl, rfl⟩
theorem sizeOf_any (x : Nat) (w : World) (hx : x < 65536) : Calls Tryd.prog 55 #[.int .i64 x] w fun e w' => e = .returned (.int .i64 (popN 16 x : Nat)) ∧ w' = w := by
  have hp := ones_pop x hx
  have HP := hide hp
  clear hp
  go_enter Tryd.func55, Tryd.ntmps55
  go_wp2_with (go_at_call 78; refine (ones88 _ _ hx).mono ?_; rintro e w3 ⟨rfl, rfl⟩; simp only [HP.out])
  go_ret
  exact ⟨rfl, rfl⟩
end Go.Proofs.YtmcimfblhpflnaaDoor
