import Derived.Test.YtmcimfblhpflnaaRA
namespace Go.Proofs.Ytmcimfblhpflnaa
open Go.RowKit
set_option maxHeartbeats 1000000
theorem wrap_in {x : Int} (h : -9223372036854775808 ≤ x ∧ x ≤ 9223372036854775807) : IntKind.i64.wrap x = x := IntWalk.i64_in _ h
/-- A chase as a value. -/
def chV (R : Nat) (c : Nat) (own : Bool) (l : Nat) : Value := .agg #[.int .i64 R, .int .i64 c, .bool own, .int .i64 l]
theorem next_any (R c l k b x : Nat) (own : Bool) (w : World) (hc : c ≤ 16) (hl : l < 9223372036854775808) (hk : k ≤ 1048576) (hb : b < 2 ^ c) (hx : x < 2 ^ c) :
    Calls Try.prog 51 #[.agg #[.int .i64 R, .int .i64 c, .bool own, .int .i64 l], .int .i64 k, .int .i64 b, .int .i64 x] w fun e w' => e = .returned (.int .i64 (lr c l k ^^^ b ^^^ rt c own x : Nat)) ∧ Below w.heap.size w w' := by
  obtain ⟨p, hp⟩ : ∃ p : Nat, c * k = p := ⟨_, rfl⟩
  have h16 := pow16n hc
  have hpb : p ≤ 16777216 := by rw [← hp]; exact (Nat.mul_le_mul hc hk : c * k ≤ 16 * 1048576)
  have hmul : (k : Int) * (c : Int) = (p : Int) := by rw [← hp, Int.mul_comm]; exact (Int.natCast_mul c k).symm
  have h1 : lr c l k < 2 ^ c := lr_lt k
  have h2 : lr c l k ^^^ b < 2 ^ c := Nat.xor_lt_two_pow h1 hb
  have h3 : rt c own x < 2 ^ c := rt_lt hx
  have HR := Lib.hid (row_bits_min c l k p hc hl hp)
  have H1 := Lib.hid (i64_xor_nat (lr c l k) b (by omega) (by omega))
  have H2 := Lib.hid (i64_xor_nat (lr c l k ^^^ b) (rt c own x) (by omega) (by omega))
  clear hp h16 h1 h2 h3
  go_enter Try.func51, Try.ntmps51
  go_wp2
  go_quiet (fail)
  rw [HR.out]
  go_wp2_with (go_at_call 52; refine (rowToggles_any _ _ _ _ hc hx).mono ?_; rintro e w' ⟨rfl, rfl⟩)
  go_ret
  refine ⟨ret_int ?_, below_drewN (by go_grown) _⟩
  rw [H1.out, H2.out]
end Go.Proofs.Ytmcimfblhpflnaa
