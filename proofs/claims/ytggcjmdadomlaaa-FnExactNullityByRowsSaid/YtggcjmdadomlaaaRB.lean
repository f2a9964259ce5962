import Derived.Test.YtggcjmdadomlaaaRA
namespace Go.Proofs.Ytggcjmdadomlaaa
open Go.RowKit
set_option maxHeartbeats 1000000
theorem wrap_in {x : Int} (h : -9223372036854775808 ≤ x ∧ x ≤ 9223372036854775807) : IntKind.i64.wrap x = x := IntWalk.i64_in _ h
theorem csRow_any (c l r : Nat) (w : World) (hc : c ≤ 16) (hl : l < 9223372036854775808) (hr : r ≤ 1048576) :
    Calls Try.prog 93 #[.int .i64 c, .int .i64 l, .int .i64 r] w fun e w' => e = .returned (.int .i64 (lr c l r : Nat)) ∧ ∃ n, w' = w.drewN n := by
  obtain ⟨p, hp⟩ : ∃ p : Nat, c * r = p := ⟨_, rfl⟩
  have hpb : p ≤ 16777216 := by rw [← hp]; exact (Nat.mul_le_mul hc hr : c * r ≤ 16 * 1048576)
  have hrow := row_bits_min c l r p hc hl hp
  have hmul : (c : Int) * (r : Int) = (p : Int) := by rw [← hp]; exact (Int.natCast_mul c r).symm
  have HR := Lib.hid hrow
  clear hrow hp
  go_enter Try.func93, Try.ntmps93
  go_wp2
  go_quiet (fail)
  go_wp2
  go_ret
  refine ⟨ret_int ?_, _, rfl⟩
  exact HR.out
/-- A chase as a value. -/
def chV (R : Nat) (c : Nat) (own : Bool) (l : Nat) : Value := .agg #[.int .i64 R, .int .i64 c, .bool own, .int .i64 l]
theorem next_any (R c l k b x : Nat) (own : Bool) (w : World) (hc : c ≤ 16) (hl : l < 9223372036854775808) (hk : k ≤ 1048576) (hb : b < 2 ^ c) (hx : x < 2 ^ c) :
    Calls Try.prog 98 #[.agg #[.int .i64 R, .int .i64 c, .bool own, .int .i64 l], .int .i64 k, .int .i64 b, .int .i64 x] w fun e w' => e = .returned (.int .i64 (lr c l k ^^^ b ^^^ rt c own x : Nat)) ∧ Below w.heap.size w w' := by
  obtain ⟨p, hp⟩ : ∃ p : Nat, c * k = p := ⟨_, rfl⟩
  have h16 := pow16n hc
  have hpb : p ≤ 16777216 := by rw [← hp]; exact (Nat.mul_le_mul hc hk : c * k ≤ 16 * 1048576)
  have hmul : (k : Int) * (c : Int) = (p : Int) := by rw [← hp, Int.mul_comm]; exact (Int.natCast_mul c k).symm
  have h1 : lr c l k < 2 ^ c := lr_lt k
  have h2 : lr c l k ^^^ b < 2 ^ c := Nat.xor_lt_two_pow h1 hb
  have h3 : rt c own x < 2 ^ c := rt_lt hx
  have HR := Lib.hid (row_bits_min c l k p hc hl hp)
  have H1 := Lib.hid (i64_xor_nat (lr c l k) b (by omega) (by omega))
  have H2 := Lib.hid (i64_xor_nat (lr c l k ^^^ b) (rt c own x) (by omega) (by omega))
  clear hp h16 h1 h2 h3
  go_enter Try.func98, Try.ntmps98
  go_wp2
  go_quiet (fail)
  rw [HR.out]
  go_wp2_with (go_at_call 80; refine (rowToggles_any _ _ _ _ hc hx).mono ?_; rintro e w' ⟨rfl, rfl⟩)
  go_ret
  refine ⟨ret_int ?_, below_drewN (by go_grown) _⟩
  rw [H1.out, H2.out]
end Go.Proofs.Ytggcjmdadomlaaa
