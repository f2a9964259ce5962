import Derived.Test.YtmcimfblhpflnaaRE
namespace Go.Proofs.Ytmcimfblhpflnaa
open Go.RowKit
set_option maxHeartbeats 1000000
theorem chase_step {c l f k : Nat} {own : Bool} (hc : c ≤ 16) (hf : f < 2 ^ c) :
    bits .xor .i64 (bits .xor .i64 ((lr c l k : Nat) : Int) ((rt c own (prw c own l f k) : Nat) : Int)) ((prb c own l f k : Nat) : Int) = (prw c own l f (k + 1) : Nat) := by
  have h0 := pow16n hc
  have h1 : lr c l k < 2 ^ c := lr_lt k
  have h2 : rt c own (prw c own l f k) < 2 ^ c := rt_lt (prw_lt hf k)
  have h3 : prb c own l f k < 2 ^ c := prb_lt hf k
  have h4 : lr c l k ^^^ rt c own (prw c own l f k) < 2 ^ c := Nat.xor_lt_two_pow h1 h2
  rw [i64_xor_nat _ _ (by omega) (by omega), i64_xor_nat _ _ (by omega) (by omega), prw_succ]
  congr 1
  simp only [Nat.xor_assoc, Nat.xor_comm (rt c own (prw c own l f k))]
end Go.Proofs.Ytmcimfblhpflnaa
