import Derived.Test.YtibikoajejfdeaaDoorTF
namespace Go.Proofs.YtibikoajejfdeaaDoor
open Go.RowKit
set_option maxHeartbeats 1000000
/-- The sum of the first n. -/
def xs (F : Nat → Nat) : Nat → Nat
  | 0 => 0
  | n + 1 => xs F n ^^^ F n
theorem xs_lt {F : Nat → Nat} {n m : Nat} (h : ∀ k, k < n → F k < 2 ^ m) : xs F n < 2 ^ m := by
  induction n with
  | zero => exact Nat.two_pow_pos _
  | succ n ih => exact Nat.xor_lt_two_pow (ih (fun k hk => h k (by omega))) (h n (by omega))
theorem sum_any (A : Option Addr) (n c : Nat) (F : Nat → Nat) (w : World) (hn : n ≤ 1048576) (hs : Src w A n (fun k => .int .i64 (F k : Nat))) (hF : ∀ k, k < n → F k < 2 ^ 62) :
    Calls Tryd.prog 37 #[.slice A n c] w fun e w' => e = .returned (.int .i64 (xs F n : Nat)) ∧ w' = w := by
  have HS := hide hs
  have HF := hide hF
  clear hs hF
  go_enter Tryd.func37, Tryd.ntmps37
  go_wp2
  go_loop [3, 8] (fun o i => ∃ k : Nat, k ≤ n ∧ i = .int .i64 k ∧ o = .int .i64 (xs F k : Nat)) (fun _ i => n - (intOf i).toNat)
  case atStart => exact ⟨0, Nat.zero_le _, rfl, rfl⟩
  case round =>
    obtain ⟨k, hk, rfl, rfl⟩ := hrel
    by_cases hlt : k < n
    · obtain ⟨b, off, hA, hbl, hc⟩ := HS.out k hlt
      have h1 : xs F k < 4611686018427387904 := xs_lt (m := 62) (fun j hj => HF.out j (by omega))
      have h2 : F k < 4611686018427387904 := HF.out k hlt
      have e3 := i64_xor_nat (xs F k) (F k) (by omega) (by omega)
      subst hA
      go_wp2
      go_round
      case rel => exact ⟨k + 1, by omega, by go_num, rfl⟩
      case measure => simp [intOf] <;> omega
    · have : k = n := by omega
      subst this
      go_wp2
      go_ret
      exact ⟨rfl, rfl⟩
/-- Three numbers in memory that has just been made. -/
def f3 (a b c : Nat) : Nat → Nat := fun k => if k = 0 then a else if k = 1 then b else c
theorem src3 (w : World) (a b c : Nat) : Src (w.alloc (.cells #[.int .i64 (a : Nat), .int .i64 (b : Nat), .int .i64 (c : Nat)] 3)) (some ⟨w.heap.size, 0, none⟩) 3 (fun k => .int .i64 (f3 a b c k : Nat)) := by
  apply Src.of_arr
  refine (Arr.new w #[.int .i64 (a : Nat), .int .i64 (b : Nat), .int .i64 (c : Nat)] 3 (fun k => .int .i64 (f3 a b c k : Nat)) ?_)
  intro i hi
  match i, hi with
  | 0, _ => rfl
  | 1, _ => rfl
  | 2, _ => rfl
theorem xs3 (a b c : Nat) : xs (f3 a b c) 3 = a ^^^ b ^^^ c := by
  show ((0 ^^^ a) ^^^ b) ^^^ c = _
  rw [Nat.zero_xor]
theorem hs_go {p i o : Nat} : hs p (i + 1) o = hs p i (o * 2 ^^^ o ^^^ (if p.testBit i then 1 else 0)) := by
  rw [hs, Nat.xor_comm o (o * 2)]
theorem bit_and (p i : Nat) (hp : p < 4611686018427387904) : bits .and .i64 ((p : Int) / 2 ^ i) 1 = ((if p.testBit i then 1 else 0 : Nat) : Int) := by
  rw [bits_and_one, Nat.testBit_eq_decide_div_mod_eq, ← pow_nat]
  by_cases h : p / 2 ^ i % 2 = 1
  · simp only [h, decide_true, if_true]; omega
  · simp only [h, decide_false, Bool.false_eq_true, if_false]; omega
end Go.Proofs.YtibikoajejfdeaaDoor
