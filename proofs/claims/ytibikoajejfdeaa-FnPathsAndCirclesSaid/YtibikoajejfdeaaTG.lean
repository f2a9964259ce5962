import Derived.Test.YtibikoajejfdeaaTF
namespace Go.Proofs.Ytibikoajejfdeaa.T
open Go.RowKit
set_option maxHeartbeats 1000000
/-- The sum of the first n. -/
def xs (F : Nat → Nat) : Nat → Nat
  | 0 => 0
  | n + 1 => xs F n ^^^ F n
theorem xs_lt {F : Nat → Nat} {n m : Nat} (h : ∀ k, k < n → F k < 2 ^ m) : xs F n < 2 ^ m := by
  induction n with
  | zero => exact Nat.two_pow_pos _
  | succ n ih => exact Nat.xor_lt_two_pow (ih (fun k hk => h k (by omega))) (h n (by omega))
theorem sum_any (A : Option Addr) (n c : Nat) (F : Nat → Nat) (w : World) (hn : n ≤ 1048576) (hs : Src w A n (fun k => .int .i64 (F k : Nat))) (hF : ∀ k, k < n → F k < 2 ^ 62) :
    Calls Try.prog 35 #[.slice A n c] w fun e w' => e = .returned (.int .i64 (xs F n : Nat)) ∧ w' = w := by
  have HS := hide hs
  have HF := hide hF
  clear hs hF
  go_enter Try.func35, Try.ntmps35
  go_wp2
  go_loop [3, 8] (fun o i => ∃ k : Nat, k ≤ n ∧ i = .int .i64 k ∧ o = .int .i64 (xs F k : Nat)) (fun _ i => n - (intOf i).toNat)
  case atStart => exact ⟨0, Nat.zero_le _, rfl, rfl⟩
  case round =>
    obtain ⟨k, hk, rfl, rfl⟩ := hrel
    by_cases hlt : k < n
    · obtain ⟨b, off, hA, hbl, hc⟩ := HS.out k hlt
      have h1 : xs F k < 4611686018427387904 := xs_lt (m := 62) (fun j hj => HF.out j (by omega))
      have h2 : F k < 4611686018427387904 := HF.out k hlt
      have e3 := i64_xor_nat (xs F k) (F k) (by omega) (by omega)
      subst hA
      go_wp2
      go_round
      case rel => exact ⟨k + 1, by omega, by go_num, rfl⟩
      case measure => simp [intOf] <;> omega
    · have : k = n := by omega
      subst this
      go_wp2
      go_ret
      exact ⟨rfl, rfl⟩
/-- Three numbers in memory that has just been made. -/
def f3 (a b c : Nat) : Nat → Nat := fun k => if k = 0 then a else if k = 1 then b else c
theorem src3 (w : World) (a b c : Nat) : Src (w.alloc (.cells #[.int .i64 (a : Nat), .int .i64 (b : Nat), .int .i64 (c : Nat)] 3)) (some ⟨w.heap.size, 0, none⟩) 3 (fun k => .int .i64 (f3 a b c k : Nat)) := by
  apply Src.of_arr
  refine (Arr.new w #[.int .i64 (a : Nat), .int .i64 (b : Nat), .int .i64 (c : Nat)] 3 (fun k => .int .i64 (f3 a b c k : Nat)) ?_)
  intro i hi
  match i, hi with
  | 0, _ => rfl
  | 1, _ => rfl
  | 2, _ => rfl
theorem xs3 (a b c : Nat) : xs (f3 a b c) 3 = a ^^^ b ^^^ c := by
  show ((0 ^^^ a) ^^^ b) ^^^ c = _
  rw [Nat.zero_xor]
theorem hs_go {p i o : Nat} : hs p (i + 1) o = hs p i (o * 2 ^^^ o ^^^ (if p.testBit i then 1 else 0)) := by
  rw [hs, Nat.xor_comm o (o * 2)]
theorem bit_and (p i : Nat) (hp : p < 4611686018427387904) : bits .and .i64 ((p : Int) / 2 ^ i) 1 = ((if p.testBit i then 1 else 0 : Nat) : Int) := by
  rw [bits_and_one, Nat.testBit_eq_decide_div_mod_eq, ← pow_nat]
  by_cases h : p / 2 ^ i % 2 = 1
  · simp only [h, decide_true, if_true]; omega
  · simp only [h, decide_false, Bool.false_eq_true, if_false]; omega
theorem shImpl_no (p : Int) (w : World) (HA : Hid (inB p 0 2199023255551 = false)) :
    Calls Try.prog 24 #[.int .i64 p] w fun e w' => e = .returned (.tuple #[.int .i64 0, .bool false]) ∧ w' = w := by
  go_enter Try.func24, Try.ntmps24
  go_wp2_with (first | (go_at_call 34; refine (isPoly_any _ _).mono ?_; rintro e w' ⟨rfl, rfl⟩; first | rw [HA.out]))
  go_ret2
  exact ⟨rfl, rfl⟩
theorem shImpl_ok (p : Nat) (w : World) (hp : p < 2199023255552) (HA : Hid (inB p 0 2199023255551 = true)) :
    Calls Try.prog 24 #[.int .i64 p] w fun e w' => e = .returned (.tuple #[.int .i64 (hs p (bl p) 0 : Nat), .bool true]) ∧ Below w.heap.size w w' := by
  have hb := bl_le (p := p) (n := 41) |>.2 (by omega)
  obtain ⟨b, hbe⟩ : ∃ b, bl p = b := ⟨_, rfl⟩
  rw [hbe] at hb
  obtain ⟨G, hG⟩ : ∃ G, hs p (bl p) 0 = G := ⟨_, rfl⟩
  rw [hG]
  rw [hbe] at hG
  have HB := hide hbe
  have HG := hide hG
  clear hbe hG
  go_enter Try.func24, Try.ntmps24
  go_wp2_with (first | (go_at_call 34; refine (isPoly_any _ _).mono ?_; rintro e w' ⟨rfl, hw⟩; subst w'; rw [HA.out]) | (go_at_call 26; refine (degree_any _ _ (by omega)).mono ?_; rintro e w3 ⟨rfl, hw⟩; subst w3; rw [HB.out]))
  go_loopw [4, 5] (fun o k wr => ∃ (j O : Nat), j ≤ b ∧ o = .int .i64 O ∧ k = .int .i64 ((j : Int) - 1) ∧ Hid (O < 2 ^ (b - j) ∧ hs p j O = G) ∧ Below w.heap.size w wr) (fun _ k _ => (intOf k + 1).toNat)
  case atStart => exact ⟨b, 0, Nat.le_refl _, rfl, rfl, hide ⟨by rw [Nat.sub_self]; decide, HG.out⟩, Below.refl _ _⟩
  case round =>
    obtain ⟨j, O, hj, rfl, rfl, HI, hbw⟩ := hrel
    obtain ⟨h1, h2⟩ := HI.out
    by_cases h0 : j = 0
    · subst h0
      have he : O = G := h2
      subst he
      clear h1 h2 HI
      go_wp2
      go_ret2
      exact ⟨rfl, hbw⟩
    · obtain ⟨i, rfl⟩ : ∃ i, j = i + 1 := ⟨j - 1, by omega⟩
      have ei : ((i + 1 : Nat) : Int) - 1 = (i : Int) := by omega
      rw [ei]
      have h3 : O < 1099511627776 := Nat.lt_of_lt_of_le h1 (Nat.pow_le_pow_right (n := 2) (j := 40) (by decide) (by omega))
      have h4 := hs_step_lt h1
      have h5 := hs_step_lt1 h1
      rw [show b - (i + 1) + 1 = b - i by omega] at h4 h5
      obtain ⟨t, ht⟩ : ∃ t : Nat, (if p.testBit i then 1 else 0) = t := ⟨_, rfl⟩
      have hbit := bit_and p i (by omega)
      rw [ht] at hbit
      have ht1 : t < 2 := by rw [← ht]; split <;> omega
      rw [hs_go, ht] at h2
      have h6 : O * 2 ^^^ O ^^^ t < 2 ^ (b - i) := by
        rw [Nat.xor_comm (O * 2) O, ← ht]
        split
        · exact h5
        · rw [Nat.xor_zero]; exact h4
      have HN : Hid (O * 2 ^^^ O ^^^ t < 2 ^ (b - i) ∧ hs p i (O * 2 ^^^ O ^^^ t) = G) := hide ⟨h6, h2⟩
      have HBW := hide hbw
      have e2 : RowKit.wrap64 ((O : Int) * 2) = ((O * 2 : Nat) : Int) := by rw [IntWalk.wrap64_in _ (by omega)]; omega
      have hmn : min i 64 = i := by omega
      have hlt3 : ∀ k, k < 3 → f3 (O * 2) O t k < 2 ^ 62 := by
        intro k hk
        have : (2 : Nat) ^ 62 = 4611686018427387904 := rfl
        unfold f3; split
        · omega
        · split <;> omega
      have HL := hide hlt3
      clear h1 h2 HI h4 h5 h6 ei hbw ht hlt3
      go_wp2_with (first | (go_at_call 35; refine (sum_any _ 3 _ (f3 (O * 2) O t) _ (by omega) (src3 _ _ _ _) HL.out).mono ?_; rintro e w3 ⟨rfl, rfl⟩; rw [xs3]))
      go_roundw
      case rel => exact ⟨i, O * 2 ^^^ O ^^^ t, by omega, rfl, by go_num, HN, HBW.out.alloc HBW.out.size _⟩
      case measure => simp [intOf] <;> omega
end Go.Proofs.Ytibikoajejfdeaa.T
