/-
Texts joined: TB TC TE TF TG.
-/
import Derived.Test.YtdpoceijnbbmgaaDoorTA
import Derived.Test.YtdpoceijnbbmgaaDoorZa
namespace Go.Proofs.YtdpoceijnbbmgaaDoor.T
open Go.RowKit
set_option maxHeartbeats 1000000
theorem pow42 {n : Nat} (h : n ≤ 42) : 2 ^ n ≤ 4398046511104 := by
  have h1 : 2 ^ n ≤ 2 ^ 42 := Nat.pow_le_pow_right (by decide) h
  exact h1
theorem bl42 {x : Nat} (h : x < 4398046511104) : bl x ≤ 42 := bl_le.2 h
theorem wrap_sh (q k : Nat) (h : q * 2 ^ k < 4398046511104) : RowKit.wrap64 ((q : Int) * 2 ^ k) = ((q * 2 ^ k : Nat) : Int) := by
  rw [← pow_nat, ← Int.natCast_mul]
  exact IntWalk.wrap64_in _ (by omega)
theorem wrap_p (k : Nat) (h : k < 42) : RowKit.wrap64 (2 ^ k) = ((2 ^ k : Nat) : Int) := by
  have h1 := pow42 (show k ≤ 42 by omega)
  rw [← pow_nat]
  generalize 2 ^ k = x at h1
  exact IntWalk.wrap64_in _ (by omega)
theorem p2_42 {k : Nat} (h : k < 42) : 2 ^ k < 4398046511104 := by
  have h1 : 2 ^ k < 2 ^ 42 := Nat.pow_lt_pow_right (by decide) h
  exact h1
theorem or42 {a b : Nat} (ha : a < 4398046511104) (hb : b < 4398046511104) : a ||| b < 4398046511104 := by
  have : a ||| b < 2 ^ 42 := Nat.or_lt_two_pow (by omega) (by omega)
  omega
theorem xor42 {a b : Nat} (ha : a < 4398046511104) (hb : b < 4398046511104) : a ^^^ b < 4398046511104 := by
  have : a ^^^ b < 2 ^ 42 := Nat.xor_lt_two_pow (by omega) (by omega)
  omega
theorem or_p (O k : Nat) (hO : O < 4398046511104) (hk : 2 ^ k < 4398046511104) : bits .or .i64 (O : Int) (RowKit.wrap64 (2 ^ k)) = ((O ||| 2 ^ k : Nat) : Int) := by
  rw [← pow_nat]
  generalize 2 ^ k = x at hk
  rw [IntWalk.wrap64_in _ (by omega)]; exact i64_or_nat _ _ (by omega) (by omega)
theorem xor_p (a b : Nat) (ha : a < 4398046511104) (hb : b < 4398046511104) : bits .xor .i64 (a : Int) (b : Int) = ((a ^^^ b : Nat) : Int) := i64_xor_nat _ _ (by omega) (by omega)
theorem xor_sh (a q k : Nat) (ha : a < 4398046511104) (h : q * 2 ^ k < 4398046511104) : bits .xor .i64 (a : Int) (RowKit.wrap64 ((q : Int) * 2 ^ k)) = ((a ^^^ q * 2 ^ k : Nat) : Int) := by
  rw [wrap_sh q k h]; exact xor_p a _ ha h
theorem poDivide_any (p q : Nat) (w : World) (hp : p < 4398046511104) (hq : q < 4398046511104) (h0 : q ≠ 0) :
    Calls Tryd.prog 61 #[.int .i64 p, .int .i64 q] w fun e w' => e = .returned (.tuple #[.int .i64 (qu p q : Nat), .int .i64 (rm p q : Nat)]) ∧ w' = w := by
  obtain ⟨b, hb⟩ : ∃ b, bl p = b := ⟨_, rfl⟩
  obtain ⟨d, hd⟩ : ∃ d, bl q = d + 1 := ⟨bl q - 1, by have : bl q ≠ 0 := fun e => h0 (bl_eq_zero.1 e); omega⟩
  have hb42 := bl42 hp
  have hd42 := bl42 hq
  rw [hb] at hb42
  rw [hd] at hd42
  have hd' : ((bl q : Int) - 1) = (d : Int) := by rw [hd]; omega
  have hb' : ((bl p : Int) - 1) = (b : Int) - 1 := by rw [hb]
  have HD := hide hd'
  have HBp := hide hb'
  have HQ := hide (show q < 2 ^ (d + 1) by rw [← hd]; exact lt_bl q)
  have HT := hide (show q.testBit d = true from bl_bit hd)
  have HE := hide (show dvk q d (b - d) 0 p = (qu p q, rm p q) by show _ = dv p q; unfold dv; rw [hb, hd]; rfl)
  have HP := hide (show p < 2 ^ (b - d + d) from Nat.lt_of_lt_of_le (lt_bl p) (Nat.pow_le_pow_right (by decide) (by omega)))
  clear hb hd hd' hb'
  go_enter Tryd.func61, Tryd.ntmps61
  go_wp2_with (go_at_call 90; refine (poDegree_any _ _ (by omega)).mono ?_; rintro e w3 ⟨rfl, rfl⟩; first | rw [HD.out] | rw [HBp.out])
  go_loop [0, 6, 7] (fun x o k => ∃ (z : Int) (P O : Nat), k = .int .i64 z ∧ x = .int .i64 P ∧ o = .int .i64 O ∧ -43 ≤ z ∧ z + d < 42 ∧ O < 4398046511104 ∧ Hid (P < 2 ^ ((z + 1).toNat + d) ∧ dvk q d (z + 1).toNat O P = (qu p q, rm p q))) (fun _ _ k => (intOf k + 1).toNat)
  case atStart => exact ⟨_, p, 0, rfl, rfl, rfl, by omega, by omega, by omega, hide (by rw [show ((b : Int) - 1 - d + 1).toNat = b - d by omega]; exact ⟨HP.out, HE.out⟩)⟩
  case round =>
    obtain ⟨z, P, O, rfl, rfl, rfl, hz1, hz2, hO, HI⟩ := hrel
    by_cases hz : 0 ≤ z
    · obtain ⟨k, rfl⟩ : ∃ k : Nat, z = k := ⟨z.toNat, by omega⟩
      have hi := HI.out
      rw [show ((k : Int) + 1).toNat = k + 1 by omega] at hi
      have hP : P < 2 ^ (k + d + 1) := by rw [show k + d + 1 = k + 1 + d by omega]; exact hi.1
      have hP42 : P < 4398046511104 := Nat.lt_of_lt_of_le hP (pow42 (by omega))
      cases hb : P.testBit (k + d)
      · have HN : Hid (P < 2 ^ (k + d) ∧ dvk q d k O P = (qu p q, rm p q)) := hide ⟨lt_of_no_bit hP hb, by rw [← dvk_no hb]; exact hi.2⟩
        have HB := hide hb
        clear hi hP hb HI
        go_wp2_with (first | (go_at_call 90; refine (poDegree_any _ _ (by omega)).mono ?_; rintro e w3 ⟨rfl, rfl⟩; rw [HD.out]) | (go_at_call 79; refine (grIn_any _ _ (by omega) (by omega) _).mono ?_; rintro e w3 ⟨rfl, rfl⟩; rw [show ((k : Int) + d).toNat = k + d by omega, HB.out]))
        go_round
        case rel => exact ⟨(k : Int) - 1, P, O, by go_num, rfl, rfl, by omega, by omega, hO, hide (by rw [show ((k : Int) - 1 + 1).toNat = k by omega]; exact HN.out)⟩
        case measure => simp [intOf] <;> omega
      · have hsh := sh_lt' (k := k) HQ.out
        have hsh42 : q * 2 ^ k < 4398046511104 := Nat.lt_of_lt_of_le hsh (pow42 (by omega))
        have HN : Hid (P ^^^ q * 2 ^ k < 2 ^ (k + d) ∧ dvk q d k (O ||| 2 ^ k) (P ^^^ q * 2 ^ k) = (qu p q, rm p q)) := hide ⟨step_lt HQ.out HT.out hP hb, by rw [← dvk_yes hb]; exact hi.2⟩
        have HB := hide hb
        have hk2 := p2_42 (show k < 42 by omega)
        have e3 := xor_sh P q k hP42 hsh42
        have e4 := or_p O k hO hk2
        have hO2 := or42 hO hk2
        clear hi hP hb HI hsh
        go_wp2_with (first | (go_at_call 90; refine (poDegree_any _ _ (by omega)).mono ?_; rintro e w3 ⟨rfl, rfl⟩; rw [HD.out]) | (go_at_call 79; refine (grIn_any _ _ (by omega) (by omega) _).mono ?_; rintro e w3 ⟨rfl, rfl⟩; rw [show ((k : Int) + d).toNat = k + d by omega, HB.out]))
        go_round
        case rel => exact ⟨(k : Int) - 1, P ^^^ q * 2 ^ k, O ||| 2 ^ k, by go_num, rfl, rfl, by omega, by omega, hO2, hide (by rw [show ((k : Int) - 1 + 1).toNat = k by omega]; exact HN.out)⟩
        case measure => simp [intOf] <;> omega
    · have hi := HI.out.2
      rw [show (z + 1).toNat = 0 by omega, dvk_zero] at hi
      injection hi with h1 h2
      have H1 := hide h1
      have H2 := hide h2
      clear HI h1 h2
      go_wp2
      go_ret2
      refine ⟨?_, rfl⟩
      rw [← H1.out, ← H2.out]
      rfl
end Go.Proofs.YtdpoceijnbbmgaaDoor.T
namespace Go.Proofs.YtdpoceijnbbmgaaDoor.T
open Go.RowKit
set_option maxHeartbeats 1000000
end Go.Proofs.YtdpoceijnbbmgaaDoor.T
namespace Go.Proofs.YtdpoceijnbbmgaaDoor.T
open Go.RowKit
set_option maxHeartbeats 1000000
theorem gcf_lt {n p q : Nat} (hp : p < 4398046511104) (hq : q < 4398046511104) : gcf n p q < 4398046511104 := by
  induction n generalizing p q with
  | zero => exact hp
  | succ n ih =>
    rw [gcf]
    split
    · exact hp
    · rename_i h; exact ih hq (Nat.lt_trans (rm_lt_self h) hq)
theorem poGcd_any (p q : Nat) (w : World) (hp : p < 4398046511104) (hq : q < 4398046511104) :
    Calls Tryd.prog 62 #[.int .i64 p, .int .i64 q] w fun e w' => e = .returned (.int .i64 (gcf q p q : Nat)) ∧ w' = w := by
  obtain ⟨G, hG⟩ : ∃ G, gcf q p q = G := ⟨_, rfl⟩
  have HG := hide hG
  rw [hG]
  clear hG
  go_enter Tryd.func62, Tryd.ntmps62
  go_wp2
  go_loop [0, 1] (fun x y => ∃ (P Q : Nat), x = .int .i64 P ∧ y = .int .i64 Q ∧ P < 4398046511104 ∧ Q < 4398046511104 ∧ Hid (∃ n, Q ≤ n ∧ gcf n P Q = G)) (fun _ y => (intOf y).toNat)
  case atStart => exact ⟨p, q, rfl, rfl, hp, hq, hide ⟨q, Nat.le_refl _, HG.out⟩⟩
  case round =>
    obtain ⟨P, Q, rfl, rfl, hP, hQ, HI⟩ := hrel
    by_cases h0 : Q = 0
    · subst h0
      have he : P = G := by obtain ⟨n, _, e⟩ := HI.out; rw [gcf_zero] at e; exact e
      subst he
      go_wp2
      go_ret
      exact ⟨rfl, rfl⟩
    · have hpos : 0 < Q := by omega
      have hlt := rm_lt_self (p := P) h0
      have HN : Hid (∃ n, rm P Q ≤ n ∧ gcf n Q (rm P Q) = G) := hide (by
        obtain ⟨n, hn, e⟩ := HI.out
        obtain ⟨m, rfl⟩ : ∃ m, n = m + 1 := ⟨n - 1, by omega⟩
        rw [gcf_step h0] at e
        exact ⟨m, by omega, e⟩)
      obtain ⟨R, hR⟩ : ∃ R, rm P Q = R := ⟨_, rfl⟩
      rw [hR] at HN hlt
      have HR := hide hR
      clear hR HI
      go_wp2_with (go_at_call 61; refine (poDivide_any _ _ _ hP hQ h0).mono ?_; rintro e w3 ⟨rfl, rfl⟩; rw [HR.out])
      go_round
      case rel => exact ⟨Q, R, rfl, rfl, hQ, by omega, HN⟩
      case measure => simp [intOf] <;> omega
end Go.Proofs.YtdpoceijnbbmgaaDoor.T
namespace Go.Proofs.YtdpoceijnbbmgaaDoor.T
open Go.RowKit
set_option maxHeartbeats 1000000
theorem poTimes_any (p q n m : Nat) (w : World) (hp : p < 2 ^ m) (hq : q < 2 ^ n) (hmn : m + n ≤ 61) :
    Calls Tryd.prog 63 #[.int .i64 p, .int .i64 q] w fun e w' => e = .returned (.int .i64 (cm n p q : Nat)) ∧ w' = w := by
  obtain ⟨G, hG⟩ : ∃ G, cm n p q = G := ⟨_, rfl⟩
  have HG := hide hG
  have HP := hide hp
  have HQ := hide hq
  rw [hG]
  clear hG hp hq
  go_enter Tryd.func63, Tryd.ntmps63
  go_wp2
  go_loop [0, 1, 5] (fun x y o => ∃ (P Q O k : Nat), x = .int .i64 P ∧ y = .int .i64 Q ∧ o = .int .i64 O ∧ k ≤ n ∧ Hid (P < 2 ^ (m + n - k) ∧ Q < 2 ^ k ∧ O < 2 ^ 61 ∧ O ^^^ cm k P Q = G)) (fun _ y _ => (intOf y).toNat)
  case atStart => exact ⟨p, q, 0, n, rfl, rfl, rfl, Nat.le_refl _, hide ⟨by rw [Nat.add_sub_cancel]; exact HP.out, HQ.out, by decide, by rw [Nat.zero_xor]; exact HG.out⟩⟩
  case round =>
    obtain ⟨P, Q, O, k, rfl, rfl, rfl, hk, HI⟩ := hrel
    obtain ⟨h1, h2, h3, h4⟩ := HI.out
    by_cases h0 : Q = 0
    · subst h0
      have he : O = G := by rw [cm_zero, Nat.xor_zero] at h4; exact h4
      subst he
      clear h1 h2 h3 h4 HI
      go_wp2
      go_ret
      exact ⟨rfl, rfl⟩
    · have hpos : 0 < Q := by omega
      have hk0 : k ≠ 0 := by rintro rfl; rw [Nat.pow_zero] at h2; omega
      obtain ⟨j, rfl⟩ : ∃ j, k = j + 1 := ⟨k - 1, by omega⟩
      have h5 : P < 2 ^ 60 := Nat.lt_of_lt_of_le h1 (Nat.pow_le_pow_right (by decide) (by omega))
      have h5' : P < 1152921504606846976 := h5
      have h3' : O < 2305843009213693952 := h3
      have h2' : Q < 2305843009213693952 := Nat.lt_of_lt_of_le h2 (Nat.pow_le_pow_right (n := 2) (j := 61) (by decide) (by omega))
      have h6 : Q / 2 < 2 ^ j := by rw [Nat.pow_succ] at h2; omega
      have h7 : P * 2 < 2 ^ (m + n - j) := by rw [show m + n - j = m + n - (j + 1) + 1 by omega, Nat.pow_succ]; omega
      rcases Nat.mod_two_eq_zero_or_one Q with hm | hm
      · have HN : Hid (P * 2 < 2 ^ (m + n - j) ∧ Q / 2 < 2 ^ j ∧ O < 2 ^ 61 ∧ O ^^^ cm j (P * 2) (Q / 2) = G) := hide ⟨h7, h6, h3, by rw [cm_even hm] at h4; exact h4⟩
        clear h1 h2 h3 h4 HI h6 h7 h5
        have e1 : ((Q : Int).tmod 2 == 1) = false := by rw [Int.tmod_eq_emod_of_nonneg (by omega)]; simp; omega
        go_wp2
        go_round
        case rel => exact ⟨P * 2, Q / 2, O, j, by go_num, by go_num, rfl, by omega, HN⟩
        case measure => simp [intOf] <;> omega
      · have h8 : O ^^^ P < 2 ^ 61 := Nat.xor_lt_two_pow h3 (by omega)
        have HN : Hid (P * 2 < 2 ^ (m + n - j) ∧ Q / 2 < 2 ^ j ∧ O ^^^ P < 2 ^ 61 ∧ (O ^^^ P) ^^^ cm j (P * 2) (Q / 2) = G) := hide ⟨h7, h6, h8, by rw [cm_odd hm, ← Nat.xor_assoc] at h4; exact h4⟩
        have e2 := i64_xor_nat O P (by omega) (by omega)
        clear h1 h2 h3 h4 HI h6 h7 h5 h8
        have e1 : ((Q : Int).tmod 2 == 1) = true := by rw [Int.tmod_eq_emod_of_nonneg (by omega)]; simp; omega
        go_wp2
        go_round
        case rel => exact ⟨P * 2, Q / 2, O ^^^ P, j, by go_num, by go_num, rfl, by omega, HN⟩
        case measure => simp [intOf] <;> omega
end Go.Proofs.YtdpoceijnbbmgaaDoor.T
namespace Go.Proofs.YtdpoceijnbbmgaaDoor.T
open Go.RowKit
set_option maxHeartbeats 1000000
/-- The sum of the first n. -/
def xs (F : Nat → Nat) : Nat → Nat
  | 0 => 0
  | n + 1 => xs F n ^^^ F n
theorem xs_lt {F : Nat → Nat} {n m : Nat} (h : ∀ k, k < n → F k < 2 ^ m) : xs F n < 2 ^ m := by
  induction n with
  | zero => exact Nat.two_pow_pos _
  | succ n ih => exact Nat.xor_lt_two_pow (ih (fun k hk => h k (by omega))) (h n (by omega))
theorem sum_any (A : Option Addr) (n c : Nat) (F : Nat → Nat) (w : World) (hn : n ≤ 1048576) (hs : Src w A n (fun k => .int .i64 (F k : Nat))) (hF : ∀ k, k < n → F k < 2 ^ 62) :
    Calls Tryd.prog 75 #[.slice A n c] w fun e w' => e = .returned (.int .i64 (xs F n : Nat)) ∧ w' = w := by
  have HS := hide hs
  have HF := hide hF
  clear hs hF
  go_enter Tryd.func75, Tryd.ntmps75
  go_wp2
  go_loop [3, 8] (fun o i => ∃ k : Nat, k ≤ n ∧ i = .int .i64 k ∧ o = .int .i64 (xs F k : Nat)) (fun _ i => n - (intOf i).toNat)
  case atStart => exact ⟨0, Nat.zero_le _, rfl, rfl⟩
  case round =>
    obtain ⟨k, hk, rfl, rfl⟩ := hrel
    by_cases hlt : k < n
    · obtain ⟨b, off, hA, hbl, hc⟩ := HS.out k hlt
      have h1 : xs F k < 4611686018427387904 := xs_lt (m := 62) (fun j hj => HF.out j (by omega))
      have h2 : F k < 4611686018427387904 := HF.out k hlt
      have e3 := i64_xor_nat (xs F k) (F k) (by omega) (by omega)
      subst hA
      go_wp2
      go_round
      case rel => exact ⟨k + 1, by omega, by go_num, rfl⟩
      case measure => simp [intOf] <;> omega
    · have : k = n := by omega
      subst this
      go_wp2
      go_ret
      exact ⟨rfl, rfl⟩
/-- Three numbers in memory that has just been made. -/
def f3 (a b c : Nat) : Nat → Nat := fun k => if k = 0 then a else if k = 1 then b else c
theorem src3 (w : World) (a b c : Nat) : Src (w.alloc (.cells #[.int .i64 (a : Nat), .int .i64 (b : Nat), .int .i64 (c : Nat)] 3)) (some ⟨w.heap.size, 0, none⟩) 3 (fun k => .int .i64 (f3 a b c k : Nat)) := by
  apply Src.of_arr
  refine (Arr.new w #[.int .i64 (a : Nat), .int .i64 (b : Nat), .int .i64 (c : Nat)] 3 (fun k => .int .i64 (f3 a b c k : Nat)) ?_)
  intro i hi
  match i, hi with
  | 0, _ => rfl
  | 1, _ => rfl
  | 2, _ => rfl
theorem xs3 (a b c : Nat) : xs (f3 a b c) 3 = a ^^^ b ^^^ c := by
  show ((0 ^^^ a) ^^^ b) ^^^ c = _
  rw [Nat.zero_xor]
theorem hs_go {p i o : Nat} : hs p (i + 1) o = hs p i (o * 2 ^^^ o ^^^ (if p.testBit i then 1 else 0)) := by
  rw [hs, Nat.xor_comm o (o * 2)]
theorem bit_and (p i : Nat) (hp : p < 4611686018427387904) : bits .and .i64 ((p : Int) / 2 ^ i) 1 = ((if p.testBit i then 1 else 0 : Nat) : Int) := by
  rw [bits_and_one, Nat.testBit_eq_decide_div_mod_eq, ← pow_nat]
  by_cases h : p / 2 ^ i % 2 = 1
  · simp only [h, decide_true, if_true]; omega
  · simp only [h, decide_false, Bool.false_eq_true, if_false]; omega
end Go.Proofs.YtdpoceijnbbmgaaDoor.T
