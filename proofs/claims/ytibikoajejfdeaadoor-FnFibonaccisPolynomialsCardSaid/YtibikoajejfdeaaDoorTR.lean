import Derived.Test.YtibikoajejfdeaaDoorTK
import Derived.Test.YtibikoajejfdeaaDoorTQ
namespace Go.Proofs.YtibikoajejfdeaaDoor
open Go.RowKit
set_option maxHeartbeats 1000000
theorem index_at (A : Option Addr) (n c k : Nat) (F : Nat → Nat) (w : World) (hn : n ≤ 1048576) (hs : Src w A n (fun k => .int .i64 (F k : Nat))) (hk : k < n) (h0 : F k = 0) (h1 : ∀ j, j < k → F j ≠ 0) :
    Calls Tryd.prog 29 #[.slice A n c, .int .i64 0] w fun e w' => e = .returned (.int .i64 k) ∧ w' = w := by
  have HS := hide hs
  have H1 := hide h1
  have H0 := hide h0
  clear hs h1 h0
  go_enter Tryd.func29, Tryd.ntmps29
  go_wp2
  go_loop [8] (fun i => ∃ j : Nat, j ≤ k ∧ i = .int .i64 j) (fun i => k - (intOf i).toNat)
  case atStart => exact ⟨0, Nat.zero_le _, rfl⟩
  case round =>
    obtain ⟨j, hj, rfl⟩ := hrel
    obtain ⟨b, off, hA, hbl, hc⟩ := HS.out j (by omega)
    replace hc : w.cell? ⟨b, off + j, none⟩ = some (.int .i64 (F j : Nat)) := hc
    obtain ⟨X, hX⟩ : ∃ X, F j = X := ⟨_, rfl⟩
    rw [hX] at hc
    subst hA
    have hjn : (j : Int) < n := by omega
    by_cases hjk : j = k
    · have hX0 : X = 0 := by rw [← hX, hjk]; exact H0.out
      rw [hX0] at hc
      have hc' : w.cell? ⟨b, off + j, none⟩ = some (.int .i64 0) := hc
      have HJ := hide hjk
      clear hX hX0 hc hjk
      go_wp2
      go_ret
      exact ⟨by rw [← HJ.out]; rfl, rfl⟩
    · have hX0 : X ≠ 0 := by rw [← hX]; exact H1.out j (by omega)
      have e1 : ((0 : Int) == (X : Int)) = false := by simp; omega
      clear hX
      go_wp2
      go_round
      case rel => exact ⟨j + 1, by omega, by go_num⟩
      case measure => simp [intOf] <;> omega
theorem index_none (A : Option Addr) (n c : Nat) (F : Nat → Nat) (w : World) (hn : n ≤ 1048576) (hs : Src w A n (fun k => .int .i64 (F k : Nat))) (h1 : ∀ j, j < n → F j ≠ 0) :
    Calls Tryd.prog 29 #[.slice A n c, .int .i64 0] w fun e w' => e = .returned (.int .i64 (-1)) ∧ w' = w := by
  have HS := hide hs
  have H1 := hide h1
  clear hs h1
  go_enter Tryd.func29, Tryd.ntmps29
  go_wp2
  go_loop [8] (fun i => ∃ j : Nat, j ≤ n ∧ i = .int .i64 j) (fun i => n - (intOf i).toNat)
  case atStart => exact ⟨0, Nat.zero_le _, rfl⟩
  case round =>
    obtain ⟨j, hj, rfl⟩ := hrel
    by_cases hjk : j < n
    · obtain ⟨b, off, hA, hbl, hc⟩ := HS.out j hjk
      replace hc : w.cell? ⟨b, off + j, none⟩ = some (.int .i64 (F j : Nat)) := hc
      obtain ⟨X, hX⟩ : ∃ X, F j = X := ⟨_, rfl⟩
      rw [hX] at hc
      subst hA
      have hX0 : X ≠ 0 := by rw [← hX]; exact H1.out j hjk
      have e1 : ((0 : Int) == (X : Int)) = false := by simp; omega
      clear hX
      go_wp2
      go_round
      case rel => exact ⟨j + 1, by omega, by go_num⟩
      case measure => simp [intOf] <;> omega
    · go_wp2
      go_ret
      exact ⟨rfl, rfl⟩
theorem next_fr (P K C : Nat) (w : World) (hP2 : 2 ≤ P) (hP : P < 2048) (hK : K ≤ 65536) (hc : w.cell? ⟨C, 0, none⟩ = some (.int .i64 (P : Nat))) : Next (fr P) K w.heap.size (w.alloc (.cells #[.func (.func 28) #[] #[.pointer (some ⟨C, 0, none⟩)]] 35)) := by
  intro k wr hk hb
  have hCl := World.block_lt_of_cell? w _ hc
  have hc1 : wr.cell? ⟨w.heap.size, 0, none⟩ = some (.func (.func 28) #[] #[.pointer (some ⟨C, 0, none⟩)]) := (hb.cell (p := ⟨w.heap.size, 0, none⟩) (by simp)).trans (by simp [go_sem])
  simp only at hCl
  have hc2 : wr.cell? ⟨C, 0, none⟩ = some (.int .i64 (P : Nat)) := (hb.cell (p := ⟨C, 0, none⟩) (by simp; omega)).trans (((Below.refl w.heap.size w).alloc (Nat.le_refl _) _).cell (p := ⟨C, 0, none⟩) hCl |>.trans hc)
  have hl : ∀ k, fr P k < 1024 := fun k => Nat.lt_of_lt_of_le (fr_lt hP2 k) (by
    have : bl P ≤ 11 := bl_le.2 hP
    exact Nat.pow_le_pow_right (n := 2) (j := 10) (by decide) (by omega))
  have h1 := hl (k + 1)
  have h2 := hl k
  rw [fr_two]
  exact next_rm _ C P _ _ _ _ hc1 hc2 (by omega) (by omega) (by omega) (by omega)
/-- Where the row is 0 for the first time, behind 0, up to 5000; 0 if nowhere. -/
structure At (P k : Nat) (r : Bool) : Prop where
  yes : r = true → 1 ≤ k ∧ k ≤ 5000 ∧ fr P k = 0 ∧ ∀ j, 1 ≤ j → j < k → fr P j ≠ 0
  no : r = false → k = 0 ∧ ∀ j, 1 ≤ j → j ≤ 5000 → fr P j ≠ 0
theorem ffSpec_no (p : Int) (w : World) (HA : Hid (inB p 0 2199023255551 = false)) :
    Calls Tryd.prog 14 #[.int .i64 p] w fun e w' => e = .returned (.tuple #[.int .i64 0, .bool false]) ∧ w' = w := by
  go_enter Tryd.func14, Tryd.ntmps14
  go_wp2_with (first | (go_at_call 30; refine (poGood_any _ _).mono ?_; rintro e w' ⟨rfl, hw⟩; subst w'; rw [HA.out]))
  go_ret2
  exact ⟨rfl, rfl⟩
theorem ffSpec_deg (p b : Nat) (w : World) (hp : p < 2199023255552) (HA : Hid (inB p 0 2199023255551 = true)) (HB : Hid (bl p = b)) (HD : Hid (inB ((b : Int) - 1) 1 10 = false)) :
    Calls Tryd.prog 14 #[.int .i64 p] w fun e w' => e = .returned (.tuple #[.int .i64 0, .bool false]) ∧ w' = w := by
  go_enter Tryd.func14, Tryd.ntmps14
  go_wp2_with (first | (go_at_call 30; refine (poGood_any _ _).mono ?_; rintro e w' ⟨rfl, hw⟩; subst w'; rw [HA.out]) | (go_at_call 31; refine (poDegree_any _ _ (by omega)).mono ?_; rintro e w' ⟨rfl, hw⟩; subst w'; rw [HB.out]) | (go_at_call 19; refine (l1In_any _ _ _ _).mono ?_; rintro e w' ⟨rfl, hw⟩; subst w'; rw [HD.out]))
  go_ret2
  exact ⟨rfl, rfl⟩
theorem ffImpl_no (p : Int) (w : World) (HA : Hid (inB p 0 2199023255551 = false)) :
    Calls Tryd.prog 13 #[.int .i64 p] w fun e w' => e = .returned (.tuple #[.int .i64 0, .bool false]) ∧ Below w.heap.size w w' := by
  go_enter Tryd.func13, Tryd.ntmps13
  go_wp2_with (first | (go_at_call 27; refine (isPolyOf_no _ _ _ _ HA).mono ?_; rintro e w' ⟨rfl, hw⟩; subst w'))
  go_ret2
  exact ⟨rfl, by go_grown⟩
theorem ffImpl_deg (p b : Nat) (w : World) (hp : p < 2199023255552) (HA : Hid (inB p 0 2199023255551 = true)) (HB : Hid (bl p = b)) (HD : Hid (inB ((b : Int) - 1) 1 10 = false)) :
    Calls Tryd.prog 13 #[.int .i64 p] w fun e w' => e = .returned (.tuple #[.int .i64 0, .bool false]) ∧ Below w.heap.size w w' := by
  have HE : Hid (dB p 1 10 = false) := hide (by rw [← HD.out, ← HB.out]; rfl)
  go_enter Tryd.func13, Tryd.ntmps13
  go_wp2_with (first | (go_at_call 27; refine (isPolyOf_ok _ _ _ _ hp HA).mono ?_; rintro e w' ⟨rfl, hw⟩; subst w'; rw [HE.out]))
  go_ret2
  exact ⟨rfl, by go_grown⟩
theorem ffSpec_ok (p b k : Nat) (r : Bool) (w : World) (hp : p < 2199023255552) (HA : Hid (inB p 0 2199023255551 = true)) (HB : Hid (bl p = b)) (HD : Hid (inB ((b : Int) - 1) 1 10 = true)) (hp2 : 2 ≤ p) (hp11 : p < 2048) (HT : At p k r) :
    Calls Tryd.prog 14 #[.int .i64 p] w fun e w' => e = .returned (.tuple #[.int .i64 k, .bool r]) ∧ w' = w := by
  have HF : Hid (∀ k, fr p k < 1024) := hide fun k => Nat.lt_of_lt_of_le (fr_lt hp2 k) (by
    have : bl p ≤ 11 := bl_le.2 hp11
    exact Nat.pow_le_pow_right (n := 2) (j := 10) (by decide) (by omega))
  have H2 := hide hp2
  have HT2 := hide HT
  clear HT
  go_enter Tryd.func14, Tryd.ntmps14
  go_wp2_with (first | (go_at_call 30; refine (poGood_any _ _).mono ?_; rintro e w' ⟨rfl, hw⟩; subst w'; rw [HA.out]) | (go_at_call 31; refine (poDegree_any _ _ (by omega)).mono ?_; rintro e w' ⟨rfl, hw⟩; subst w'; rw [HB.out]) | (go_at_call 19; refine (l1In_any _ _ _ _).mono ?_; rintro e w' ⟨rfl, hw⟩; subst w'; rw [HD.out]))
  go_loop [4, 5, 6] (fun b' o i => ∃ (n B O : Nat), i = .int .i64 ((n : Int) + 1) ∧ b' = .int .i64 B ∧ o = .int .i64 O ∧ n ≤ 5000 ∧ B < 1024 ∧ O < 1024 ∧ Hid (B = fr p n ∧ O = fr p (n + 1) ∧ ∀ j, 1 ≤ j → j ≤ n → fr p j ≠ 0)) (fun _ _ i => (6000 - intOf i).toNat)
  case atStart => exact ⟨0, 0, 1, rfl, rfl, rfl, by omega, by omega, by omega, hide ⟨rfl, rfl, fun j h1 h2 => absurd h1 (by omega)⟩⟩
  case round =>
    obtain ⟨n, B, O, rfl, rfl, rfl, hn, hB, hO, HI⟩ := hrel
    by_cases hend : n = 5000
    · have hr : r = false := by
        cases r
        · rfl
        · obtain ⟨h1, h2, h3, h4⟩ := HT2.out.yes rfl
          exact absurd h3 (HI.out.2.2 k h1 (by omega))
      subst hr
      obtain ⟨hk, _⟩ := HT2.out.no rfl
      subst hk hend
      clear HI
      go_wp2
      go_ret2
      exact ⟨rfl, rfl⟩
    · have hle : (n : Int) + 1 ≤ 5000 := by omega
      by_cases h0 : O = 0
      · have hr : r = true := by
          cases r
          · exact absurd (HI.out.2.1.symm.trans h0) ((HT2.out.no rfl).2 (n + 1) (by omega) (by omega))
          · rfl
        subst hr
        obtain ⟨h1, h2, h3, h4⟩ := HT2.out.yes rfl
        have hk : k = n + 1 := by
          rcases Nat.lt_trichotomy k (n + 1) with h | h | h
          · exact absurd h3 (HI.out.2.2 k h1 (by omega))
          · exact h
          · exact absurd (HI.out.2.1.symm.trans h0) (h4 (n + 1) (by omega) h)
        have e0 : ((O : Int) == 0) = true := by simp; omega
        have e7 : (n : Int) + 1 = (k : Int) := by omega
        rw [e7] at hle ⊢
        clear HI h3 h4 h0 hk e7 hend hn h2
        go_wp2
        go_ret2
        exact ⟨rfl, rfl⟩
      · have e0 : ((O : Int) == 0) = false := by simp; omega
        have hR : rm (O * 2) p < 4398046511104 := by have := rm_lt_self (p := O * 2) (q := p) (by omega); omega
        obtain ⟨R, hRe⟩ : ∃ R, rm (O * 2) p = R := ⟨_, rfl⟩
        rw [hRe] at hR
        have HR := hide hRe
        have e1 := i64_xor_nat R B (by omega) (by omega)
        have hnew : R ^^^ B = fr p (n + 2) := by rw [fr_spec H2.out, ← hRe, ← HI.out.2.1, ← HI.out.1]
        obtain ⟨Y, hY⟩ : ∃ Y, R ^^^ B = Y := ⟨_, rfl⟩
        rw [hY] at e1 hnew
        have hlt : Y < 1024 := by rw [hnew]; exact HF.out _
        have HN : Hid (O = fr p (n + 1) ∧ Y = fr p (n + 2) ∧ ∀ j, 1 ≤ j → j ≤ n + 1 → fr p j ≠ 0) := hide ⟨HI.out.2.1, hnew, fun j h1 h2 => by
          rcases Nat.lt_or_ge j (n + 1) with h | h
          · exact HI.out.2.2 j h1 (by omega)
          · rw [show j = n + 1 by omega, ← HI.out.2.1]; exact h0⟩
        clear hRe hnew HI hY hend
        go_wp2_with (go_at_call 32; rw [show (O : Int) * 2 = ((O * 2 : Nat) : Int) by omega]; refine (poRest_any (O * 2) p _ (by omega) (by omega) (by omega)).mono ?_; rintro e w' ⟨rfl, hw⟩; subst w'; rw [HR.out])
        go_round
        case rel => exact ⟨n + 1, O, Y, by go_num, rfl, rfl, by omega, hO, hlt, HN⟩
        case measure => simp [intOf] <;> omega
theorem ffImpl_ok (p b k : Nat) (r : Bool) (w : World) (hp : p < 2199023255552) (HA : Hid (inB p 0 2199023255551 = true)) (HB : Hid (bl p = b)) (HD : Hid (inB ((b : Int) - 1) 1 10 = true)) (hp2 : 2 ≤ p) (hp11 : p < 2048) (HT : At p k r) :
    Calls Tryd.prog 13 #[.int .i64 p] w fun e w' => e = .returned (.tuple #[.int .i64 k, .bool r]) ∧ Below w.heap.size w w' := by
  have hmf : ∀ (fn : Fn) (first cap : Array Value) (w : World), (Instr.makeFunc fn first cap).run Tryd.prog w = .ok (.func fn first cap) w := fun _ _ _ _ => rfl
  have HE : Hid (dB p 1 10 = true) := hide (by rw [← HD.out, ← HB.out]; rfl)
  cases r
  · obtain ⟨rfl, hno⟩ := HT.no rfl
    have HNO := hide hno
    clear hno HT
    go_enter Tryd.func13, Tryd.ntmps13
    go_wp2_with (first | (go_at_call 27; refine (isPolyOf_ok _ _ _ _ hp HA).mono ?_; rintro e w' ⟨rfl, hw⟩; subst w'; rw [HE.out]) | (go_at_call 17; refine (fibonacci_any 5000 4999 28 _ (fr p) _ (by decide) (by decide) rfl rfl (next_fr p 4999 w.heap.size _ hp2 hp11 (by omega) (by simp [go_sem]))).mono ?_; rintro e w2 ⟨A, d, m, rfl, hm, ho, hb⟩; have hs := ho.src hm; rw [fl_length] at hm; subst hm; have HS := hide hs; have HBB := hide ((by go_grown : Below w.heap.size w _).trans (hb.mono (by simp))); clear ho hb hs) | (go_at_call 29; refine (index_none _ 5000 _ (fun k => (fl (fr p) 4999).getD k 0) _ (by omega) HS.out (fun j hj => by rw [show (fl (fr p) 4999).getD j 0 = fr p (j + 1) by simp [fl, show j < 5000 by omega]]; exact HNO.out (j + 1) (by omega) (by omega))).mono ?_; rintro e w' ⟨rfl, hw⟩; subst w'))
    go_ret2
    exact ⟨rfl, HBB.out⟩
  · obtain ⟨h1, h2, h3, h4⟩ := HT.yes rfl
    obtain ⟨i, rfl⟩ : ∃ i, k = i + 1 := ⟨k - 1, by omega⟩
    have H3 := hide h3
    have H4 := hide h4
    clear h3 h4 HT
    have e9 : ((i : Int) == -1) = false := by simp
    go_enter Tryd.func13, Tryd.ntmps13
    go_wp2_with (first | (go_at_call 27; refine (isPolyOf_ok _ _ _ _ hp HA).mono ?_; rintro e w' ⟨rfl, hw⟩; subst w'; rw [HE.out]) | (go_at_call 17; refine (fibonacci_any 5000 4999 28 _ (fr p) _ (by decide) (by decide) rfl rfl (next_fr p 4999 w.heap.size _ hp2 hp11 (by omega) (by simp [go_sem]))).mono ?_; rintro e w2 ⟨A, d, m, rfl, hm, ho, hb⟩; have hs := ho.src hm; rw [fl_length] at hm; subst hm; have HS := hide hs; have HBB := hide ((by go_grown : Below w.heap.size w _).trans (hb.mono (by simp))); clear ho hb hs) | (go_at_call 29; refine (index_at _ 5000 _ i (fun k => (fl (fr p) 4999).getD k 0) _ (by omega) HS.out (by omega) (by show (fl (fr p) 4999).getD i 0 = 0; rw [show (fl (fr p) 4999).getD i 0 = fr p (i + 1) by simp [fl, show i < 5000 by omega]]; exact H3.out) (fun j hj => by rw [show (fl (fr p) 4999).getD j 0 = fr p (j + 1) by simp [fl, show j < 5000 by omega]]; exact H4.out (j + 1) (by omega) (by omega))).mono ?_; rintro e w' ⟨rfl, hw⟩; subst w'))
    go_ret2
    exact ⟨rfl, HBB.out⟩
theorem at_ex (P : Nat) : ∃ k r, At P k r := by
  by_cases hx : ∃ k, 1 ≤ k ∧ k ≤ 5000 ∧ fr P k = 0
  · obtain ⟨n, hn⟩ := hx
    obtain ⟨k, hk, ⟨h1, h2, h3⟩, h4⟩ := least_ex (P := fun k => 1 ≤ k ∧ k ≤ 5000 ∧ fr P k = 0) n hn
    exact ⟨k, true, fun _ => ⟨h1, h2, h3, fun j hj1 hj2 e => h4 j hj2 ⟨hj1, by omega, e⟩⟩, nofun⟩
  · exact ⟨0, false, nofun, fun _ => ⟨rfl, fun j h1 h2 e => hx ⟨j, h1, h2, e⟩⟩⟩
end Go.Proofs.YtibikoajejfdeaaDoor
