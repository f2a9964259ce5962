/-
The law of Fibonacci's polynomials, case by case.
-/
import Derived.Test.YtibikoajejfdeaaDoorFX
import Derived.Test.YtibikoajejfdeaaDoorDQ
import Derived.Test.YtibikoajejfdeaaDoorTD
import Derived.Test.YtibikoajejfdeaaDoorTE
import Derived.Test.YtibikoajejfdeaaDoorTR
import Derived.Test.YtibikoajejfdeaaDoorTV
namespace Go.Proofs.YtibikoajejfdeaaDoor
open Go.RowKit
set_option maxHeartbeats 8000000
set_option maxRecDepth 100000
theorem BW {P : Program} {f : FuncId} {args : Array Value} {w : World} {r : Ending} (h : Calls P f args w fun e w' => e = r ∧ w' = w) : Calls P f args w fun e w' => e = r ∧ Below w.heap.size w w' :=
  h.mono fun _ _ ⟨h1, h2⟩ => ⟨h1, by rw [h2]; exact Below.refl _ _⟩
theorem inB_no {a lo hi : Int} (h : ¬ (lo ≤ a ∧ a ≤ hi)) : inB a lo hi = false := by simp only [inB, decide_eq_false_iff_not]; exact h
theorem inB_ok {a lo hi : Int} (h : lo ≤ a ∧ a ≤ hi) : inB a lo hi = true := by simp only [inB, decide_eq_true_eq]; exact h
theorem in_nat0 {a : Int} (h : inB a 0 41 = true) : ∃ n : Nat, a = (n : Int) ∧ n ≤ 41 := by
  simp only [inB, decide_eq_true_eq] at h
  exact ⟨a.toNat, by omega, by omega⟩
theorem fibImpl (n : Nat) (w : World) (hn : n ≤ 41) : Calls Tryd.prog 6 #[.int .i64 (n : Nat)] w fun e w' => e = .returned (.tuple #[.int .i64 (fi n : Nat), .bool true]) ∧ Below w.heap.size w w' := by
  by_cases h : n = 0
  · subst h; exact BW (fbImpl_zero w)
  · exact fbImpl_ok n (n - 1) w (by omega) hn
theorem fibImplI (a : Int) (n : Nat) (w : World) (ea : a = (n : Int)) (hn : n ≤ 41) : Calls Tryd.prog 6 #[.int .i64 a] w fun e w' => e = .returned (.tuple #[.int .i64 (fi n : Nat), .bool true]) ∧ Below w.heap.size w w' := by
  subst ea; exact fibImpl n w hn
theorem fibSpec (n : Nat) (w : World) (hn : n ≤ 41) : Calls Tryd.prog 7 #[.int .i64 (n : Nat)] w fun e w' => e = .returned (.tuple #[.int .i64 (fi n : Nat), .bool true]) ∧ Below w.heap.size w w' :=
  BW (fbSpec_ok n w hn (hide (inB_ok (by omega))))
theorem fibNoI (a : Int) (w : World) (h : inB a 0 41 = false) : Calls Tryd.prog 6 #[.int .i64 a] w fun e w' => e = .returned (.tuple #[.int .i64 0, .bool false]) ∧ Below w.heap.size w w' := by
  have h2 : a < 0 ∨ 41 < a := by simp only [inB, decide_eq_false_iff_not] at h; omega
  rcases h2 with h2 | h2
  · exact BW (fbImpl_neg a w h2)
  · exact BW (fbImpl_big a w h2)
theorem fibNoS (a : Int) (w : World) (h : inB a 0 41 = false) : Calls Tryd.prog 7 #[.int .i64 a] w fun e w' => e = .returned (.tuple #[.int .i64 0, .bool false]) ∧ Below w.heap.size w w' :=
  BW (fbSpec_no a w (hide h))
theorem in41 {p : Nat} (h : p < 2199023255552) : Hid (inB p 0 2199023255551 = true) := hide (inB_ok (by omega))
theorem gcdV (i j : Nat) (w : World) (hi : i ≤ 41) (hj : j ≤ 41) : Calls Tryd.prog 8 #[.int .i64 (fi i : Nat), .int .i64 (fi j : Nat)] w fun e w' => e = .returned (.tuple #[.int .i64 (fi (gn2 j i j) : Nat), .bool true]) ∧ Below w.heap.size w w' := by
  rw [← fi_gcd hi hj]
  exact BW (gcImpl_ok (fi i) (fi j) w (fi_41 hi) (fi_41 hj) (in41 (fi_41 hi)) (in41 (fi_41 hj)))
theorem degV (n : Nat) (w : World) (h1 : 1 ≤ n) (hn : n ≤ 41) : Calls Tryd.prog 10 #[.int .i64 (fi n : Nat)] w fun e w' => e = .returned (.tuple #[.int .i64 ((n : Int) - 1), .bool true]) ∧ Below w.heap.size w w' := by
  have h := degImpl_ok (fi n) w (fi_41 hn) (in41 (fi_41 hn))
  rw [fi_bl hn] at h
  exact BW h
theorem sqV (n : Nat) (w : World) (h1 : 1 ≤ n) (hn : n ≤ 21) (hT : Tab w) : Calls Tryd.prog 11 #[.int .i64 (fi n : Nat), .int .i64 (fi n : Nat)] w fun e w' => e = .returned (.tuple #[.int .i64 (cm n (fi n) (fi n) : Nat), .bool true]) ∧ Below w.heap.size w w' :=
  tmImpl_ok (fi n) (fi n) n n w (fi_41 (by omega)) (fi_41 (by omega)) (in41 (fi_41 (by omega))) (in41 (fi_41 (by omega))) (hide (fi_bl (by omega))) (hide (fi_bl (by omega))) (by omega) hT
theorem sqNo (n : Nat) (w : World) (h1 : 22 ≤ n) (hn : n ≤ 41) : Calls Tryd.prog 11 #[.int .i64 (fi n : Nat), .int .i64 (fi n : Nat)] w fun e w' => e = .returned (.tuple #[.int .i64 0, .bool false]) ∧ Below w.heap.size w w' :=
  tmImpl_c (fi n) (fi n) n n w (fi_41 hn) (fi_41 hn) (in41 (fi_41 hn)) (in41 (fi_41 hn)) (hide (fi_bl hn)) (hide (fi_bl hn)) (by omega)
theorem sq2V (n : Nat) (w : World) (h1 : 1 ≤ n) (hn : n ≤ 20) (hT : Tab w) : Calls Tryd.prog 11 #[.int .i64 (cm n (fi n) (fi n) : Nat), .int .i64 2] w fun e w' => e = .returned (.tuple #[.int .i64 (fi (2 * n) : Nat), .bool true]) ∧ Below w.heap.size w w' := by
  obtain ⟨h2, h3⟩ := fi_sq h1 hn
  have hlt : cm n (fi n) (fi n) < 2199023255552 := by
    have := lt_bl (cm n (fi n) (fi n))
    rw [h3] at this
    exact Nat.lt_of_lt_of_le this (Nat.pow_le_pow_right (n := 2) (j := 41) (by decide) (by omega))
  rw [← h2]
  exact tmImpl_ok (cm n (fi n) (fi n)) 2 (2 * n - 1) 2 w hlt (by omega) (in41 hlt) (in41 (by omega)) (hide h3) (hide rfl) (by omega) hT
theorem divV (a P r : Nat) (w : World) (ha : a < 2199023255552) (hp2 : 2 ≤ P) (hp11 : P < 2048) (hr : rm a P = r) : Calls Tryd.prog 15 #[.int .i64 (a : Nat), .int .i64 (P : Nat)] w fun e w' => e = .returned (.tuple #[.int .i64 (qu a P : Nat), .int .i64 (r : Nat), .bool true]) ∧ Below w.heap.size w w' := by
  rw [← hr]
  exact BW (dvImpl_ok a P w ha (by omega) (by omega) (in41 ha) (in41 (by omega)))
theorem vGcd_any (a b : Nat) (w : World) (ha : a ≤ 41) (hb : b ≤ 41) : Calls Tryd.prog 9 #[.int .i64 (a : Nat), .int .i64 (b : Nat)] w fun e w' => e = .returned (.int .i64 (gn2 b a b : Nat)) ∧ Below w.heap.size w w' := by
  obtain ⟨G, hG⟩ : ∃ G, gn2 b a b = G := ⟨_, rfl⟩
  have HG := hide hG
  rw [hG]
  clear hG
  go_enter Tryd.func9, Tryd.ntmps9
  go_wp2
  go_loopw [0, 1] (fun x y wr => ∃ (s t k : Nat), x = .int .i64 s ∧ y = .int .i64 t ∧ s ≤ 41 ∧ t ≤ 41 ∧ t ≤ k ∧ Hid (gn2 k s t = G) ∧ Hid (Below w.heap.size w wr)) (fun _ y _ => (intOf y).toNat)
  case atStart => exact ⟨a, b, b, rfl, rfl, ha, hb, Nat.le_refl _, HG, hide (Below.refl _ _)⟩
  case round =>
    obtain ⟨s, t, k, rfl, rfl, hs, ht, hk, HK, HW⟩ := hrel
    by_cases h0 : t = 0
    · subst h0
      have he : s = G := by rw [← HK.out, gn2_zero]
      go_wp2
      go_ret
      exact ⟨by rw [← he]; rfl, HW.out⟩
    · have hm : (s : Int).tmod (t : Int) = ((s % t : Nat) : Int) := (Int.ofNat_tmod s t).symm
      have hlt : s % t < t := Nat.mod_lt _ (by omega)
      have h0' : ((t : Int) == 0) = false := by simp; omega
      obtain ⟨k2, rfl⟩ : ∃ k2, k = k2 + 1 := ⟨k - 1, by omega⟩
      have HK2 : Hid (gn2 k2 t (s % t) = G) := hide (by rw [← HK.out, gn2_step h0])
      obtain ⟨r, hr⟩ : ∃ r, s % t = r := ⟨_, rfl⟩
      rw [hr] at hm hlt HK2
      clear hr HK
      go_wp2
      go_roundw
      case rel => exact ⟨t, r, k2, rfl, rfl, ht, by omega, by omega, HK2, HW⟩
      case measure => simp [intOf]; omega
theorem first_cases (p : Int) : Hid ((∀ w, Calls Tryd.prog 13 #[.int .i64 p] w fun e w' => e = .returned (.tuple #[.int .i64 0, .bool false]) ∧ Below w.heap.size w w') ∧ (∀ w, Calls Tryd.prog 14 #[.int .i64 p] w fun e w' => e = .returned (.tuple #[.int .i64 0, .bool false]) ∧ Below w.heap.size w w')) ∨
    ∃ P k : Nat, p = (P : Int) ∧ 2 ≤ P ∧ P < 2048 ∧ Hid ((∀ w, Calls Tryd.prog 13 #[.int .i64 (P : Nat)] w fun e w' => e = .returned (.tuple #[.int .i64 k, .bool true]) ∧ Below w.heap.size w w') ∧ (∀ w, Calls Tryd.prog 14 #[.int .i64 (P : Nat)] w fun e w' => e = .returned (.tuple #[.int .i64 k, .bool true]) ∧ Below w.heap.size w w') ∧ (1 ≤ k ∧ k ≤ 5000) ∧ rm (fi k) P = 0 ∧ ∀ j, 1 ≤ j → j < k → rm (fi j) P ≠ 0) := by
  cases HA : inB p 0 2199023255551
  · exact .inl (hide ⟨fun w => ffImpl_no p w (hide HA), fun w => BW (ffSpec_no p w (hide HA))⟩)
  · obtain ⟨P, rfl, hP⟩ : ∃ P : Nat, p = (P : Int) ∧ P < 2199023255552 := by
      simp only [inB, decide_eq_true_eq] at HA
      exact ⟨p.toNat, by omega, by omega⟩
    cases HD : inB ((bl P : Int) - 1) 1 10
    · exact .inl (hide ⟨fun w => ffImpl_deg P (bl P) w hP (hide HA) (hide rfl) (hide HD), fun w => BW (ffSpec_deg P (bl P) w hP (hide HA) (hide rfl) (hide HD))⟩)
    · have hb : 2 ≤ bl P ∧ bl P ≤ 11 := by simp only [inB, decide_eq_true_eq] at HD; omega
      have h2 : 2 ≤ P := by
        rcases Nat.lt_or_ge P 2 with h | h
        · have : bl P ≤ 1 := bl_le.2 (by omega)
          omega
        · exact h
      have h11 : P < 2048 := bl_le.1 hb.2
      obtain ⟨k, r, hAt⟩ := at_ex P
      cases r
      · obtain ⟨rfl, _⟩ := hAt.no rfl
        exact .inl (hide ⟨fun w => ffImpl_ok P (bl P) 0 false w hP (hide HA) (hide rfl) (hide HD) h2 h11 hAt, fun w => BW (ffSpec_ok P (bl P) 0 false w hP (hide HA) (hide rfl) (hide HD) h2 h11 hAt)⟩)
      · obtain ⟨a1, a2, a3, a4⟩ := hAt.yes rfl
        refine .inr ⟨P, k, rfl, h2, h11, hide ⟨fun w => ffImpl_ok P (bl P) k true w hP (hide HA) (hide rfl) (hide HD) h2 h11 hAt, fun w => BW (ffSpec_ok P (bl P) k true w hP (hide HA) (hide rfl) (hide HD) h2 h11 hAt), ⟨a1, a2⟩, ?_, fun j h1 hj => ?_⟩⟩
        · rw [← fr_fi h2]; exact a3
        · rw [← fr_fi h2]; exact a4 j h1 hj
end Go.Proofs.YtibikoajejfdeaaDoor
