/-
A set taken by a list of sets: the sum of those whose indices are in it.
-/
import Derived.Test.YtdpoceijnbbmgaaDoorMD
import Derived.Test.YtdpoceijnbbmgaaDoorEA0
import Derived.Test.YtdpoceijnbbmgaaDoorZa
namespace Go.Proofs.YtdpoceijnbbmgaaDoor
open Go.RowKit
set_option maxHeartbeats 2000000
theorem m_plus (v : Value) (w : World) : (method 226 57 v "loop.example/g01146/impl.plus").run Tryd.prog w = .ok (156, v) w := by kernel_rfl
theorem n_plus (a : Int) (w : World) : (nilAhead 226 57 (.int .i64 a) "loop.example/g01146/impl.plus").run Tryd.prog w = .ok (some false) w := by kernel_rfl
attribute [local go_sem] m_plus n_plus
theorem ofF_any (Bt Bl n i : Nat) (A : Option Addr) (c t : Nat) (F : Nat → Nat) (w : World) (hi : i < n) (ht : w.cell? ⟨Bt, 0, none⟩ = some (.int .i64 (t : Nat))) (hz : w.frozen? ⟨Bt, 0, none⟩ = false) (hl : w.cell? ⟨Bl, 0, none⟩ = some (.slice A n c)) (hs : Src w A n (iv (nv F)))
    (ht2 : t < 4611686018427387904) (hF : F i < 4611686018427387904) :
    Calls Tryd.prog 88 #[.int .i64 i, .pointer (some ⟨Bt, 0, none⟩), .pointer (some ⟨Bl, 0, none⟩)] w fun e w' => e = .returned (.tuple #[]) ∧ ∃ k, w' = (w.setCell ⟨Bt, 0, none⟩ (.int .i64 (t ^^^ F i : Nat))).drewN k := by
  obtain ⟨b2, off, hA, hbl, hc0⟩ := hs i hi
  have hc : w.cell? ⟨b2, off + i, none⟩ = some (.int .i64 (F i : Nat)) := hc0
  have hki : (i : Int) < n := by omega
  clear hc0 hs
  subst hA
  go_enter Tryd.func88, Tryd.ntmps88
  go_wp2_with fail
  go_region_law (first | (go_simp; go_at_call 156; refine (subPlus_any _ _ _ ht2 hF).mono ?_; rintro e w' ⟨rfl, rfl⟩; go_simp))
  all_goals
    go_end0
    exact ⟨rfl, 1, rfl⟩
theorem Tab.grown2 {w w' : World} {b : Nat} (h : Tab w) (hg : w.grownBy w' (some b)) (hb : b ≠ 1) : Tab w' := h.grown hg hb h.lt
theorem and_small (a b : Nat) (ha : a < 9223372036854775808) (hb : b < 9223372036854775808) : bits .and .i64 (a : Int) (b : Int) = ((a &&& b : Nat) : Int) := by
  have h : a &&& b < 9223372036854775808 := Nat.lt_of_le_of_lt Nat.and_le_left ha
  show IntKind.i64.wrap ((BitVec.ofInt 64 (a : Int) &&& BitVec.ofInt 64 (b : Int)).toNat : Int) = _
  rw [BitVec.toNat_and, ofInt_i64 a (by omega), ofInt_i64 b (by omega), IntKind.wrap_i64]
  omega
theorem grown_cell {w w' : World} {b g o : Nat} {v : Value} (hg : w.grownBy w' (some b)) (hne : g ≠ b) (h : w.cell? ⟨g, o, none⟩ = some v) : w'.cell? ⟨g, o, none⟩ = some v := World.grownBy.cell hg h (fun e => by injection e with e; exact hne e)
theorem grown_src {w w' : World} {b n : Nat} {A : Option Addr} {f : Nat → Value} (hg : w.grownBy w' (some b)) (hne : ∀ g o, A = some ⟨g, o, none⟩ → g ≠ b) (h : Src w A n f) : Src w' A n f := fun k hk => by
  obtain ⟨g, o, hA, hl, hc⟩ := h k hk
  exact ⟨g, o, hA, Nat.lt_of_lt_of_le hl hg.size, grown_cell hg (hne g o hA) hc⟩
theorem eachIn_of (Bt Bl n p t : Nat) (A : Option Addr) (c : Nat) (F : Nat → Nat) (w : World) (hn : n ≤ 40) (hp : p < 2 ^ n) (hT : Tab w) (h1 : 1 < Bt) (hne : Bl ≠ Bt) (hA : ∀ g o, A = some ⟨g, o, none⟩ → g ≠ Bt)
    (ht : Blk w 57 Bt #[.int .i64 (t : Nat)]) (hl : w.cell? ⟨Bl, 0, none⟩ = some (.slice A n c)) (hs : Src w A n (iv (nv F))) (ht2 : t < 2 ^ n) (hF : ∀ k, k < n → F k < 2 ^ n) :
    Calls Tryd.prog 43 #[.int .i64 p, .func (.func 88) #[] #[.pointer (some ⟨Bt, 0, none⟩), .pointer (some ⟨Bl, 0, none⟩)]] w fun e w' => e = .returned (.tuple #[]) ∧ Blk w' 57 Bt #[.int .i64 (t ^^^ effN F p n : Nat)] ∧ w.grownBy w' (some Bt) := by
  have hp40 : (2 : Nat) ^ n ≤ 1099511627776 := Nat.pow_le_pow_right (n := 2) (j := 40) (by decide) hn
  have HT := hide hT
  have HA := hide hA
  have HTT := hide ht
  have HL := hide hl
  have HS := hide hs
  have HF := hide hF
  have HP := hide hp
  have HT2 := hide ht2
  have hpb : p < 1099511627776 := by omega
  clear hT hA ht hl hs hF hp ht2
  go_enter Tryd.func43, Tryd.ntmps43
  go_wp2
  go_loopw [0] (fun x wr => ∃ r : Nat, x = .int .i64 r ∧ r < 1099511627776 ∧ Hid (r < 2 ^ n) ∧ Hid (Blk wr 57 Bt #[.int .i64 (curE F n t p r : Nat)]) ∧ Hid (w.grownBy wr (some Bt))) (fun x _ => (intOf x).toNat)
  case atStart => exact ⟨p, rfl, hpb, HP, hide (by rw [curE_start]; exact HTT.out), hide (grownBy_of_below (Below.refl _ _) _)⟩
  case round =>
    obtain ⟨r, rfl, hr, HR, HB, HG⟩ := hrel
    by_cases h0 : r = 0
    · subst h0
      have HE : Hid (curE F n t p 0 = t ^^^ effN F p n) := hide (curE_end F n t p)
      go_wp2
      go_end0
      exact ⟨rfl, by rw [← HE.out]; exact HB.out, HG.out⟩
    · have hlow := ctz_low h0 (by have : (2 : Nat) ^ 64 = 18446744073709551616 := rfl; omega)
      obtain ⟨i, hi⟩ : ∃ i, Lib.ctz 64 r = i := ⟨_, rfl⟩
      rw [hi] at hlow
      have HI := hide hi
      have hin := bit_lt hlow.1 HR.out
      have hlt := low_lt hlow.1 hlow.2
      have hst := curE_step (T := F) (s := t) (p := p) hin hlow.1 hlow.2
      have hcur : curE F n t p r < 2 ^ n := Nat.xor_lt_two_pow HT2.out (Nat.xor_lt_two_pow (effN_lt HF.out p n (Nat.le_refl _)) (effN_lt HF.out r n (Nat.le_refl _)))
      have hFi := HF.out i hin
      have hand : bits .and .i64 (r : Int) ((r : Int) - 1) = ((r &&& (r - 1) : Nat) : Int) := by
        rw [show (r : Int) - 1 = ((r - 1 : Nat) : Int) by omega]
        exact and_small _ _ (by omega) (by omega)
      obtain ⟨R, hR⟩ : ∃ R, r &&& (r - 1) = R := ⟨_, rfl⟩
      rw [hR] at hlt hst hand
      obtain ⟨q, hq⟩ : ∃ q, curE F n t p r = q := ⟨_, rfl⟩
      rw [hq] at hst hcur
      have HB2 : Hid (Blk wr 57 Bt #[.int .i64 (q : Nat)]) := hide (by rw [← hq]; exact HB.out)
      have HST := hide hst
      have hR2 : Hid (R < 2 ^ n) := hide (Nat.lt_trans hlt HR.out)
      have hneq : ((r : Int) == 0) = false := by simp; omega
      have hneq' : ((r : Int) != 0) = true := by simp; omega
      have hwu : IntKind.u64.wrap (r : Int) = (r : Int) := by rw [IntKind.wrap_u64]; omega
      have HTR := hide (HT.out.grown2 HG.out (by omega))
      have hcl := grown_cell HG.out hne HL.out
      have HCL := hide hcl
      have HSr := hide (grown_src HG.out HA.out HS.out)
      have hqb : q < 4611686018427387904 := by omega
      have hFb : F i < 4611686018427387904 := by omega
      clear hlow hR hi hq hst hcl hFi hcur
      go_wp2_with (first
        | (go_at_call 83; refine (ctz_any _ (by omega) _ HTR.out).mono ?_; rintro e w3 ⟨rfl, rfl⟩; rw [HI.out])
        | (go_at_call 88; refine (ofF_any Bt Bl n i A c q F _ hin (HB2.out.cell 0) (HB2.out.frozen 0) HCL.out HSr.out hqb hFb).mono ?_; rintro e w3 ⟨rfl, kk, hw3⟩))
      refine ⟨⟨R, rfl, by omega, hR2, hide ?_, hide ?_⟩, by simp [intOf]; omega⟩
      · subst hw3
        have := (HB2.out.set 0 (.int .i64 (q ^^^ F i : Nat))).drewN kk
        rw [HST.out]
        simpa using this
      · subst hw3
        exact grownBy_drewN (grownBy_setCell HG.out _) kk
end Go.Proofs.YtdpoceijnbbmgaaDoor
